/- Contracts of what two lists of places share, of the program and of its model, and of who is lost. -/
import Derived.Test.YtinpnedijmmpgaaMapB
import Derived.IntWalk
import Derived.Deep.QuietTactic
import Derived.BigQuiet
namespace Go.Proofs.Ytinpnedijmmpgaa.Cros
open Go.RowKit Kit Rw Inf Mb

def crossOf (A B : List Int) : List Int := A.filter fun x => decide (x ∈ B)
theorem cross_len (A B : List Int) : (crossOf A B).length ≤ A.length := List.length_filter_le _ _
theorem cross_0 (A B : List Int) : crossOf (A.take 0) B = [] := by simp [crossOf]
theorem cross_next {A B : List Int} {j : Nat} (h : j < A.length) : crossOf (A.take (j + 1)) B = crossOf (A.take j) B ++ (if decide (A.getD j 0 ∈ B) = true then [A.getD j 0] else []) := by
  have e : A[j] = A.getD j 0 := by simp [h]
  unfold crossOf
  rw [List.take_succ_eq_append_getElem h, List.filter_append, e]
  congr 1
  simp only [List.filter_cons, List.filter_nil]
theorem cross_take {A B : List Int} {j : Nat} : (crossOf (A.take j) B).length ≤ A.length := Nat.le_trans (cross_len _ _) (by simp; omega)
theorem info_int : (Try.prog.info? 3).map (fun i => (i.zero, i.size, i.bytes)) = some (some (.int .i64 0), 1, 8) := by kernel_rfl

set_option maxHeartbeats 1000000 in
theorem sHas_any (w : World) (u : Value) (x : Int) (L : List Int) (hu : Sees .i64 w u L) :
    Calls Try.prog 68 #[u, .int .i64 x] w fun e w' => e = .returned (.bool (decide (x ∈ L))) ∧ w' = w := by
  have hl := hu.len
  obtain ⟨a, n, cap, rfl, HN⟩ := hu.shape
  have HU := Lib.hid hu
  have hl2 : n ≤ 9223372036854775807 := by rw [← HN.out]; exact hl
  clear hu hl
  go_enter Try.func68, Try.ntmps68
  go_wp2
  go_loop [5] (fun i => ∃ j : Nat, j ≤ n ∧ i = .int .i64 j ∧ Hid (∀ m, m < j → L.getD m 0 ≠ x)) (fun i => n - (intOf i).toNat)
  case atStart => exact ⟨0, Nat.zero_le _, rfl, fun m hm => absurd hm (Nat.not_lt_zero _)⟩
  case round =>
    obtain ⟨j, hj, rfl, HE⟩ := hrel
    by_cases hlt : j < n
    · obtain ⟨y, hy⟩ : ∃ y, y = L.getD j 0 := ⟨_, rfl⟩
      obtain ⟨b, o, rfl, hcj⟩ := HU.out.at_row (j := j) (by rw [HN.out]; exact hlt)
      rw [← hy] at hcj
      have HY := Lib.hid hy
      clear hy
      by_cases hne : y = x
      · have hm : x ∈ L := by
          rw [← hne, HY.out]; exact mem_getD (by rw [HN.out]; exact hlt)
        have HM : Hid (decide (x ∈ L) = true) := by show _ = _; simpa using hm
        clear hm
        go_wp2
        go_ret
        exact ⟨ret_bool HM.out.symm, rfl⟩
      · go_wp2
        go_round
        case rel =>
          refine ⟨j + 1, by omega, by go_num, fun m hm => ?_⟩
          by_cases h : m = j
          · subst h; rw [← HY.out]; exact hne
          · exact HE.out m (by omega)
        case measure => simp [intOf]; omega
    · have hjn : n = j := by omega
      subst hjn
      have hm : ¬ x ∈ L := by
        intro h
        obtain ⟨j, hj, e⟩ := List.getElem_of_mem h
        exact HE.out j (by rw [← HN.out]; exact hj) (by simp [hj, e])
      have HM : Hid (decide (x ∈ L) = false) := by show _ = _; simpa using hm
      clear hm
      go_wp2
      go_ret
      exact ⟨ret_bool HM.out.symm, rfl⟩

set_option maxRecDepth 20000 in
set_option maxHeartbeats 1000000 in
theorem setOf_any (w : World) (v : Value) (B : List Int) (hv : Sees .i64 w v B) (hB : B.length ≤ 100000000) :
    Calls Try.prog 69 #[v] w fun e w' => ∃ b, e = .returned (.map (some b)) ∧ IsS w' b B.length B ∧ w.heap.size ≤ b ∧ w.grownBy w' none := by
  have hmm := fun (w : World) (k : IntKind) (n : Int) => run_make_hint Try.underlying66 w k n
  obtain ⟨a', n', cap', rfl, HN'⟩ := hv.shape
  have HV := Lib.hid hv
  have HWF' := Lib.hid hv.wf
  have hn' : n' ≤ 100000000 := by rw [← HN'.out]; exact hB
  clear hv
  have HM0 : Hid (IsS (w.alloc (.map #[] 0)) w.heap.size 0 (B.take 0)) := by rw [List.take_zero]; exact isS_made w
  have HG0 := Lib.hid (World.grownBy_alloc w (.map #[] 0) none)
  go_enter Try.func69, Try.ntmps69
  go_wp2
  go_loopw [11] (fun i wr => ∃ j : Nat, j ≤ n' ∧ i = .int .i64 j ∧ Hid (IsS wr w.heap.size j (B.take j)) ∧ Hid (w.grownBy wr none)) (fun i _ => n' - (intOf i).toNat)
  case atStart => exact ⟨0, Nat.zero_le _, rfl, HM0, HG0⟩
  case round =>
    rename_i _ wr
    obtain ⟨j, hj, rfl, HM, HG⟩ := hrel
    by_cases hlt : j < n'
    · have hjB : j < B.length := by rw [HN'.out]; exact hlt
      obtain ⟨x, hx⟩ : ∃ x, x = B.getD j 0 := ⟨_, rfl⟩
      obtain ⟨b, o, rfl, hcj⟩ := (HV.out.grown HG.out).at_row (j := j) hjB
      rw [← hx] at hcj
      have HXI : Hid (-9223372036854775808 ≤ x ∧ x ≤ 9223372036854775807) := by rw [hx]; exact i64_of (HWF'.out _ (mem_getD hjB))
      have HE : Hid (B.take (j + 1) = B.take j ++ [x]) := by
        show _ = _
        rw [List.take_succ_eq_append_getElem hjB, hx]
        simp [hjB]
      clear hx
      go_wp2_with (at_mapUpdate; go_loud (refine wpS_store _ rfl _ _ _ 66 rfl Try.underlying66 w.heap.size j _ rfl HM.out (by omega) x (i64_mk HXI.out) rfl rfl ?_); intro w3 hm3 hg3; have HM3 := Lib.hid hm3; have HG3 := Lib.hid (grown_new HG.out hg3 (fun c hc => by injection hc with hc; omega)); clear hm3 hg3)
      go_roundw
      case rel => exact ⟨j + 1, by omega, by go_num, by rw [HE.out]; exact HM3, HG3⟩
      case measure => simp [intOf]; omega
    · have hjn : j = n' := by omega
      subst hjn
      go_wp2
      go_ret
      exact ⟨_, rfl, by have := HM.out; rw [← HN'.out, List.take_length] at this; rw [HN'.out] at this ⊢; exact this, Nat.le_refl _, HG.out⟩

def stillOf (A B : List Int) : List Int := A.filter fun x => !decide (x ∈ B)
theorem still_len (A B : List Int) : (stillOf A B).length ≤ A.length := List.length_filter_le _ _
theorem still_0 (A B : List Int) : stillOf (A.take 0) B = [] := by simp [stillOf]
theorem still_next {A B : List Int} {j : Nat} (h : j < A.length) : stillOf (A.take (j + 1)) B = stillOf (A.take j) B ++ (if (!decide (A.getD j 0 ∈ B)) = true then [A.getD j 0] else []) := by
  have e : A[j] = A.getD j 0 := by simp [h]
  unfold stillOf
  rw [List.take_succ_eq_append_getElem h, List.filter_append, e]
  congr 1
  simp only [List.filter_cons, List.filter_nil]
theorem still_take {A B : List Int} {j : Nat} : (stillOf (A.take j) B).length ≤ A.length := Nat.le_trans (still_len _ _) (by simp; omega)
theorem sHas_c (w : World) (u : Value) (x : Int) (L : List Int) (hu : Sees .i64 w u L) :
    Calls Try.prog 68 #[u, .int .i64 x] w fun e w' => e = .returned (.bool (decide (x ∈ L))) ∧ w = w' := (sHas_any w u x L hu).mono fun _ _ h => ⟨h.1, h.2.symm⟩
def isFound (A B : List Int) (x : Int) : Bool := decide (x ∈ A) && decide (x ∈ B)
end Go.Proofs.Ytinpnedijmmpgaa.Cros
