/- Contracts of what two lists of places share, of the program and of its model, and of who is lost. -/
import Derived.Test.YtdeggdhcleanmaaDoorMapB
import Derived.IntWalk
import Derived.Deep.QuietTactic
import Derived.BigQuiet
namespace Go.Proofs.YtdeggdhcleanmaaDoor.Cros
open Go.RowKit Kit Rw Inf Mb

def crossOf (A B : List Int) : List Int := A.filter fun x => decide (x ∈ B)
theorem cross_len (A B : List Int) : (crossOf A B).length ≤ A.length := List.length_filter_le _ _
theorem cross_0 (A B : List Int) : crossOf (A.take 0) B = [] := by simp [crossOf]
theorem cross_next {A B : List Int} {j : Nat} (h : j < A.length) : crossOf (A.take (j + 1)) B = crossOf (A.take j) B ++ (if decide (A.getD j 0 ∈ B) = true then [A.getD j 0] else []) := by
  have e : A[j] = A.getD j 0 := by simp [h]
  unfold crossOf
  rw [List.take_succ_eq_append_getElem h, List.filter_append, e]
  congr 1
  simp only [List.filter_cons, List.filter_nil]
theorem cross_take {A B : List Int} {j : Nat} : (crossOf (A.take j) B).length ≤ A.length := Nat.le_trans (cross_len _ _) (by simp; omega)
theorem info_int : (Tryd.prog.info? 3).map (fun i => (i.zero, i.size, i.bytes)) = some (some (.int .i64 0), 1, 8) := by kernel_rfl

set_option maxHeartbeats 1000000 in
theorem sHas_any (w : World) (u : Value) (x : Int) (L : List Int) (hu : Sees .i64 w u L) :
    Calls Tryd.prog 66 #[u, .int .i64 x] w fun e w' => e = .returned (.bool (decide (x ∈ L))) ∧ w' = w := by
  have hl := hu.len
  obtain ⟨a, n, cap, rfl, HN⟩ := hu.shape
  have HU := Lib.hid hu
  have hl2 : n ≤ 9223372036854775807 := by rw [← HN.out]; exact hl
  clear hu hl
  go_enter Tryd.func66, Tryd.ntmps66
  go_wp2
  go_loop [5] (fun i => ∃ j : Nat, j ≤ n ∧ i = .int .i64 j ∧ Hid (∀ m, m < j → L.getD m 0 ≠ x)) (fun i => n - (intOf i).toNat)
  case atStart => exact ⟨0, Nat.zero_le _, rfl, fun m hm => absurd hm (Nat.not_lt_zero _)⟩
  case round =>
    obtain ⟨j, hj, rfl, HE⟩ := hrel
    by_cases hlt : j < n
    · obtain ⟨y, hy⟩ : ∃ y, y = L.getD j 0 := ⟨_, rfl⟩
      obtain ⟨b, o, rfl, hcj⟩ := HU.out.at_row (j := j) (by rw [HN.out]; exact hlt)
      rw [← hy] at hcj
      have HY := Lib.hid hy
      clear hy
      by_cases hne : y = x
      · have hm : x ∈ L := by
          rw [← hne, HY.out]; exact mem_getD (by rw [HN.out]; exact hlt)
        have HM : Hid (decide (x ∈ L) = true) := by show _ = _; simpa using hm
        clear hm
        go_wp2
        go_ret
        exact ⟨ret_bool HM.out.symm, rfl⟩
      · go_wp2
        go_round
        case rel =>
          refine ⟨j + 1, by omega, by go_num, fun m hm => ?_⟩
          by_cases h : m = j
          · subst h; rw [← HY.out]; exact hne
          · exact HE.out m (by omega)
        case measure => simp [intOf]; omega
    · have hjn : n = j := by omega
      subst hjn
      have hm : ¬ x ∈ L := by
        intro h
        obtain ⟨j, hj, e⟩ := List.getElem_of_mem h
        exact HE.out j (by rw [← HN.out]; exact hj) (by simp [hj, e])
      have HM : Hid (decide (x ∈ L) = false) := by show _ = _; simpa using hm
      clear hm
      go_wp2
      go_ret
      exact ⟨ret_bool HM.out.symm, rfl⟩

set_option maxRecDepth 20000 in
set_option maxHeartbeats 1000000 in
theorem sCross_any (w : World) (u v : Value) (A B : List Int) (hu : Sees .i64 w u A) (hv : Sees .i64 w v B) (hA : A.length ≤ 1000000000) :
    Calls Tryd.prog 63 #[u, v] w fun e w' => ∃ r, e = .returned r ∧ Own .i64 3 w' w.heap.size r (crossOf A B) ∧ w.grownBy w' none := by
  obtain ⟨a, n, cap, rfl, HN⟩ := hu.shape
  have HU := Lib.hid hu
  have HV := Lib.hid hv
  have HWF := Lib.hid hu.wf
  clear hu hv
  obtain ⟨i0, hi, hz0, hz1, hz2⟩ := info_parts info_int
  have HW : Hid (Own .i64 3 (w.alloc (.cells #[] 3 (0, 0))) w.heap.size (.slice (some ⟨w.heap.size, 0, none⟩) 0 0) (crossOf (A.take 0) B)) := by rw [cross_0]; exact own_empty w
  have HG0 := Lib.hid (World.grownBy_alloc w (.cells #[] 3 (0, 0)) none)
  have hn : n ≤ 1000000000 := by rw [← HN.out]; exact hA
  go_enter Tryd.func63, Tryd.ntmps63
  go_wp2
  go_loopw [5, 6] (fun r i wr => ∃ j : Nat, j ≤ n ∧ i = .int .i64 j ∧ Hid (Own .i64 3 wr w.heap.size r (crossOf (A.take j) B)) ∧ Hid (w.grownBy wr none)) (fun _ i _ => n - (intOf i).toNat)
  case atStart => exact ⟨0, Nat.zero_le _, rfl, HW, HG0⟩
  case round =>
    rename_i r _ wr
    obtain ⟨j, hj, rfl, HO, HG⟩ := hrel
    by_cases hlt : j < n
    · have hjA : j < A.length := by rw [HN.out]; exact hlt
      obtain ⟨x, hx⟩ : ∃ x, x = A.getD j 0 := ⟨_, rfl⟩
      obtain ⟨b, o, rfl, hcj⟩ := (HU.out.grown HG.out).at_row (j := j) hjA
      rw [← hx] at hcj
      have HN1 := Lib.hid (cross_next (B := B) hjA)
      have HXI : Hid (-9223372036854775808 ≤ x ∧ x ≤ 9223372036854775807) := by rw [hx]; exact i64_of (HWF.out _ (mem_getD hjA))
      have HLL : Hid ((crossOf (A.take j) B).length ≤ 1000000000) := by have := cross_take (A := A) (B := B) (j := j); show _ ≤ _; omega
      have HS := Lib.hid (sHas_any wr v x B (HV.out.grown HG.out))
      have HX := Lib.hid hx
      clear hx
      cases hd : decide (x ∈ B)
      · have HE : Hid (crossOf (A.take (j + 1)) B = crossOf (A.take j) B) := by show _ = _; rw [HN1.out, ← HX.out, hd]; simp
        go_wp2_with fail
        refine HS.out.mono ?_
        rintro e w3 ⟨rfl, rfl⟩
        rw [hd]
        clear hd
        go_wp2
        go_roundw
        case rel => exact ⟨j + 1, by omega, by go_num, by rw [HE.out]; exact HO, HG⟩
        case measure => simp [intOf]; omega
      · have HE : Hid (crossOf (A.take (j + 1)) B = crossOf (A.take j) B ++ [x]) := by show _ = _; rw [HN1.out, ← HX.out, hd]; simp
        go_wp2_with fail
        refine HS.out.mono ?_
        rintro e w3 ⟨rfl, rfl⟩
        rw [hd]
        clear hd
        go_wp2_with (at_builtin; go_loud (refine wpList_append_one _ rfl _ _ 24 rfl w.heap.size 3 i0 (.int .i64 0) 8 Tryd.underlying24 hi hz0 hz1 hz2 rfl .i64 _ (crossOf (A.take j) B) rfl HO.out x rfl (i64_mk HXI.out) (by have := HLL.out; omega) (by decide) HG.out.size ?_); intro v4 w4 hown4 hgrow4; have HO4 := Lib.hid hown4; have HG4 := Lib.hid (grown_new HG.out hgrow4 (fun c hc => (HO.out.lt c hc).1)); clear hown4 hgrow4)
        go_roundw
        case rel => exact ⟨j + 1, by omega, by go_num, by rw [HE.out]; exact HO4, HG4⟩
        case measure => simp [intOf]; omega
    · have hjn : j = n := by omega
      subst hjn
      go_wp2
      go_ret
      exact ⟨_, rfl, by have := HO.out; rw [← HN.out, List.take_length] at this; exact this, HG.out⟩

def stillOf (A B : List Int) : List Int := A.filter fun x => !decide (x ∈ B)
theorem still_len (A B : List Int) : (stillOf A B).length ≤ A.length := List.length_filter_le _ _
theorem still_0 (A B : List Int) : stillOf (A.take 0) B = [] := by simp [stillOf]
theorem still_next {A B : List Int} {j : Nat} (h : j < A.length) : stillOf (A.take (j + 1)) B = stillOf (A.take j) B ++ (if (!decide (A.getD j 0 ∈ B)) = true then [A.getD j 0] else []) := by
  have e : A[j] = A.getD j 0 := by simp [h]
  unfold stillOf
  rw [List.take_succ_eq_append_getElem h, List.filter_append, e]
  congr 1
  simp only [List.filter_cons, List.filter_nil]
theorem still_take {A B : List Int} {j : Nat} : (stillOf (A.take j) B).length ≤ A.length := Nat.le_trans (still_len _ _) (by simp; omega)
theorem sHas_c (w : World) (u : Value) (x : Int) (L : List Int) (hu : Sees .i64 w u L) :
    Calls Tryd.prog 66 #[u, .int .i64 x] w fun e w' => e = .returned (.bool (decide (x ∈ L))) ∧ w = w' := (sHas_any w u x L hu).mono fun _ _ h => ⟨h.1, h.2.symm⟩
set_option maxRecDepth 20000 in
set_option maxHeartbeats 1000000 in
theorem index_neg (w : World) (u : Value) (x : Int) (L : List Int) (hu : Sees .i64 w u L) :
    Calls Tryd.prog 88 #[u, .int .i64 x] w fun e w' => ∃ p, e = .returned (.int .i64 p) ∧ (0 ≤ p ↔ x ∈ L) ∧ w = w' := by
  have hl := hu.len
  obtain ⟨a, n, cap, rfl, HN⟩ := hu.shape
  have HU := Lib.hid hu
  have hl2 : n ≤ 9223372036854775807 := by rw [← HN.out]; exact hl
  clear hu hl
  go_enter Tryd.func88, Tryd.ntmps88
  go_wp2
  go_loop [8] (fun i => ∃ j : Nat, j ≤ n ∧ i = .int .i64 j ∧ Hid (∀ m, m < j → L.getD m 0 ≠ x)) (fun i => n - (intOf i).toNat)
  case atStart => exact ⟨0, Nat.zero_le _, rfl, fun m hm => absurd hm (Nat.not_lt_zero _)⟩
  case round =>
    obtain ⟨j, hj, rfl, HE⟩ := hrel
    by_cases hlt : j < n
    · obtain ⟨y, hy⟩ : ∃ y, y = L.getD j 0 := ⟨_, rfl⟩
      obtain ⟨b, o, rfl, hcj⟩ := HU.out.at_row (j := j) (by rw [HN.out]; exact hlt)
      rw [← hy] at hcj
      have HY := Lib.hid hy
      clear hy
      by_cases hne : x = y
      · have HR : Hid (x ∈ L) := by show _ ∈ _; rw [hne, HY.out]; exact mem_getD (by rw [HN.out]; exact hlt)
        subst hne
        go_wp2
        go_ret
        exact ⟨_, rfl, ⟨fun _ => HR.out, fun _ => by omega⟩, rfl⟩
      · go_wp2
        go_round
        case rel =>
          refine ⟨j + 1, by omega, by go_num, fun m hm => ?_⟩
          by_cases h : m = j
          · subst h; rw [← HY.out]; exact fun e => hne e.symm
          · exact HE.out m (by omega)
        case measure => simp [intOf]; omega
    · have hjn : n = j := by omega
      subst hjn
      have HM : Hid (¬ x ∈ L) := by
        intro h
        obtain ⟨j, hj, e⟩ := List.getElem_of_mem h
        exact HE.out j (by rw [← HN.out]; exact hj) (by simp [hj, e])
      go_wp2
      go_ret
      exact ⟨_, rfl, ⟨fun h => by omega, fun h => absurd h HM.out⟩, rfl⟩

def isFound (A B : List Int) (x : Int) : Bool := decide (x ∈ A) && decide (x ∈ B)
end Go.Proofs.YtdeggdhcleanmaaDoor.Cros
