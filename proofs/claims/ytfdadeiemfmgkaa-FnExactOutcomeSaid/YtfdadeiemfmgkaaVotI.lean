/- Contracts of votes: how many, and whether they are valid, of the program and of its model. -/
import Derived.Test.YtfdadeiemfmgkaaVotF
import Derived.Test.YtfdadeiemfmgkaaCrS
import Derived.Test.YtfdadeiemfmgkaaCrI
import Derived.Test.YtfdadeiemfmgkaaMapB
namespace Go.Proofs.Ytfdadeiemfmgkaa.VotI
open Go.RowKit Kit Rw Rg Crw Vot Mb

set_option maxRecDepth 20000 in
set_option maxHeartbeats 1000000 in
theorem sCount_any (w : World) (v : Value) (V : List V2) (c : Int) (hv : SeesG encP w v V) :
    Calls Try.prog 16 #[v, .int .i64 c] w fun e w' => e = .returned (.int .i64 (cnt V c V.length)) ∧ w.grownBy w' none := by
  have hl := hv.len
  have HV := Lib.hid hv
  obtain ⟨a, cap, rfl, _⟩ := hv
  go_enter Try.func16, Try.ntmps16
  go_wp2
  go_loopw [5, 6] (fun s i wr => ∃ j : Nat, j ≤ V.length ∧ i = .int .i64 j ∧ s = .int .i64 (cnt V c j) ∧ Hid (w.grownBy wr none)) (fun _ i _ => V.length - (intOf i).toNat)
  case atStart => exact ⟨0, Nat.zero_le _, rfl, rfl, World.grownBy.refl _ _⟩
  case round =>
    obtain ⟨j, hj, rfl, rfl, HG⟩ := hrel
    have hb := cnt_bd V c j
    obtain ⟨s, hs⟩ : ∃ s, s = cnt V c j := ⟨_, rfl⟩
    rw [← hs] at hb ⊢
    have HS := Lib.hid hs
    clear hs
    by_cases hlt : j < V.length
    · obtain ⟨b, o, rfl, _, _⟩ := HV.out.at_row hlt
      obtain ⟨x, hx⟩ : ∃ x, V.getD j (0, 0) = x := ⟨_, rfl⟩
      obtain ⟨d0, d1⟩ := atP_in HV.out HG.out hlt hx
      have HX := Lib.hid hx
      clear hx
      obtain ⟨x0, x1⟩ := x
      dsimp only at d0 d1
      by_cases he : x1 = c
      · have HN : Hid (cnt V c (j + 1) = s + 1) := by show _ = _; simp only [cnt]; rw [HX.out, if_pos he, ← HS.out]
        subst he
        go_wp2
        go_roundw
        case rel => exact ⟨j + 1, by omega, by go_num, by rw [HN.out], HG⟩
        case measure => simp [intOf]; omega
      · have HN : Hid (cnt V c (j + 1) = s) := by show _ = _; simp only [cnt]; rw [HX.out, if_neg he, ← HS.out]
        have heb : (x1 == c) = false := by simpa using he
        go_wp2
        go_roundw
        case rel => exact ⟨j + 1, by omega, by go_num, by rw [HN.out], HG⟩
        case measure => simp [intOf]; omega
    · have : j = V.length := by omega
      subst this
      go_wp2
      go_ret
      exact ⟨ret_i64 HS.out, HG.out⟩

set_option maxRecDepth 20000 in
set_option maxHeartbeats 1000000 in
theorem iCount_any (w : World) (v : Value) (V : List V2) (c : Int) (hv : SeesG encP w v V) :
    Calls Try.prog 18 #[v, .int .i64 c] w fun e w' => e = .returned (.int .i64 (cnt V c V.length)) ∧ w.grownBy w' none := by
  have hl := hv.len
  have HV := Lib.hid hv
  obtain ⟨a, cap, rfl, _⟩ := hv
  go_enter Try.func18, Try.ntmps18
  go_wp2
  go_loopw [5, 10] (fun s i wr => ∃ j : Nat, j ≤ V.length ∧ i = .int .i64 j ∧ s = .int .i64 (cnt V c j) ∧ Hid (w.grownBy wr none)) (fun _ i _ => V.length - (intOf i).toNat)
  case atStart => exact ⟨0, Nat.zero_le _, rfl, rfl, World.grownBy.refl _ _⟩
  case round =>
    rename_i _ _ wr
    obtain ⟨j, hj, rfl, rfl, HG⟩ := hrel
    have hb := cnt_bd V c j
    obtain ⟨s, hs⟩ : ∃ s, s = cnt V c j := ⟨_, rfl⟩
    rw [← hs] at hb ⊢
    have HS := Lib.hid hs
    clear hs
    by_cases hlt : j < V.length
    · obtain ⟨b, o, rfl, _, _⟩ := HV.out.at_row hlt
      obtain ⟨x, hx⟩ : ∃ x, V.getD j (0, 0) = x := ⟨_, rfl⟩
      obtain ⟨d0, d1⟩ := atP_in HV.out HG.out hlt hx
      have HX := Lib.hid hx
      clear hx
      obtain ⟨x0, x1⟩ := x
      dsimp only at d0 d1
      have HG2 := Lib.hid (grownN_trans HG.out (World.grownBy_alloc wr (.cells #[.int .i64 x0, .int .i64 x1] 49 (0, 0)) none))
      by_cases he : x1 = c
      · have HN : Hid (cnt V c (j + 1) = s + 1) := by show _ = _; simp only [cnt]; rw [HX.out, if_pos he, ← HS.out]
        subst he
        go_wp2
        go_roundw
        case rel => exact ⟨j + 1, by omega, by go_num, by rw [HN.out], HG2⟩
        case measure => simp [intOf]; omega
      · have HN : Hid (cnt V c (j + 1) = s) := by show _ = _; simp only [cnt]; rw [HX.out, if_neg he, ← HS.out]
        have heb : (x1 == c) = false := by simpa using he
        go_wp2
        go_roundw
        case rel => exact ⟨j + 1, by omega, by go_num, by rw [HN.out], HG2⟩
        case measure => simp [intOf]; omega
    · have : j = V.length := by omega
      subst this
      go_wp2
      go_ret
      exact ⟨ret_i64 HS.out, HG.out⟩

set_option maxRecDepth 20000 in
set_option maxHeartbeats 1000000 in
theorem sFind_any (w : World) (u : Value) (x : Int) (L : List Mem) (hu : SeesG encM w u L) :
    Calls Try.prog 72 #[u, .int .i64 x] w fun e w' => e = .returned (.int .i64 (Wat.place (ids L) x 0)) ∧ w' = w := by
  have hl := hu.len
  have HU := Lib.hid hu
  obtain ⟨a, cap, rfl, _⟩ := hu
  go_enter Try.func72, Try.ntmps72
  go_wp2
  go_loop [5] (fun i => ∃ j : Nat, j ≤ L.length ∧ i = .int .i64 j ∧ Hid (∀ m, m < j → (ids L).getD m 0 ≠ x)) (fun i => L.length - (intOf i).toNat)
  case atStart => exact ⟨0, Nat.zero_le _, rfl, fun m hm => absurd hm (Nat.not_lt_zero _)⟩
  case round =>
    obtain ⟨j, hj, rfl, HE⟩ := hrel
    by_cases hlt : j < L.length
    · obtain ⟨b, o, rfl, _, _⟩ := HU.out.at_row hlt
      obtain ⟨y, hy⟩ : ∃ y, L.getD j zM = y := ⟨_, rfl⟩
      obtain ⟨d0, d1, d2, d3⟩ := atM_in HU.out (World.grownBy.refl _ none) hlt hy
      have HY : Hid ((ids L).getD j 0 = y.id) := by show _ = _; rw [ids_get hlt, ← hy]; rfl
      clear hy
      obtain ⟨yi, ys, yn, yb⟩ := y
      dsimp only at d0 d1 d2 d3 HY
      by_cases hne : yi = x
      · have HR : Hid (Wat.place (ids L) x 0 = (j : Int)) := by show _ = _; rw [Wat.place_hit (j := j) (by rw [ids_len]; exact hlt) (by rw [HY.out, hne]) HE.out, Nat.zero_add]
        subst hne
        go_wp2
        go_ret
        exact ⟨ret_i64 HR.out.symm, rfl⟩
      · go_wp2
        go_round
        case rel =>
          refine ⟨j + 1, by omega, by go_num, fun m hm => ?_⟩
          by_cases h : m = j
          · subst h; rw [HY.out]; exact hne
          · exact HE.out m (by omega)
        case measure => simp [intOf]; omega
    · have hjn : L.length = j := by omega
      have HR : Hid (Wat.place (ids L) x 0 = -1) := by show _ = _; exact Wat.place_miss (fun m hm => HE.out m (by rw [ids_len] at hm; omega))
      go_wp2
      go_ret
      exact ⟨ret_i64 HR.out.symm, rfl⟩

set_option maxRecDepth 20000 in
set_option maxHeartbeats 1000000 in
theorem openVotes_any (w : World) (v : Value) (L : List Mem) (hv : SeesG encM w v L) (hn : L.length ≤ 8) :
    Calls Try.prog 73 #[v] w fun e w' => ∃ b, e = .returned (.map (some b)) ∧ IsS w' b L.length (ids L) ∧ w.heap.size ≤ b ∧ w.grownBy w' none := by
  have hmm := fun (w : World) (k : IntKind) (n : Int) => run_make_hint Try.underlying84 w k n
  have HV := Lib.hid hv
  have HOK := Lib.hid hv.ok
  obtain ⟨a, cap, rfl, _⟩ := hv
  have HM0 : Hid (IsS (w.alloc (.map #[] 0)) w.heap.size 0 ((ids L).take 0)) := by rw [List.take_zero]; exact isS_made w
  have HG0 := Lib.hid (World.grownBy_alloc w (.map #[] 0) none)
  go_enter Try.func73, Try.ntmps73
  go_wp2
  go_loopw [11] (fun i wr => ∃ j : Nat, j ≤ L.length ∧ i = .int .i64 j ∧ Hid (IsS wr w.heap.size j ((ids L).take j)) ∧ Hid (w.grownBy wr none)) (fun i _ => L.length - (intOf i).toNat)
  case atStart => exact ⟨0, Nat.zero_le _, rfl, HM0, HG0⟩
  case round =>
    rename_i _ wr
    obtain ⟨j, hj, rfl, HM, HG⟩ := hrel
    by_cases hlt : j < L.length
    · obtain ⟨b, o, rfl, _, _⟩ := HV.out.at_row hlt
      obtain ⟨x, hx⟩ : ∃ x, L.getD j zM = x := ⟨_, rfl⟩
      obtain ⟨d0, d1, d2, d3⟩ := atM_in HV.out HG.out hlt hx
      have HN := Lib.hid (ids_next hlt)
      have hxi : (Lit.int .i64 x.id).wf = true := by rw [← hx]; exact (HOK.out _ (memG hlt)).1
      have HXI := Lib.hid (i64_of hxi)
      rw [show dM = zM from rfl, hx] at HN
      clear hx hxi
      obtain ⟨xi, xs, xn, xb⟩ := x
      dsimp only at d0 d1 d2 d3 HN
      have hga := World.grownBy_alloc wr (.cells #[.int .i64 xi, .int .i64 xs, .int .i64 xn, .bool xb] 70 (0, 0)) none
      have HG1 := Lib.hid (grownN_trans HG.out hga)
      have HM1 := Lib.hid (HM.out.grown hga)
      clear hga
      go_wp2_with (at_mapUpdate; go_loud (refine wpS_store _ rfl _ _ _ 84 rfl Try.underlying84 w.heap.size j _ rfl HM1.out (by omega) xi (i64_mk HXI.out) rfl rfl ?_); intro w3 hm3 hg3; have HM3 := Lib.hid hm3; have HG3 := Lib.hid (grown_new HG1.out hg3 (fun c hc => by injection hc with hc; omega)); clear hm3 hg3)
      go_roundw
      case rel => exact ⟨j + 1, by omega, by go_num, by rw [HN.out]; exact HM3, HG3⟩
      case measure => simp [intOf]; omega
    · have hjn : j = L.length := by omega
      subst hjn
      go_wp2
      go_ret
      exact ⟨_, rfl, by have := HM.out; rw [← ids_len L, List.take_length, ids_len] at this; exact this, Nat.le_refl _, HG.out⟩
end Go.Proofs.Ytfdadeiemfmgkaa.VotI
