/- Contracts of EncodeInts of the program and of its model. -/
import Derived.Test.YtbpmbbmgmpdhnaaPutS
namespace Go.Proofs.Ytbpmbbmgmpdhnaa.Enc
open Go.RowKit Kit Rw Var LawsB Put

/-- What a list of numbers is written as. -/
def encAll (L : List Int) : List Int := L.flatMap encI
theorem encAll_len (L : List Int) : (encAll L).length ≤ 6 * L.length := by
  induction L with
  | nil => simp [encAll]
  | cons x L ih =>
    have := encI_len x
    simp only [encAll, List.flatMap_cons, List.length_append, List.length_cons] at *
    omega
theorem encAll_take {L : List Int} {j : Nat} (hj : j < L.length) : encAll (L.take j) ++ encI (L.getD j 0) = encAll (L.take (j + 1)) := by
  have e : L.take (j + 1) = L.take j ++ [L.getD j 0] := by
    rw [List.take_add_one]
    simp [hj]
  rw [e, encAll, encAll, List.flatMap_append]
  simp
theorem encAll_take_len (L : List Int) (j : Nat) (hj : j ≤ L.length) : (encAll (L.take j)).length ≤ 6 * L.length := by
  have := encAll_len (L.take j)
  simp only [List.length_take] at this
  omega

set_option maxRecDepth 20000 in
set_option maxHeartbeats 400000 in
theorem encode_any (w : World) (v : Value) (X : List Int) (hv : Sees .i64 w v X) (hX : X.length ≤ 100000000000) :
    Calls Try.prog 27 #[v] w fun e w' => ∃ u, e = .returned u ∧ Own .u8 5 w' w.heap.size u (encAll X) ∧ w.grownBy w' none := by
  have HW := Lib.hid hv.wf
  obtain ⟨a, cap, rfl, hlc, hcm, hnil, hwf, hcell⟩ := hv
  have HC := Lib.hid hcell
  clear hwf hcell hnil
  obtain ⟨i0, hi, hz0, hz1, hz2⟩ := info_parts info_u8
  have HL := Lib.hid (encAll_take_len X)
  go_enter Try.func27, Try.ntmps27
  go_wp2_with (at_make; refine wpList_make_own _ rfl _ _ 22 rfl w.heap.size 5 i0 (.int .u8 0) 1 Try.underlying22 hi hz0 hz1 .i64 .i64 _ X.length rfl rfl rfl (by rw [hz2]; omega) (by unfold maxLen; omega) (Nat.le_refl _) ?_; intro w1 hown hgrow; have HO : Hid (Own .u8 5 w1 w.heap.size (.slice (some ⟨w.heap.size, 0, none⟩) 0 X.length) []) := ⟨by simpa using hown, by simp⟩; have HG := Lib.hid hgrow; clear hown hgrow)
  go_loopw [3, 5, 11] (fun u _ i wr => ∃ j : Nat, j ≤ X.length ∧ i = .int .i64 j ∧ Hid (Own .u8 5 wr w.heap.size u (encAll (X.take j))) ∧ Hid (Below w.heap.size w wr))
    (fun _ _ i _ => X.length - (intOf i).toNat)
  case atStart => exact ⟨0, Nat.zero_le _, rfl, by simpa [encAll] using HO, grown_below HG.out _ (Nat.le_refl _)⟩
  case round =>
    obtain ⟨j, hj, rfl, HO1, HB⟩ := hrel
    by_cases hlt : j < X.length
    · rcases HC.out with hX | ⟨b, o, rfl, hc⟩
      · simp [hX] at hlt
      obtain ⟨x, hx⟩ : ∃ x, x = X.getD j 0 := ⟨_, rfl⟩
      have hcj : wr.cell? ⟨b, o + j, none⟩ = some (.int .i64 x) := by
        rw [hx]
        exact (HB.out.cell (World.block_lt_of_cell? w _ (hc j hlt))).trans (hc j hlt)
      have HX := Lib.hid hx
      clear hx hc
      go_wp2_with fail
      refine (put_any wr w.heap.size _ (encAll (X.take j)) x HO1.out HB.out.size (Nat.le_trans (HL.out j hj) (by omega)) (by rw [HX.out]; exact HW.out _ (mem_getD hlt))).mono ?_
      rintro e w2 ⟨u2, rfl, hown2, hb2⟩
      have HO2 := Lib.hid hown2
      have HB2 := Lib.hid (HB.out.trans hb2)
      clear hown2 hb2
      go_wp2
      go_roundw
      case rel => exact ⟨j + 1, by omega, by go_num, by have := HO2.out; rw [HX.out, encAll_take hlt] at this; exact this, HB2⟩
      case measure => simp [intOf]; omega
    · have : j = X.length := by omega
      subst this
      go_wp2
      go_ret
      exact ⟨_, rfl, by simpa using HO1.out, below_grown HB.out⟩

end Go.Proofs.Ytbpmbbmgmpdhnaa.Enc
