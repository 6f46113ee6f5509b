/- Contracts of the text of a past, of the program and of its model. -/
import Derived.Test.YtoanhnklemlfmaaDoorBtx
import Derived.Test.YtoanhnklemlfmaaDoorRowM
import Derived.IntWalk
import Derived.WalkKit
import Derived.Laws.Concat
namespace Go.Proofs.YtoanhnklemlfmaaDoor.Ptx
open Go.RowKit Kit Rw Rg Bld Btx

def past (P : List Bool) : ByteArray := if P.length = 0 then ⟨#[45]⟩ else text P
theorem past_no {P : List Bool} (h : P.length = 0) : past P = ⟨#[45]⟩ := if_pos h
theorem past_yes {P : List Bool} (h : P.length ≠ 0) : past P = text P := if_neg h
theorem text_next (S : List Bool) (b : Bool) : text (S ++ [b]) = text S ++ ⟨#[byte b]⟩ := by
  unfold text
  rw [List.map_append, ← ByteArray.mk_append_mk]; rfl
theorem text_size (S : List Bool) : (text S).size = S.length := by simp [text, ByteArray.size]
theorem take_next {P : List Bool} {j : Nat} (h : j < P.length) : P.take (j + 1) = P.take j ++ [P.getD j false] := by
  rw [List.take_succ_eq_append_getElem h, show P.getD j false = P[j] by simp [h]]
theorem ret_s {a b : ByteArray} (h : a = b) : Ending.returned (.string a) = .returned (.string b) := by rw [h]

set_option maxRecDepth 20000 in
set_option maxHeartbeats 2000000 in
theorem iPast_any (w : World) (v : Value) (P : List Bool) (hv : SeesG encB w v P) (hn : P.length ≤ 2000000) :
    Calls Tryd.prog 73 #[v] w fun e w' => e = .returned (.string (past P)) ∧ w.grownBy w' none := by
  obtain ⟨va, vn, vc, rfl, HVN⟩ := hv.shape
  have hvn : vn ≤ 2000000 := by rw [← HVN.out]; exact hn
  have HV := Lib.hid hv
  clear hv hn
  by_cases h0 : vn = 0
  · have HR : Hid (past P = ⟨#[45]⟩) := past_no (by rw [HVN.out]; exact h0)
    subst h0
    go_enter Tryd.func73, Tryd.ntmps73
    go_wp2
    go_ret
    exact ⟨ret_s HR.out.symm, World.grownBy.refl _ _⟩
  · have HR : Hid (past P = text P) := past_yes (by rw [HVN.out]; exact h0)
    have hb0 : ((vn : Int) == 0) = false := by simpa using h0
    have HB0 := Lib.hid (Bd.new w)
    have HG0 := Lib.hid (World.grownBy_alloc w (.cells #[.pointer none, .slice none 0 0] 134 (0, 0)) none)
    go_enter Tryd.func73, Tryd.ntmps73
    go_wp2
    generalize w.alloc (.cells #[.pointer none, .slice none 0 0] 134 (0, 0)) = W0 at *
    go_loopw [11] (fun i wr => ∃ j : Nat, j ≤ vn ∧ i = .int .i64 j ∧ Hid (Bd wr w.heap.size (codes (P.take j))) ∧ Hid (w.grownBy wr none)) (fun i _ => vn - (intOf i).toNat)
    case atStart => exact ⟨0, Nat.zero_le _, rfl, HB0, HG0⟩
    case round =>
      obtain ⟨j, hj, rfl, HB, HG⟩ := hrel
      by_cases hlt : j < vn
      · have hjl : j < P.length := by rw [HVN.out]; exact hlt
        obtain ⟨b, o, rfl, _, _⟩ := HV.out.at_row hjl
        obtain ⟨x, hx⟩ : ∃ x, x = P.getD j false := ⟨_, rfl⟩
        have d0 := (HV.out.grown HG.out).at' hjl (i := 0) (by decide)
        have d0 : World.cell? wr ⟨b, o + j, none⟩ = some (.bool x) := by rw [hx]; simpa [encB] using d0
        have HN : Hid (P.take (j + 1) = P.take j ++ [x]) := by show _ = _; rw [take_next hjl, hx]
        have HL : Hid ((codes (P.take j)).length ≤ 3000000) := by show _ ≤ _; rw [codes_len, List.length_take]; omega
        clear hx hjl
        cases x
        · go_wp2_with fail
          refine (write_any _ w.heap.size (codes (P.take j)) 46 (.inr rfl) HB.out HL.out).mono ?_
          rintro e w6 ⟨rfl, h5, h6⟩
          have HB6 : Hid (Bd w6 w.heap.size (codes (P.take (j + 1)))) := by show Bd _ _ _; rw [HN.out, codes_next]; exact h5
          have HG6 := Lib.hid (below_grown ((grown_below HG.out _ (Nat.le_refl _)).trans h6))
          clear h5 h6
          go_wp2
          go_roundw
          case rel => exact ⟨j + 1, by omega, by go_num, HB6, HG6⟩
          case measure => simp [intOf]; omega
        · go_wp2_with fail
          refine (write_any _ w.heap.size (codes (P.take j)) 115 (.inl rfl) HB.out HL.out).mono ?_
          rintro e w6 ⟨rfl, h5, h6⟩
          have HB6 : Hid (Bd w6 w.heap.size (codes (P.take (j + 1)))) := by show Bd _ _ _; rw [HN.out, codes_next]; exact h5
          have HG6 := Lib.hid (below_grown ((grown_below HG.out _ (Nat.le_refl _)).trans h6))
          clear h5 h6
          go_wp2
          go_roundw
          case rel => exact ⟨j + 1, by omega, by go_num, HB6, HG6⟩
          case measure => simp [intOf]; omega
      · have hju : vn = j := by omega
        subst hju
        have HT : Hid (P.take vn = P) := by show _ = _; rw [← HVN.out, List.take_length]
        go_wp2_with fail
        refine (string_any _ w.heap.size (P.take vn) HB.out).mono ?_
        rintro e w5 ⟨rfl, hb⟩
        have HBL := Lib.hid (below_grown ((grown_below HG.out _ (Nat.le_refl _)).trans hb))
        clear hb
        go_wp2
        go_ret
        exact ⟨ret_s (by rw [HT.out, HR.out]), HBL.out⟩

set_option maxRecDepth 20000 in
set_option maxHeartbeats 2000000 in
theorem sPast_any (w : World) (v : Value) (P : List Bool) (hv : SeesG encB w v P) (hn : P.length ≤ 2000000) :
    Calls Tryd.prog 68 #[v] w fun e w' => e = .returned (.string (past P)) ∧ w.grownBy w' none := by
  obtain ⟨va, vn, vc, rfl, HVN⟩ := hv.shape
  have hvn : vn ≤ 2000000 := by rw [← HVN.out]; exact hn
  have HV := Lib.hid hv
  have ht0 : text (P.take 0) = ⟨#[]⟩ := by simp [text]
  clear hv hn
  go_enter Tryd.func68, Tryd.ntmps68
  go_wp2
  go_loopw [3, 4] (fun s i wr => ∃ j : Nat, ∃ t : ByteArray, j ≤ vn ∧ i = .int .i64 j ∧ s = .string t ∧ Hid (t = text (P.take j)) ∧ Hid (w.grownBy wr none)) (fun _ i _ => vn - (intOf i).toNat)
  case atStart => exact ⟨0, ⟨#[]⟩, Nat.zero_le _, rfl, rfl, ht0.symm, World.grownBy.refl _ _⟩
  case round =>
    obtain ⟨j, t, hj, rfl, rfl, HT, HG⟩ := hrel
    have hsz : t.size = j := by rw [HT.out, text_size, List.length_take, HVN.out]; omega
    by_cases hlt : j < vn
    · have hjl : j < P.length := by rw [HVN.out]; exact hlt
      obtain ⟨b, o, rfl, _, _⟩ := HV.out.at_row hjl
      obtain ⟨x, hx⟩ : ∃ x, x = P.getD j false := ⟨_, rfl⟩
      have d0 := (HV.out.grown HG.out).at' hjl (i := 0) (by decide)
      have d0 : World.cell? wr ⟨b, o + j, none⟩ = some (.bool x) := by rw [hx]; simpa [encB] using d0
      have HN : Hid (text (P.take (j + 1)) = t ++ ⟨#[byte x]⟩) := by show _ = _; rw [take_next hjl, text_next, hx, HT.out]
      have hs1 : ¬ (9223372036854775807 < t.size + 1) := by omega
      clear hx hjl
      cases x
      · go_wp2
        go_roundw
        case rel => exact ⟨j + 1, _, by omega, by go_num, rfl, HN.out.symm, HG⟩
        case measure => simp [intOf]; omega
      · go_wp2
        go_roundw
        case rel => exact ⟨j + 1, _, by omega, by go_num, rfl, HN.out.symm, HG⟩
        case measure => simp [intOf]; omega
    · have hju : vn = j := by omega
      subst hju
      have HTP : Hid (t = text P) := by show _ = _; rw [HT.out, ← HVN.out, List.take_length]
      by_cases h0 : vn = 0
      · have HR : Hid (past P = ⟨#[45]⟩) := past_no (by rw [HVN.out]; exact h0)
        have hte : t = ⟨#[]⟩ := by
          apply ByteArray.ext; apply Array.eq_empty_of_size_eq_zero
          have : t.data.size = vn := hsz
          omega
        subst hte
        go_wp2
        go_ret
        exact ⟨ret_s HR.out.symm, HG.out⟩
      · have HR : Hid (past P = text P) := past_yes (by rw [HVN.out]; exact h0)
        have hne : ¬ t = ⟨#[]⟩ := fun e => by rw [e] at hsz; exact h0 hsz.symm
        have hte2 : t.toList.isEmpty = false := by
          rw [ByteArray.toList_eq, List.isEmpty_eq_false_iff]
          intro e
          apply h0
          rw [← hsz]
          show t.data.size = 0
          rw [← Array.length_toList, e]; rfl
        go_wp2
        go_ret
        exact ⟨ret_s (by rw [HTP.out, HR.out]), HG.out⟩
end Go.Proofs.YtoanhnklemlfmaaDoor.Ptx
