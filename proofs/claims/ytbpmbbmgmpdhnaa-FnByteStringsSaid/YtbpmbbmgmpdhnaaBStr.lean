/- What the law FnByteStrings turns on: its draws, the bytes of its input, and that lists are read back from what they were written as. -/
import Derived.Test.YtbpmbbmgmpdhnaaDraw2
import Derived.Test.YtbpmbbmgmpdhnaaSame
import Derived.Test.YtbpmbbmgmpdhnaaDec
import Derived.Test.YtbpmbbmgmpdhnaaEnc
namespace Go.Proofs.Ytbpmbbmgmpdhnaa.BStr
open Go.RowKit Kit Rw Var LawsB Put Rdv RdB Draw Same Dec Enc

theorem rd_putT (L T : List Int) (n : Nat) (hn : n ≤ 1000000000000) : rd (L ++ enc n ++ T) (L.length : Nat) = ((n : Int), ((L ++ enc n).length : Int), true) := by
  have h := rdk_enc 6 n 0 0 T (by omega) (by omega) (by omega) (by omega) (by simp; omega)
  have h2 : rdk ((L ++ enc n ++ T).drop L.length) 0 0 = some ((n : Int), (enc n).length) := by
    rw [List.append_assoc, List.drop_left, h]
    simp
  rw [rd_some (by simp) h2]
  simp
theorem rd_endT (L : List Int) : rd L (L.length : Nat) = (0, 0, false) := rd_none (Nat.le_refl _) (by rw [List.drop_length]; rfl)

theorem encI_nat {n : Nat} (h : n ≤ 1000000000000) : encI (n : Int) = enc n := by unfold encI; rw [if_pos (by omega)]; simp
theorem rb_put (L D : List Int) (q : Int) (hD : D.length ≤ 1000000000000) (hq : (D.length : Int) ≤ q) :
    rb (L ++ encI D.length ++ D) (L.length : Nat) q = (D, ((L ++ encI D.length ++ D).length : Int), true) := by
  rw [encI_nat hD]
  have h := rd_putT L D D.length hD
  unfold rb
  rw [h, if_pos ⟨rfl, hq, by simp only [List.length_append]; omega⟩]
  simp only [Int.toNat_natCast, List.drop_left, List.take_length, Prod.mk.injEq, and_true, true_and]
  simp only [List.length_append]
  omega
theorem rb_short (L D : List Int) (q : Int) (hD : D.length ≤ 1000000000000) (hq : q < (D.length : Int)) :
    rb (L ++ encI D.length ++ D) (L.length : Nat) q = ([], 0, false) := by
  rw [encI_nat hD]
  have h := rd_putT L D D.length hD
  unfold rb
  rw [h, if_neg]
  rintro ⟨_, h2, _⟩
  simp only at h2
  omega

/-- Numbers that a list may hold. -/
def Nums (N : List Int) : Prop := ∀ x ∈ N, 0 ≤ x ∧ x ≤ 1000000000000
theorem encAll_split {N : List Int} {j : Nat} (hj : j < N.length) : encAll N = encAll (N.take j) ++ encI (N.getD j 0) ++ encAll (N.drop (j + 1)) := by
  have e : N = N.take j ++ (N.getD j 0 :: N.drop (j + 1)) := by
    conv => lhs; rw [← List.take_append_drop j N]
    rw [drop_cons hj]
  conv => lhs; rw [e]
  simp [encAll, List.flatMap_append, List.append_assoc]
theorem da_enc {N : List Int} (hN : Nums N) : ∀ j, j ≤ N.length → da (encAll N) 0 j = some (N.take j, ((encAll (N.take j)).length : Int))
  | 0, _ => by simp [da, encAll]
  | j + 1, hj => by
    have hx := hN (N.getD j 0) (mem_getD (by omega))
    obtain ⟨m, hm⟩ : ∃ m : Nat, N.getD j 0 = m := ⟨(N.getD j 0).toNat, by omega⟩
    have hr : rd (encAll N) ((encAll (N.take j)).length : Nat) = ((m : Int), ((encAll (N.take (j + 1))).length : Int), true) := by
      rw [encAll_split (show j < N.length by omega), hm, encI_nat (by omega), rd_putT _ _ _ (by omega), ← encAll_take (show j < N.length by omega), hm, encI_nat (by omega)]
    rw [da_yes (da_enc hN j (by omega)) (by rw [hr]), hr]
    congr 2
    have e : N.take (j + 1) = N.take j ++ [N.getD j 0] := by
      rw [List.take_add_one]
      simp [show j < N.length by omega]
    rw [e, hm]
theorem dec_enc {N : List Int} (hN : Nums N) (hl : N.length ≤ 100) : dec (encAll N) 0 (N.length : Nat) = (N, ((encAll N).length : Int), true) := by
  unfold dec
  rw [if_pos (by omega), Int.toNat_natCast, da_enc hN _ (Nat.le_refl _)]
  simp
theorem dec_more {N : List Int} (hN : Nums N) (hl : N.length < 100) : dec (encAll N) 0 ((N.length : Int) + 1) = ([], 0, false) := by
  unfold dec
  have h := da_enc hN N.length (Nat.le_refl _)
  rw [List.take_length] at h
  rw [if_pos (by omega), show ((N.length : Int) + 1).toNat = N.length + 1 by omega, da_no h (by rw [rd_endT]) _ (Nat.lt_succ_self _)]

set_option maxRecDepth 20000 in
set_option maxHeartbeats 1000000 in
theorem dAppendBytes_any (w : World) (a : Option Addr) (len cap : Nat) (z : List Int) (hr : IsRow .u8 w a len cap z) :
    Calls Try.prog 23 #[.slice a len cap] w fun e w' => ∃ u L v M, e = .returned (.tuple #[u, v]) ∧ Own .u8 5 w' w.heap.size u L ∧ L.length ≤ 2 ∧ Own .u8 5 w' w.heap.size v M ∧ M.length ≤ 5 ∧ w.grownBy w' none := by
  have HR := Lib.hid hr
  clear hr
  go_enter Try.func23, Try.ntmps23
  go_wp2_with fail
  refine (new_any w a len cap z HR.out).mono ?_
  rintro e w1 ⟨c, rfl, hc, hlc, hb⟩
  have HC := Lib.hid hc
  have HB := Lib.hid hb
  clear hc hb
  go_wp2_with fail
  refine (below_any 3 (by omega) _ _ HC.out).mono ?_
  rintro e w2 ⟨x, HP, rfl, hc2, hg2⟩
  obtain ⟨hx0, hx1⟩ := HP.1 (by omega)
  have HC2 := Lib.hid hc2
  have HG2 := Lib.hid hg2
  clear HP hc2 hg2 HC
  go_wp2_with fail
  refine (bytes_any x (by omega) _ _ HC2.out).mono ?_
  rintro e w3 ⟨u, L, hL, rfl, ho, hc3, hg3⟩
  have HC3 := Lib.hid hc3
  have HG3 := Lib.hid (grownN_trans HG2.out hg3)
  have HL : Hid (L.length ≤ 2) := by show _ ≤ _; omega
  have HO := Lib.hid ho
  have hlt2 := HC2.out.lt
  clear hL hc3 hg3 ho
  go_wp2_with fail
  refine (below_any 6 (by omega) _ _ HC3.out).mono ?_
  rintro e w4 ⟨y, HP, rfl, hc4, hg4⟩
  obtain ⟨hy0, hy1⟩ := HP.1 (by omega)
  have HC4 := Lib.hid hc4
  have HG4 := Lib.hid (grownN_trans HG3.out hg4)
  have HO4 := Lib.hid (own_cur HO.out hlt2 hg4)
  clear HP hc4 hg4 HO
  have hlt4 := HC4.out.lt
  go_wp2_with fail
  refine (bytes_any y (by omega) _ _ HC4.out).mono ?_
  rintro e w5 ⟨v, M, hM, rfl, ho, hc5, hg5⟩
  have HG5 := Lib.hid (grownN_trans HG4.out hg5)
  have HM : Hid (M.length ≤ 5) := by show _ ≤ _; omega
  have HO5 := Lib.hid (own_cur HO4.out hlt2 hg5)
  have HV := Lib.hid ho
  clear hM hc5 hg5 ho
  go_wp2
  go_ret2
  exact ⟨_, L, _, M, rfl, HO5.out.lower (Nat.le_trans HB.out.size HG2.out.size), HL.out, HV.out.lower (Nat.le_trans HB.out.size HG4.out.size), HM.out, new_grown HB.out hlc HG5.out⟩

end Go.Proofs.Ytbpmbbmgmpdhnaa.BStr
