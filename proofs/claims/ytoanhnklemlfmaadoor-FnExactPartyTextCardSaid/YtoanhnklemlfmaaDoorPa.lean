/- Contracts of DaysOfFood, RoomFor and IsParty of the program and of their models. -/
import Derived.Test.YtoanhnklemlfmaaDoorFour
import Derived.Test.YtoanhnklemlfmaaDoorCrS
import Derived.Test.YtoanhnklemlfmaaDoorCrI
import Derived.Test.YtoanhnklemlfmaaDoorLandS
import Derived.Test.YtoanhnklemlfmaaDoorLandI
import Derived.Test.YtoanhnklemlfmaaDoorDepI
import Derived.IntWalk
import Derived.Deep.RegionHeld3
namespace Go.Proofs.YtoanhnklemlfmaaDoor.Pa
open Go.RowKit Kit Rw Rg Crw Four Md Ld Mn

def daysOf (L : List Mem) (f : Int) : Int := if areCrew L = true ∧ 0 ≤ f then f / needOf L else 0
def roomOf (L : List Mem) (f : Int) : Int := if f < 0 ∨ capOf L ≤ f then 0 else capOf L - f
def isParty (W H : Int) (X : List Int) (n f : Int) (L : List Mem) (P : List Bool) : Bool := isOpen W H X n && (areCrew L && (decide (0 ≤ f ∧ f ≤ 10000) && decide (P.length ≤ 10)))
theorem daysOf_no {L : List Mem} {f : Int} (h : areCrew L = false) : daysOf L f = 0 := by unfold daysOf; rw [h]; simp
theorem daysOf_neg {L : List Mem} {f : Int} (h : f < 0) : daysOf L f = 0 := by unfold daysOf; exact if_neg (fun h' => by omega)
theorem daysOf_yes {L : List Mem} {f : Int} (h : areCrew L = true) (hf : 0 ≤ f) : daysOf L f = f / needOf L := if_pos ⟨h, hf⟩
theorem quo_pos {f q : Int} (h0 : 0 ≤ f) (h1 : f ≤ 9223372036854775807) (hq : 0 < q) : f.tdiv q = f / q ∧ 0 ≤ f / q ∧ f / q ≤ f := by
  refine ⟨Int.tdiv_eq_ediv_of_nonneg h0, Int.ediv_nonneg h0 (by omega), ?_⟩
  exact Int.ediv_le_self _ h0
theorem wrap_quo {f q : Int} (h0 : 0 ≤ f) (h1 : f ≤ 9223372036854775807) (hq : 0 < q) : IntKind.i64.wrap (f.tdiv q) = f / q := by
  have := quo_pos h0 h1 hq
  rw [this.1]
  exact IntWalk.i64_in _ (by omega)

set_option maxRecDepth 20000 in
set_option maxHeartbeats 2000000 in
theorem sIsParty_any (w : World) (W H : Int) (x : Value) (X : List Int) (n f : Int) (cv pv : Value) (L : List Mem) (P : List Bool) (hx : Sees .i64 w x X) (hc : SeesG encM w cv L) (hp : SeesG encB w pv P) :
    Calls Tryd.prog 65 #[.agg #[.int .i64 W, .int .i64 H, x], .agg #[.int .i64 n, .int .i64 f, cv, pv]] w fun e w' => e = .returned (.bool (isParty W H X n f L P)) ∧ w.grownBy w' none := by
  have ga := World.grownBy_alloc w (.cells #[.int .i64 W, .int .i64 H, x] 27 (0, 0)) (none : Option Nat)
  have gb := World.grownBy_alloc (w.alloc (.cells #[.int .i64 W, .int .i64 H, x] 27 (0, 0))) (.cells #[.int .i64 n, .int .i64 f, cv, pv] 45 (0, 0)) (none : Option Nat)
  have b0 := (box_new w #[.int .i64 W, .int .i64 H, x] 27).grown gb
  have b1 := box_new (w.alloc (.cells #[.int .i64 W, .int .i64 H, x] 27 (0, 0))) #[.int .i64 n, .int .i64 f, cv, pv] 45
  simp only [World.size_alloc] at b1
  have HG := Lib.hid (grownN_trans ga gb)
  have HX := Lib.hid (hx.grown HG.out)
  have HC := Lib.hid (hc.grown HG.out)
  have hpl := hp.len
  obtain ⟨pa, pn, pc, hpe, HPN⟩ := hp.shape
  subst hpe
  have hpn : pn ≤ 9223372036854775807 := by rw [← HPN.out]; exact hpl
  have B0 := Lib.hid b0
  have B1 := Lib.hid b1
  obtain ⟨d0, d1, d2⟩ := b0.three
  obtain ⟨c0, c1, c2, c3⟩ := four b1
  clear hx hc hp ga gb b0 b1 hpl
  have hO := fun w' hs => LandS.sIsOpen_any w' W H n x X hs
  have hA := fun w' hs => CrS.sAreCrew_any w' cv L hs
  cases hop : isOpen W H X n
  · have HR : Hid (isParty W H X n f L P = false) := by show _ = _; unfold isParty; rw [hop]; rfl
    simp only [hop] at hO
    have HO := Lib.hid hO
    clear hO hA hop
    go_enter Tryd.func65, Tryd.ntmps65
    go_wp2_with fail
    skip
    refine (HO.out _ HX.out).mono ?_
    rintro e w2 ⟨rfl, hg⟩
    have HG2 := Lib.hid (grownN_trans HG.out hg)
    have HC2 := Lib.hid (HC.out.grown hg)
    have B2 := Lib.hid (B1.out.grown hg)
    obtain ⟨c0, c1, c2, c3⟩ := four B2.out
    clear hg
    go_wp2
    go_ret
    exact ⟨ret_bool (by first | exact HR.out.symm | (rw [HR.out]; simp; omega) | (rw [HR.out]; simp)), HG2.out⟩
  · simp only [hop] at hO
    have HO := Lib.hid hO
    cases hcr : areCrew L
    · have HR : Hid (isParty W H X n f L P = false) := by show _ = _; unfold isParty; rw [hop, hcr]; rfl
      simp only [hcr] at hA
      have HA := Lib.hid hA
      clear hO hA hop hcr
      go_enter Tryd.func65, Tryd.ntmps65
      go_wp2_with fail
      skip
      refine (HO.out _ HX.out).mono ?_
      rintro e w2 ⟨rfl, hg⟩
      have HG2 := Lib.hid (grownN_trans HG.out hg)
      have HC2 := Lib.hid (HC.out.grown hg)
      have B2 := Lib.hid (B1.out.grown hg)
      obtain ⟨c0, c1, c2, c3⟩ := four B2.out
      clear hg
      go_wp2_with fail
      refine (HA.out _ HC2.out).mono ?_
      rintro e w3 ⟨rfl, hg⟩
      have HG3 := Lib.hid (grownN_trans HG2.out hg)
      have B3 := Lib.hid (B2.out.grown hg)
      obtain ⟨c0, c1, c2, c3⟩ := four B3.out
      clear hg
      go_wp2
      go_ret
      exact ⟨ret_bool (by first | exact HR.out.symm | (rw [HR.out]; simp; omega) | (rw [HR.out]; simp)), HG3.out⟩
    · simp only [hcr] at hA
      have HA := Lib.hid hA
      by_cases hf : 0 ≤ f ∧ f ≤ 10000
      · have hb : CrS.inb f 0 10000 = true := decide_eq_true hf
        by_cases hl : pn ≤ 10
        · have HR : Hid (isParty W H X n f L P = true) := by show _ = _; unfold isParty; rw [hop, hcr, decide_eq_true hf, decide_eq_true (show P.length ≤ 10 by rw [HPN.out]; exact hl)]; rfl
          clear hO hA hop hcr hf
          go_enter Tryd.func65, Tryd.ntmps65
          go_wp2_with fail
          skip
          refine (HO.out _ HX.out).mono ?_
          rintro e w2 ⟨rfl, hg⟩
          have HG2 := Lib.hid (grownN_trans HG.out hg)
          have HC2 := Lib.hid (HC.out.grown hg)
          have B2 := Lib.hid (B1.out.grown hg)
          obtain ⟨c0, c1, c2, c3⟩ := four B2.out
          clear hg
          go_wp2_with fail
          refine (HA.out _ HC2.out).mono ?_
          rintro e w3 ⟨rfl, hg⟩
          have HG3 := Lib.hid (grownN_trans HG2.out hg)
          have B3 := Lib.hid (B2.out.grown hg)
          obtain ⟨c0, c1, c2, c3⟩ := four B3.out
          clear hg
          go_wp2_with fail
          refine (CrS.l1In_b _ _ _ _).mono ?_
          rintro e w4 ⟨rfl, rfl⟩
          rw [hb]
          go_wp2
          go_ret
          exact ⟨ret_bool (by first | exact HR.out.symm | (rw [HR.out]; simp; omega) | (rw [HR.out]; simp)), HG3.out⟩
        · have HR : Hid (isParty W H X n f L P = false) := by show _ = _; unfold isParty; rw [hop, hcr, decide_eq_true hf, decide_eq_false (show ¬ P.length ≤ 10 by rw [HPN.out]; exact hl)]; rfl
          clear hO hA hop hcr hf
          go_enter Tryd.func65, Tryd.ntmps65
          go_wp2_with fail
          skip
          refine (HO.out _ HX.out).mono ?_
          rintro e w2 ⟨rfl, hg⟩
          have HG2 := Lib.hid (grownN_trans HG.out hg)
          have HC2 := Lib.hid (HC.out.grown hg)
          have B2 := Lib.hid (B1.out.grown hg)
          obtain ⟨c0, c1, c2, c3⟩ := four B2.out
          clear hg
          go_wp2_with fail
          refine (HA.out _ HC2.out).mono ?_
          rintro e w3 ⟨rfl, hg⟩
          have HG3 := Lib.hid (grownN_trans HG2.out hg)
          have B3 := Lib.hid (B2.out.grown hg)
          obtain ⟨c0, c1, c2, c3⟩ := four B3.out
          clear hg
          go_wp2_with fail
          refine (CrS.l1In_b _ _ _ _).mono ?_
          rintro e w4 ⟨rfl, rfl⟩
          rw [hb]
          go_wp2
          go_ret
          exact ⟨ret_bool (by first | exact HR.out.symm | (rw [HR.out]; simp; omega) | (rw [HR.out]; simp)), HG3.out⟩
      · have hb : CrS.inb f 0 10000 = false := decide_eq_false hf
        have HR : Hid (isParty W H X n f L P = false) := by show _ = _; unfold isParty; rw [hop, hcr, decide_eq_false hf]; rfl
        clear hO hA hop hcr hf
        go_enter Tryd.func65, Tryd.ntmps65
        go_wp2_with fail
        skip
        refine (HO.out _ HX.out).mono ?_
        rintro e w2 ⟨rfl, hg⟩
        have HG2 := Lib.hid (grownN_trans HG.out hg)
        have HC2 := Lib.hid (HC.out.grown hg)
        have B2 := Lib.hid (B1.out.grown hg)
        obtain ⟨c0, c1, c2, c3⟩ := four B2.out
        clear hg
        go_wp2_with fail
        refine (HA.out _ HC2.out).mono ?_
        rintro e w3 ⟨rfl, hg⟩
        have HG3 := Lib.hid (grownN_trans HG2.out hg)
        have B3 := Lib.hid (B2.out.grown hg)
        obtain ⟨c0, c1, c2, c3⟩ := four B3.out
        clear hg
        go_wp2_with fail
        refine (CrS.l1In_b _ _ _ _).mono ?_
        rintro e w4 ⟨rfl, rfl⟩
        rw [hb]
        go_wp2
        go_ret
        exact ⟨ret_bool (by first | exact HR.out.symm | (rw [HR.out]; simp; omega) | (rw [HR.out]; simp)), HG3.out⟩

set_option maxRecDepth 20000 in
set_option maxHeartbeats 2000000 in
theorem iIsParty_any (w : World) (W H : Int) (x : Value) (X : List Int) (n f : Int) (cv pv : Value) (L : List Mem) (P : List Bool) (hx : Sees .i64 w x X) (hc : SeesG encM w cv L) (hp : SeesG encB w pv P) :
    Calls Tryd.prog 70 #[.agg #[.int .i64 W, .int .i64 H, x], .agg #[.int .i64 n, .int .i64 f, cv, pv]] w fun e w' => e = .returned (.bool (isParty W H X n f L P)) ∧ w.grownBy w' none := by
  have ga := World.grownBy_alloc w (.cells #[.int .i64 W, .int .i64 H, x] 27 (0, 0)) (none : Option Nat)
  have gb := World.grownBy_alloc (w.alloc (.cells #[.int .i64 W, .int .i64 H, x] 27 (0, 0))) (.cells #[.int .i64 n, .int .i64 f, cv, pv] 45 (0, 0)) (none : Option Nat)
  have b0 := (box_new w #[.int .i64 W, .int .i64 H, x] 27).grown gb
  have b1 := box_new (w.alloc (.cells #[.int .i64 W, .int .i64 H, x] 27 (0, 0))) #[.int .i64 n, .int .i64 f, cv, pv] 45
  simp only [World.size_alloc] at b1
  have HG := Lib.hid (grownN_trans ga gb)
  have HX := Lib.hid (hx.grown HG.out)
  have HC := Lib.hid (hc.grown HG.out)
  have hpl := hp.len
  obtain ⟨pa, pn, pc, hpe, HPN⟩ := hp.shape
  subst hpe
  have hpn : pn ≤ 9223372036854775807 := by rw [← HPN.out]; exact hpl
  have B0 := Lib.hid b0
  have B1 := Lib.hid b1
  obtain ⟨d0, d1, d2⟩ := b0.three
  obtain ⟨c0, c1, c2, c3⟩ := four b1
  clear hx hc hp ga gb b0 b1 hpl
  have hO := fun w' hs => LandI.isOpen_any w' W H n x X hs
  have hA := fun w' hs => CrI.iAreCrew_any w' cv L hs
  cases hop : isOpen W H X n
  · have HR : Hid (isParty W H X n f L P = false) := by show _ = _; unfold isParty; rw [hop]; rfl
    simp only [hop] at hO
    have HO := Lib.hid hO
    clear hO hA hop
    go_enter Tryd.func70, Tryd.ntmps70
    go_wp2_with fail
    skip
    refine (HO.out _ HX.out).mono ?_
    rintro e w2 ⟨rfl, hg⟩
    have HG2 := Lib.hid (grownN_trans HG.out hg)
    have HC2 := Lib.hid (HC.out.grown hg)
    have B2 := Lib.hid (B1.out.grown hg)
    obtain ⟨c0, c1, c2, c3⟩ := four B2.out
    clear hg
    go_wp2
    go_ret
    exact ⟨ret_bool (by first | exact HR.out.symm | (rw [HR.out]; simp; omega) | (rw [HR.out]; simp)), HG2.out⟩
  · simp only [hop] at hO
    have HO := Lib.hid hO
    cases hcr : areCrew L
    · have HR : Hid (isParty W H X n f L P = false) := by show _ = _; unfold isParty; rw [hop, hcr]; rfl
      simp only [hcr] at hA
      have HA := Lib.hid hA
      clear hO hA hop hcr
      go_enter Tryd.func70, Tryd.ntmps70
      go_wp2_with fail
      skip
      refine (HO.out _ HX.out).mono ?_
      rintro e w2 ⟨rfl, hg⟩
      have HG2 := Lib.hid (grownN_trans HG.out hg)
      have HC2 := Lib.hid (HC.out.grown hg)
      have B2 := Lib.hid (B1.out.grown hg)
      obtain ⟨c0, c1, c2, c3⟩ := four B2.out
      clear hg
      go_wp2_with fail
      refine (HA.out _ HC2.out).mono ?_
      rintro e w3 ⟨rfl, hg⟩
      have HG3 := Lib.hid (grownN_trans HG2.out hg)
      have B3 := Lib.hid (B2.out.grown hg)
      obtain ⟨c0, c1, c2, c3⟩ := four B3.out
      clear hg
      go_wp2
      go_ret
      exact ⟨ret_bool (by first | exact HR.out.symm | (rw [HR.out]; simp; omega) | (rw [HR.out]; simp)), HG3.out⟩
    · simp only [hcr] at hA
      have HA := Lib.hid hA
      by_cases hf : 0 ≤ f ∧ f ≤ 10000
      · have hb : CrI.inb f 0 10000 = true := decide_eq_true hf
        by_cases hl : pn ≤ 10
        · have HR : Hid (isParty W H X n f L P = true) := by show _ = _; unfold isParty; rw [hop, hcr, decide_eq_true hf, decide_eq_true (show P.length ≤ 10 by rw [HPN.out]; exact hl)]; rfl
          clear hO hA hop hcr hf
          go_enter Tryd.func70, Tryd.ntmps70
          go_wp2_with fail
          skip
          refine (HO.out _ HX.out).mono ?_
          rintro e w2 ⟨rfl, hg⟩
          have HG2 := Lib.hid (grownN_trans HG.out hg)
          have HC2 := Lib.hid (HC.out.grown hg)
          have B2 := Lib.hid (B1.out.grown hg)
          obtain ⟨c0, c1, c2, c3⟩ := four B2.out
          clear hg
          go_wp2_with fail
          refine (HA.out _ HC2.out).mono ?_
          rintro e w3 ⟨rfl, hg⟩
          have HG3 := Lib.hid (grownN_trans HG2.out hg)
          have B3 := Lib.hid (B2.out.grown hg)
          obtain ⟨c0, c1, c2, c3⟩ := four B3.out
          clear hg
          go_wp2_with fail
          refine (CrI.inR_b _ _ _ _).mono ?_
          rintro e w4 ⟨rfl, rfl⟩
          rw [hb]
          go_wp2
          go_ret
          exact ⟨ret_bool (by first | exact HR.out.symm | (rw [HR.out]; simp; omega) | (rw [HR.out]; simp)), HG3.out⟩
        · have HR : Hid (isParty W H X n f L P = false) := by show _ = _; unfold isParty; rw [hop, hcr, decide_eq_true hf, decide_eq_false (show ¬ P.length ≤ 10 by rw [HPN.out]; exact hl)]; rfl
          clear hO hA hop hcr hf
          go_enter Tryd.func70, Tryd.ntmps70
          go_wp2_with fail
          skip
          refine (HO.out _ HX.out).mono ?_
          rintro e w2 ⟨rfl, hg⟩
          have HG2 := Lib.hid (grownN_trans HG.out hg)
          have HC2 := Lib.hid (HC.out.grown hg)
          have B2 := Lib.hid (B1.out.grown hg)
          obtain ⟨c0, c1, c2, c3⟩ := four B2.out
          clear hg
          go_wp2_with fail
          refine (HA.out _ HC2.out).mono ?_
          rintro e w3 ⟨rfl, hg⟩
          have HG3 := Lib.hid (grownN_trans HG2.out hg)
          have B3 := Lib.hid (B2.out.grown hg)
          obtain ⟨c0, c1, c2, c3⟩ := four B3.out
          clear hg
          go_wp2_with fail
          refine (CrI.inR_b _ _ _ _).mono ?_
          rintro e w4 ⟨rfl, rfl⟩
          rw [hb]
          go_wp2
          go_ret
          exact ⟨ret_bool (by first | exact HR.out.symm | (rw [HR.out]; simp; omega) | (rw [HR.out]; simp)), HG3.out⟩
      · have hb : CrI.inb f 0 10000 = false := decide_eq_false hf
        have HR : Hid (isParty W H X n f L P = false) := by show _ = _; unfold isParty; rw [hop, hcr, decide_eq_false hf]; rfl
        clear hO hA hop hcr hf
        go_enter Tryd.func70, Tryd.ntmps70
        go_wp2_with fail
        skip
        refine (HO.out _ HX.out).mono ?_
        rintro e w2 ⟨rfl, hg⟩
        have HG2 := Lib.hid (grownN_trans HG.out hg)
        have HC2 := Lib.hid (HC.out.grown hg)
        have B2 := Lib.hid (B1.out.grown hg)
        obtain ⟨c0, c1, c2, c3⟩ := four B2.out
        clear hg
        go_wp2_with fail
        refine (HA.out _ HC2.out).mono ?_
        rintro e w3 ⟨rfl, hg⟩
        have HG3 := Lib.hid (grownN_trans HG2.out hg)
        have B3 := Lib.hid (B2.out.grown hg)
        obtain ⟨c0, c1, c2, c3⟩ := four B3.out
        clear hg
        go_wp2_with fail
        refine (CrI.inR_b _ _ _ _).mono ?_
        rintro e w4 ⟨rfl, rfl⟩
        rw [hb]
        go_wp2
        go_ret
        exact ⟨ret_bool (by first | exact HR.out.symm | (rw [HR.out]; simp; omega) | (rw [HR.out]; simp)), HG3.out⟩

end Go.Proofs.YtoanhnklemlfmaaDoor.Pa