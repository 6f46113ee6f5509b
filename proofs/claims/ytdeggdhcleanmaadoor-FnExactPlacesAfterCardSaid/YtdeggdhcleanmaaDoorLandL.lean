/- Contracts of the laws' helpers on lands. -/
import Derived.Test.YtdeggdhcleanmaaDoorLawsI
import Derived.Test.YtdeggdhcleanmaaDoorMBase
import Derived.Deep.RegionHeld3
namespace Go.Proofs.YtdeggdhcleanmaaDoor.LandL
open Go.RowKit Kit Rw LawsI

/-- What is left of a bound after n values. -/
def szv (left : Int) (n : Nat) : Int := if (n : Int) ≤ left then left - n else -1
theorem szv_ok {left : Int} {n : Nat} (h : (n : Int) ≤ left) : szv left n = left - n := if_pos h
theorem szv_no {left : Int} {n : Nat} (h : ¬ (n : Int) ≤ left) : szv left n = -1 := if_neg h

theorem szIntS_any (w : World) (v : Value) (X : List Int) (left : Int) (hv : Sees .i64 w v X) (hl : 0 ≤ left) (hl' : left ≤ 1048576) :
    Calls Tryd.prog 56 #[v, .int .i64 left] w fun e w' => e = .returned (.int .i64 (szv left X.length)) ∧ w = w' := by
  have hlen := hv.len
  obtain ⟨a, cap, rfl, _⟩ := hv
  by_cases h : (X.length : Int) ≤ left
  · rw [szv_ok h]
    go_enter Tryd.func56, Tryd.ntmps56
    go_wp2
    go_ret
    exact ⟨rfl, rfl⟩
  · rw [szv_no h]
    have h2 : left - (X.length : Int) < 0 := by omega
    go_enter Tryd.func56, Tryd.ntmps56
    go_wp2
    go_ret
    exact ⟨rfl, rfl⟩

set_option maxHeartbeats 400000 in
theorem szLand_any (w : World) (W H : Int) (v : Value) (X : List Int) (left : Int) (hv : Sees .i64 w v X) (hl : 0 ≤ left) (hl' : left ≤ 1048576) :
    Calls Tryd.prog 21 #[.agg #[.int .i64 W, .int .i64 H, v], .int .i64 left] w fun e w' => e = .returned (.int .i64 (szv left X.length)) ∧ w.grownBy w' none := by
  have HG := Lib.hid (World.grownBy_alloc w (.cells #[.int .i64 W, .int .i64 H, v] 34 (0, 0)) none)
  have HV := Lib.hid (hv.grown HG.out)
  obtain ⟨c0, c1, c2⟩ := (box_new w #[.int .i64 W, .int .i64 H, v] 34).three
  clear hv
  by_cases h : (X.length : Int) ≤ left
  · have HSZ := Lib.hid (szv_ok h)
    have h0 : 0 ≤ szv left X.length := by rw [HSZ.out]; omega
    go_enter Tryd.func21, Tryd.ntmps21
    go_wp2_with fail
    refine (szIntS_any _ v X left HV.out hl hl').mono ?_
    rintro e w' ⟨rfl, rfl⟩
    go_wp2
    go_ret
    exact ⟨rfl, HG.out⟩
  · have HSZ := Lib.hid (szv_no h)
    have h0 : szv left X.length < 0 := by rw [HSZ.out]; omega
    go_enter Tryd.func21, Tryd.ntmps21
    go_wp2_with fail
    refine (szIntS_any _ v X left HV.out hl hl').mono ?_
    rintro e w' ⟨rfl, rfl⟩
    go_wp2
    go_ret
    exact ⟨ret_i64 HSZ.out.symm, HG.out⟩

theorem szLand_yes (w : World) (W H : Int) (v : Value) (X : List Int) (left : Int) (hv : Sees .i64 w v X) (h : (X.length : Int) ≤ left) (hl : 0 ≤ left) (hl' : left ≤ 1048576) :
    Calls Tryd.prog 21 #[.agg #[.int .i64 W, .int .i64 H, v], .int .i64 left] w fun e w' => e = .returned (.int .i64 (left - (X.length : Int))) ∧ w.grownBy w' none := by
  have := szLand_any w W H v X left hv hl hl'; rwa [szv_ok h] at this
theorem szLand_no (w : World) (W H : Int) (v : Value) (X : List Int) (left : Int) (hv : Sees .i64 w v X) (h : ¬ (X.length : Int) ≤ left) (hl : 0 ≤ left) (hl' : left ≤ 1048576) :
    Calls Tryd.prog 21 #[.agg #[.int .i64 W, .int .i64 H, v], .int .i64 left] w fun e w' => e = .returned (.int .i64 (-1)) ∧ w.grownBy w' none := by
  have := szLand_any w W H v X left hv hl hl'; rwa [szv_no h] at this

set_option maxHeartbeats 400000 in
theorem toLand_any (w : World) (W H : Int) (v : Value) (X : List Int) (hv : Sees .i64 w v X) (hn : X.length ≤ 1000000000000) :
    Calls Tryd.prog 23 #[.agg #[.int .i64 W, .int .i64 H, v]] w fun e w' => ∃ u, e = .returned (.agg #[.int .i64 W, .int .i64 H, u]) ∧ Own .i64 3 w' w.heap.size u X ∧ w.grownBy w' none := by
  have b1 := box_new (w.alloc (.cells #[.int .i64 W, .int .i64 H, v] 34 (0, 0))) #[.int .i64 0, .int .i64 0, .slice none 0 0] 37
  have b2 := box_new ((w.alloc (.cells #[.int .i64 W, .int .i64 H, v] 34 (0, 0))).alloc (.cells #[.int .i64 0, .int .i64 0, .slice none 0 0] 37 (0, 0))) #[.int .i64 W, .int .i64 H, .slice none 0 0] 37
  have b1' := b1.grown (World.grownBy_alloc _ (.cells #[.int .i64 W, .int .i64 H, .slice none 0 0] 37 (0, 0)) none)
  simp only [World.size_alloc] at b1' b2
  have HG := Lib.hid (grownN_trans (grownN_trans (World.grownBy_alloc w (.cells #[.int .i64 W, .int .i64 H, v] 34 (0, 0)) none) (World.grownBy_alloc _ (.cells #[.int .i64 0, .int .i64 0, .slice none 0 0] 37 (0, 0)) none)) (World.grownBy_alloc _ (.cells #[.int .i64 W, .int .i64 H, .slice none 0 0] 37 (0, 0)) none))
  have HV := Lib.hid (hv.grown HG.out)
  have B1 := Lib.hid b1'
  have B2 := Lib.hid b2
  clear hv b1 b2 b1'
  go_enter Tryd.func23, Tryd.ntmps23
  go_wp2_with fail
  generalize ((w.alloc (.cells #[.int .i64 W, .int .i64 H, v] 34 (0, 0))).alloc (.cells #[.int .i64 0, .int .i64 0, .slice none 0 0] 37 (0, 0))).alloc (.cells #[.int .i64 W, .int .i64 H, .slice none 0 0] 37 (0, 0)) = W3 at *
  refine (to_any W3 v X HV.out hn).mono ?_
  rintro e w4 ⟨u, rfl, ho, hg⟩
  have HO := Lib.hid ho
  have HG4 := Lib.hid (grownN_trans HG.out hg)
  have B14 := Lib.hid (B1.out.grown hg)
  have B24 := Lib.hid (B2.out.grown hg)
  have h3 : w.heap.size + 1 + 1 < W3.heap.size := B2.out.lt
  have H3 := Lib.hid h3
  clear ho hg h3
  obtain ⟨ua, un, uc, hu, HUN⟩ := HO.out.sees.shape
  subst hu
  obtain ⟨c10, c11, c12⟩ := B14.out.three
  obtain ⟨c20, c21, c22⟩ := B24.out.three
  have f10 := B14.out.free 0
  have f11 := B14.out.free 1
  have f12 := B14.out.free 2
  have f22 := B24.out.free 2
  go_wp2
  have h3 := H3.out
  have hb : Below w.heap.size w w4 := grown_below HG4.out _ (Nat.le_refl _)
  refine bodyPost_ret (v := .agg #[.int .i64 W, .int .i64 H, .slice ua un uc]) ?_ rfl ⟨_, rfl, ?_, ?_⟩
  · simp [results, Tryd.results23, go_sem, c10, c11, c12]
  · exact ((((HO.out.set (by omega) _ _).set (by omega) _ _).set (by omega) _ _).set (by omega) _ _).lower (by omega)
  · exact below_grown ((((hb.setCell (by simp; omega) _).setCell (by simp) _).setCell (by simp) _).setCell (by simp) _)

set_option maxHeartbeats 400000 in
theorem eqLand_same (w : World) (W H : Int) (u v : Value) (X : List Int) (hu : Sees .i64 w u X) (hv : Sees .i64 w v X) :
    Calls Tryd.prog 26 #[.agg #[.int .i64 W, .int .i64 H, u], .agg #[.int .i64 W, .int .i64 H, v]] w fun e w' => e = .returned (.bool true) ∧ w.grownBy w' none := by
  have HG := Lib.hid (grownN_trans (World.grownBy_alloc w (.cells #[.int .i64 W, .int .i64 H, u] 37 (0, 0)) none) (World.grownBy_alloc _ (.cells #[.int .i64 W, .int .i64 H, v] 37 (0, 0)) none))
  have HU := Lib.hid (hu.grown HG.out)
  have HV := Lib.hid (hv.grown HG.out)
  clear hu hv
  go_enter Tryd.func26, Tryd.ntmps26
  go_wp2_with fail
  refine (eq_same _ u v X HU.out HV.out).mono ?_
  rintro e w3 ⟨rfl, hg⟩
  have HG3 := Lib.hid (grownN_trans HG.out hg)
  clear hg
  go_wp2
  go_ret
  exact ⟨rfl, HG3.out⟩

set_option maxHeartbeats 400000 in
theorem markLand_any (w : World) (base : Nat) (W H : Int) (v : Value) (X : List Int) (m : Nat) (hv : Own .i64 3 w base v X) (hm : m + X.length ≤ 4000000000000000000) :
    Calls Tryd.prog 27 #[.agg #[.int .i64 W, .int .i64 H, v], .int .i64 m] w fun e w' => e = .returned (.int .i64 ((m + X.length : Nat) : Int)) ∧ Own .i64 3 w' base v (marksI m X.length) ∧ w.grownBy w' v.ownBlock := by
  have HG := Lib.hid (World.grownBy_alloc w (.cells #[.int .i64 W, .int .i64 H, v] 37 (0, 0)) none)
  have HV := Lib.hid (hv.grown HG.out)
  clear hv
  go_enter Tryd.func27, Tryd.ntmps27
  go_wp2_with fail
  refine (mark_any _ base v X m HV.out hm).mono ?_
  rintro e w3 ⟨rfl, ho, hg⟩
  have HO := Lib.hid ho
  have HG3 : Hid (w.grownBy w3 v.ownBlock) := grown_old' HG.out hg
  clear ho hg
  go_wp2
  go_ret
  exact ⟨rfl, HO.out, HG3.out⟩

end Go.Proofs.YtdeggdhcleanmaaDoor.LandL
