/- The law FnIntegers returns true at every byte slice, where the library's variables hold what their initialisers lay. -/
import Derived.Test.YtfkaohgbjiphbaaDoorInts
namespace Go.Proofs.YtfkaohgbjiphbaaDoor.Draw
open Go.RowKit Kit

theorem gSyn : Tryd.prog.globalNamed "strconv.ErrSyntax" = some 0 := by kernel_rfl
theorem gRng : Tryd.prog.globalNamed "strconv.ErrRange" = some 1 := by kernel_rfl
theorem var_on {w w' : World} {B g : Nat} {n : String} {cs : Array Value} (hg : Tryd.prog.globalNamed n = some g) (h : w.var? Tryd.prog n = some cs) (hb : Below B w w') (hB : w.heap.size ≤ B) : w'.var? Tryd.prog n = some cs := by
  unfold World.var? at h ⊢
  rw [hg] at h ⊢
  simp only [Option.bind_some] at h ⊢
  by_cases hlt : g < w.heap.size
  · rw [hb.block g (by omega)]; exact h
  · rw [Array.getElem?_eq_none (by omega)] at h; simp at h
/-- What the library's variables hold, and goes on holding. -/
def Libs (w : World) : Prop := Fmt.Pow10 w ∧ Fmt.Sents w
theorem Libs.on {w w' : World} (h : Libs w) (hb : Below w.heap.size w w') : Libs w' := by
  obtain ⟨hp, ⟨t0, p0, h0⟩, ⟨t1, p1, h1⟩⟩ := h
  exact ⟨hp.below hb (Nat.le_refl _), ⟨t0, p0, var_on gSyn h0 hb (Nat.le_refl _)⟩, ⟨t1, p1, var_on gRng h1 hb (Nat.le_refl _)⟩⟩
theorem itoa_len {n : Int} (h : I64 n) : (Lib.itoa n).length ≤ 21 := by
  obtain ⟨h0, h1⟩ := h
  by_cases hn : n < 0
  · obtain ⟨u, rfl⟩ : ∃ u : Nat, n = -(u : Int) := ⟨n.natAbs, by omega⟩
    rw [Lib.itoa_neg u (by omega)]
    have := Fmt.digits_len u (by omega)
    simp; omega
  · obtain ⟨u, rfl⟩ : ∃ u : Nat, n = (u : Int) := ⟨n.toNat, by omega⟩
    rw [Lib.itoa_nonneg u]
    have := Fmt.digits_len u (by omega)
    omega

set_option maxHeartbeats 8000000 in
theorem integers_any (w : World) (a : Option Addr) (len cap : Nat) (z : List Int) (w0 : IsRow .u8 w a len cap z) (hL : Libs w) :
    Calls Tryd.prog 3 #[.slice a len cap] w fun e w' => e = .returned (.bool true) ∧ Below w.heap.size w w' := by
  have HL := Lib.hid hL
  have HR := Lib.hid w0
  clear hL w0
  by_cases hbig : (1048576 : Int) < (len : Int)
  · go_enter Tryd.func3, Tryd.ntmps3
    go_wp2_with (go_at_call 6; refine (big_any _ _ _ _).mono ?_; rintro e w' ⟨rfl, rfl⟩)
    go_ret
    exact ⟨rfl, Below.refl _ _⟩
  · go_enter Tryd.func3, Tryd.ntmps3
    go_wp2_with (go_at_call 6; refine (big_any _ _ _ _).mono ?_; rintro e w' ⟨rfl, rfl⟩; refine Hid.out ?_)
    refine Lib.hid ?_
    go_wp2_with fail
    refine (draw_parse _ _ _ _ _ HR.out).mono ?_
    rintro e w1 ⟨s, hs, rfl, hb1⟩
    have HR1 := Lib.hid (HR.out.below hb1)
    have HL1 := Lib.hid (HL.out.on hb1)
    go_wp2_with fail
    refine (Fmt.impl_parse s (by omega) _ HL1.out.1 HL1.out.2).mono ?_
    rintro e w2 ⟨n, ok, rfl, HP, hb2⟩
    have HP1 := Lib.hid HP
    clear HP
    have HR2 := Lib.hid (HR1.out.below hb2)
    have HL2 := Lib.hid (HL1.out.on hb2)
    go_wp2_with fail
    refine (draw_format _ _ _ _ _ HR2.out).mono ?_
    rintro e w3 ⟨m, hm, rfl, hb3⟩
    have HR3 := Lib.hid (HR2.out.below hb3)
    have HL3 := Lib.hid (HL2.out.on hb3)
    go_wp2_with fail
    refine (Fmt.impl_any m hm.1 hm.2 _ HL3.out.1).mono ?_
    rintro e w4 ⟨rfl, hb4⟩
    have HR4 := Lib.hid (HR3.out.below hb4)
    have HL4 := Lib.hid (HL3.out.on hb4)
    go_wp2_with fail
    refine (Fmt.impl_parse ⟨(Lib.itoa m).toArray⟩ (by have := itoa_len hm; simp [ByteArray.size]; omega) _ HL4.out.1 HL4.out.2).mono ?_
    rintro e w5 ⟨k, fine, rfl, HP, hb5⟩
    obtain ⟨hin, hout⟩ := pres_itoa (by simpa using HP)
    have HIN := Lib.hid hin
    have HOUT := Lib.hid hout
    clear HP hin hout
    have HR5 := Lib.hid (HR4.out.below hb5)
    have HL5 := Lib.hid (HL4.out.on hb5)
    go_wp2_with fail
    refine (draw_ceil _ _ _ _ _ HR5.out).mono ?_
    rintro e w6 ⟨x, y, hx, hy, rfl, hb6⟩
    have HL6 := Lib.hid (HL5.out.on hb6)
    have HB : Hid (Below w.heap.size w w6) := by
      have h2 := hb1.trans (hb2.mono hb1.size)
      have h3 := h2.trans (hb3.mono h2.size)
      have h4 := h3.trans (hb4.mono h3.size)
      have h5 := h4.trans (hb5.mono h4.size)
      exact h5.trans (hb6.mono h5.size)
    clear HR1 HR2 HR3 HR4 HR5 HL1 HL2 HL3 HL4 HL5 hb1 hb2 hb3 hb4 hb5 hb6
    go_wp2_with fail
    refine (Arith.ceil_any _ _ _).mono ?_
    rintro e w' ⟨rfl, rfl⟩
    go_wp2_with fail
    refine (Arith.mod_any _ _ _).mono ?_
    rintro e w' ⟨rfl, rfl⟩
    have finish : ∀ w', Below w6.heap.size w6 w' → Below w.heap.size w w' := fun w' h => HB.out.trans (h.mono HB.out.size)
    have HF := Lib.hid finish
    have HM : Hid ((0 ≤ m ∧ m ≤ 1000000000000 ∧ fine = true ∧ k = m) ∨ (m < 0 ∧ fine = false) ∨ (1000000000000 < m ∧ fine = false)) := by
      by_cases h : 0 ≤ m ∧ m ≤ 1000000000000
      · exact .inl ⟨h.1, h.2, HIN.out h⟩
      · by_cases h2 : m < 0
        · exact .inr (.inl ⟨h2, HOUT.out h⟩)
        · exact .inr (.inr ⟨by omega, HOUT.out h⟩)
    have HS : Hid ((ok = false) ∨ (ok = true ∧ ∃ j : Nat, (j : Int) ≤ 1000000000000 ∧ n = (j : Int) ∧ (⟨(Lib.decDigits j).toArray⟩ : ByteArray) = s)) := by
      rcases HP1.out with ⟨rfl, j, hj, he, rfl⟩ | ⟨rfl, _, _⟩
      · exact .inr ⟨rfl, j, by omega, rfl, by rw [he]⟩
      · exact .inl rfl
    clear HP1 HIN HOUT finish HB hm hs
    obtain ⟨hx0, hx1⟩ := hx
    obtain ⟨hy0, hy1⟩ := hy
    rcases HS.out with rfl | ⟨rfl, j, hj, rfl, hse⟩
    · clear HS
      rcases HM.out with ⟨h0, h1, rfl, rfl⟩ | ⟨h0, rfl⟩ | ⟨h0, rfl⟩
      all_goals
        clear HM
        by_cases hya : y < 1
        · have hq := cdiv_out (a := x) (b := y) (by omega)
          have hr := modOf_out (a := x) (b := y) (by omega)
          go_wp2
          go_ret
          exact ⟨rfl, HF.out _ (Below.refl _ _)⟩
        by_cases hyb : 1000000000000 < y
        · have hq := cdiv_out (a := x) (b := y) (by omega)
          have hr := modOf_out (a := x) (b := y) (by omega)
          go_wp2
          go_ret
          exact ⟨rfl, HF.out _ (Below.refl _ _)⟩
        obtain ⟨r0, r1, r2, r3⟩ := modOf_in (a := x) (b := y) (by omega) (by omega)
        have tb := Arith.tmod_bd x y (by omega)
        generalize Arith.modOf x y = r at *
        by_cases hxa : x < 0
        · have hq := cdiv_out (a := x) (b := y) (by omega)
          clear r3
          go_wp2
          go_ret
          exact ⟨rfl, HF.out _ (Below.refl _ _)⟩
        have hxm := r3 (by omega)
        clear r3
        by_cases hxb : 1000000000000 < x
        · have hq := cdiv_out (a := x) (b := y) (by omega)
          go_wp2
          go_ret
          exact ⟨rfl, HF.out _ (Below.refl _ _)⟩
        · obtain ⟨q0, q1, q2, q3⟩ := cdiv_in (a := x) (b := y) (by omega) (by omega) (by omega) (by omega)
          generalize Arith.cdiv x y = q at *
          go_wp2
          go_ret
          exact ⟨ret_bool (decide_eq_true (by omega)), HF.out _ (Below.refl _ _)⟩
    · clear HS
      rcases HM.out with ⟨h0, h1, rfl, rfl⟩ | ⟨h0, rfl⟩ | ⟨h0, rfl⟩
      all_goals
        clear HM
        by_cases hya : y < 1
        · have hq := cdiv_out (a := x) (b := y) (by omega)
          have hr := modOf_out (a := x) (b := y) (by omega)
          go_wp2_with (go_at_call 10; refine (Fmt.impl_nat j (by omega) _ HL6.out.1).mono ?_; rintro e w7 ⟨rfl, hb7⟩)
          go_ret
          exact ⟨rfl, HF.out _ hb7⟩
        by_cases hyb : 1000000000000 < y
        · have hq := cdiv_out (a := x) (b := y) (by omega)
          have hr := modOf_out (a := x) (b := y) (by omega)
          go_wp2_with (go_at_call 10; refine (Fmt.impl_nat j (by omega) _ HL6.out.1).mono ?_; rintro e w7 ⟨rfl, hb7⟩)
          go_ret
          exact ⟨rfl, HF.out _ hb7⟩
        obtain ⟨r0, r1, r2, r3⟩ := modOf_in (a := x) (b := y) (by omega) (by omega)
        have tb := Arith.tmod_bd x y (by omega)
        generalize Arith.modOf x y = r at *
        by_cases hxa : x < 0
        · have hq := cdiv_out (a := x) (b := y) (by omega)
          clear r3
          go_wp2_with (go_at_call 10; refine (Fmt.impl_nat j (by omega) _ HL6.out.1).mono ?_; rintro e w7 ⟨rfl, hb7⟩)
          go_ret
          exact ⟨rfl, HF.out _ hb7⟩
        have hxm := r3 (by omega)
        clear r3
        by_cases hxb : 1000000000000 < x
        · have hq := cdiv_out (a := x) (b := y) (by omega)
          go_wp2_with (go_at_call 10; refine (Fmt.impl_nat j (by omega) _ HL6.out.1).mono ?_; rintro e w7 ⟨rfl, hb7⟩)
          go_ret
          exact ⟨rfl, HF.out _ hb7⟩
        · obtain ⟨q0, q1, q2, q3⟩ := cdiv_in (a := x) (b := y) (by omega) (by omega) (by omega) (by omega)
          generalize Arith.cdiv x y = q at *
          go_wp2_with (go_at_call 10; refine (Fmt.impl_nat j (by omega) _ HL6.out.1).mono ?_; rintro e w7 ⟨rfl, hb7⟩)
          go_ret
          exact ⟨ret_bool (decide_eq_true (by omega)), HF.out _ hb7⟩
end Go.Proofs.YtfkaohgbjiphbaaDoor.Draw
