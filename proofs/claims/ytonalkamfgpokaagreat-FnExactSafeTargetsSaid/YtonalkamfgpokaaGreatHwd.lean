/- What the worst return goes through: its way and its weather. -/
import Derived.Test.YtonalkamfgpokaaGreatG28
import Derived.Test.YtonalkamfgpokaaGreatWayK
import Derived.Test.YtonalkamfgpokaaGreatG30
namespace Go.Proofs.YtonalkamfgpokaaGreat.Hwd
open Go.RowKit Go.Shelf Kit Rw Rg Stm Crw CrS CrI Four Hom Sgn Wf
attribute [local go_sem] Oper.semAt_some

section
variable {w : World} {b : Nat} {x y z u x' y' z' : Value} {t : TypeId}
theorem set3_0 (h : Box w b #[x, y, z] t) : Box (w.setCell ⟨b, 0, none⟩ u) b #[u, y, z] t := by
  have hlt := h.lt
  have h0 : w.heap[b]? = some (.cells #[x, y, z] t (0, 0)) := h
  have h' : w.heap[b] = .cells #[x, y, z] t (0, 0) := by simpa [Array.getElem?_eq_getElem hlt] using h0
  show (w.heap.modify b _)[b]? = _
  rw [Array.getElem?_eq_getElem (by simpa using hlt), Array.getElem_modify_self, h']
  rfl
theorem set3_1 (h : Box w b #[x, y, z] t) : Box (w.setCell ⟨b, 1, none⟩ u) b #[x, u, z] t := three_set1 h
theorem set3_2 (h : Box w b #[x, y, z] t) : Box (w.setCell ⟨b, 2, none⟩ u) b #[x, y, u] t := three_set2 h
theorem put3_on (h : Box w b #[x, y, z] t) (x' y' z' : Value) :
    (w.cell? ⟨b, 0, none⟩ = some x ∧ w.frozen? ⟨b, 0, none⟩ = false) ∧
    ((w.setCell ⟨b, 0, none⟩ x').cell? ⟨b, 1, none⟩ = some y ∧ (w.setCell ⟨b, 0, none⟩ x').frozen? ⟨b, 1, none⟩ = false) ∧
    (((w.setCell ⟨b, 0, none⟩ x').setCell ⟨b, 1, none⟩ y').cell? ⟨b, 2, none⟩ = some z ∧ ((w.setCell ⟨b, 0, none⟩ x').setCell ⟨b, 1, none⟩ y').frozen? ⟨b, 2, none⟩ = false) :=
  ⟨⟨h.cell 0, h.free 0⟩, ⟨(set3_0 h).cell 1, (set3_0 h).free 1⟩, ⟨(set3_1 (set3_0 h)).cell 2, (set3_1 (set3_0 h)).free 2⟩⟩
end
set_option maxRecDepth 100000 in
set_option maxHeartbeats 4000000 in
theorem homewardOf_any (w : World) (W H base n f : Int) (M N : Nat) (xv cv pv : Value) (X : List Int) (P : List Bool) (hM : (Lit.int .i64 (M : Int)).wf = true) (hMN : M < N) (hN : N ≤ 10) (hx : Sees .i64 w xv X) (hcv : ∃ ca cn cc, cv = .slice ca cn cc) (hp : SeesG encB w pv P) :
    Calls Tryz.prog 173 #[.agg #[.int .i64 W, .int .i64 H, xv], .int .i64 base, .agg #[.int .i64 (M : Int), .int .i64 (N : Int)], .agg #[.int .i64 n, .int .i64 f, cv, pv]] w fun e w' =>
      ∃ wv, e = .returned (.agg #[.int .i64 base, wv, .string (text (signs M N P (((wayOf W H X n base).length : Int) - 1).toNat))]) ∧ Sees .i64 w' wv (wayOf W H X n base) ∧ w.grownBy w' none := by
  obtain ⟨xa, xn, xc, rfl, _⟩ := hx.shape
  obtain ⟨ca, cn, cc, rfl⟩ := hcv
  obtain ⟨pa, pn, pc, rfl, _⟩ := hp.shape
  have HX := Lib.hid hx
  have HP := Lib.hid hp
  have HM := Lib.hid hM
  have HMN := Lib.hid (And.intro hMN hN)
  obtain ⟨way, hway⟩ : ∃ way, way = wayOf W H X n base := ⟨_, rfl⟩
  rw [← hway]
  obtain ⟨tx, htx⟩ : ∃ tx, tx = text (signs M N P (((way.length : Int) - 1).toNat)) := ⟨_, rfl⟩
  rw [← htx]
  have HTX := Lib.hid htx
  have HWY := Lib.hid hway
  have HWL : Hid (way.length ≤ 65) := by rw [hway]; exact wayOf_len _ _ _ _ _
  have HG : Hid (w.grownBy ((((w.alloc (.cells #[.int .i64 W, .int .i64 H, .slice xa xn xc] 37 (0, 0))).alloc (.cells #[.int .i64 (M : Int), .int .i64 (N : Int)] 38 (0, 0))).alloc (.cells #[.int .i64 n, .int .i64 f, .slice ca cn cc, .slice pa pn pc] 42 (0, 0))).alloc (.cells #[.int .i64 0, .slice none 0 0, .string { data := #[] }] 173 (0, 0))) none) := grownN_trans (grownN_trans (grownN_trans (World.grownBy_alloc _ _ _) (World.grownBy_alloc _ _ _)) (World.grownBy_alloc _ _ _)) (World.grownBy_alloc _ _ _)
  have BR : Hid (Box ((((w.alloc (.cells #[.int .i64 W, .int .i64 H, .slice xa xn xc] 37 (0, 0))).alloc (.cells #[.int .i64 (M : Int), .int .i64 (N : Int)] 38 (0, 0))).alloc (.cells #[.int .i64 n, .int .i64 f, .slice ca cn cc, .slice pa pn pc] 42 (0, 0))).alloc (.cells #[.int .i64 0, .slice none 0 0, .string { data := #[] }] 173 (0, 0))) (w.heap.size + 1) #[.int .i64 (M : Int), .int .i64 (N : Int)] 38) := by
    have := ((box_new (w.alloc (.cells #[.int .i64 W, .int .i64 H, .slice xa xn xc] 37 (0, 0))) #[.int .i64 (M : Int), .int .i64 (N : Int)] 38).grown (World.grownBy_alloc _ (.cells #[.int .i64 n, .int .i64 f, .slice ca cn cc, .slice pa pn pc] 42 (0, 0)) none)).grown (World.grownBy_alloc _ (.cells #[.int .i64 0, .slice none 0 0, .string { data := #[] }] 173 (0, 0)) none)
    simp only [World.size_alloc] at this; exact this
  have BP : Hid (Box ((((w.alloc (.cells #[.int .i64 W, .int .i64 H, .slice xa xn xc] 37 (0, 0))).alloc (.cells #[.int .i64 (M : Int), .int .i64 (N : Int)] 38 (0, 0))).alloc (.cells #[.int .i64 n, .int .i64 f, .slice ca cn cc, .slice pa pn pc] 42 (0, 0))).alloc (.cells #[.int .i64 0, .slice none 0 0, .string { data := #[] }] 173 (0, 0))) (w.heap.size + 1 + 1) #[.int .i64 n, .int .i64 f, .slice ca cn cc, .slice pa pn pc] 42) := by
    have := (box_new ((w.alloc (.cells #[.int .i64 W, .int .i64 H, .slice xa xn xc] 37 (0, 0))).alloc (.cells #[.int .i64 (M : Int), .int .i64 (N : Int)] 38 (0, 0))) #[.int .i64 n, .int .i64 f, .slice ca cn cc, .slice pa pn pc] 42).grown (World.grownBy_alloc _ (.cells #[.int .i64 0, .slice none 0 0, .string { data := #[] }] 173 (0, 0)) none)
    simp only [World.size_alloc] at this; exact this
  have BZ : Hid (Box ((((w.alloc (.cells #[.int .i64 W, .int .i64 H, .slice xa xn xc] 37 (0, 0))).alloc (.cells #[.int .i64 (M : Int), .int .i64 (N : Int)] 38 (0, 0))).alloc (.cells #[.int .i64 n, .int .i64 f, .slice ca cn cc, .slice pa pn pc] 42 (0, 0))).alloc (.cells #[.int .i64 0, .slice none 0 0, .string { data := #[] }] 173 (0, 0))) (w.heap.size + 1 + 1 + 1) #[.int .i64 0, .slice none 0 0, .string { data := #[] }] 173) := by
    have := box_new (((w.alloc (.cells #[.int .i64 W, .int .i64 H, .slice xa xn xc] 37 (0, 0))).alloc (.cells #[.int .i64 (M : Int), .int .i64 (N : Int)] 38 (0, 0))).alloc (.cells #[.int .i64 n, .int .i64 f, .slice ca cn cc, .slice pa pn pc] 42 (0, 0))) #[.int .i64 0, .slice none 0 0, .string { data := #[] }] 173
    simp only [World.size_alloc] at this; exact this
  clear hx hp hM hMN hN hway htx
  go_enter Tryz.func173, Tryz.ntmps173
  go_wp2_with fail
  generalize (((w.alloc (.cells #[.int .i64 W, .int .i64 H, .slice xa xn xc] 37 (0, 0))).alloc (.cells #[.int .i64 (M : Int), .int .i64 (N : Int)] 38 (0, 0))).alloc (.cells #[.int .i64 n, .int .i64 f, .slice ca cn cc, .slice pa pn pc] 42 (0, 0))).alloc (.cells #[.int .i64 0, .slice none 0 0, .string { data := #[] }] 173 (0, 0)) = v4 at *
  refine (WayI.wayTo_any _ W H n base _ X (HX.out.grown HG.out)).mono ?_
  rintro e v5 ⟨wv, rfl, ho, hg⟩
  rw [← HWY.out] at ho
  have HW5 := Lib.hid ho.sees
  have HOL := Lib.hid ho.lt
  have HBL := Lib.hid BZ.out.lt
  have HG5 := Lib.hid (grownN_trans HG.out hg)
  have BR5 := Lib.hid (BR.out.grown hg)
  have BP5 := Lib.hid (BP.out.grown hg)
  have BZ5 := Lib.hid (BZ.out.grown hg)
  obtain ⟨wa, wn, wc, rfl, HWN⟩ := ho.sees.shape
  obtain ⟨r0, r1⟩ := StormS.two BR5.out
  obtain ⟨c0, c1, c2, c3⟩ := Four.four BP5.out
  have hwr : IntKind.i64.wrap ((wn : Int) - 1) = (way.length : Int) - 1 := by rw [← HWN.out]; exact IntWalk.i64_in _ (by have := HWL.out; omega)
  clear ho hg
  go_wp2_with fail
  refine (signs_any _ M N ((way.length : Int) - 1) HM.out HMN.out.1 HMN.out.2 (by have := HWL.out; omega) _ P (HP.out.grown HG5.out)).mono ?_
  rintro e v6 ⟨rfl, hg⟩
  rw [← HTX.out]
  have HW6 := Lib.hid (HW5.out.grown hg)
  have HG6 := Lib.hid (grownN_trans HG5.out hg)
  have BZ6 := Lib.hid (BZ5.out.grown hg)
  obtain ⟨⟨p0, f0⟩, ⟨p1, f1⟩, ⟨p2, f2⟩⟩ := put3_on BZ6.out (.int .i64 base) (.slice wa wn wc) (.string tx)
  clear hg hwr r0 r1 c0 c1 c2 c3
  go_wp2
  have hput := grown_trans (grown_trans (grown_set v6 (w.heap.size + 1 + 1 + 1) 0 (.int .i64 base)) (grown_set _ (w.heap.size + 1 + 1 + 1) 1 (.slice wa wn wc))) (grown_set _ (w.heap.size + 1 + 1 + 1) 2 (.string tx))
  refine ret_box rfl rfl (set3_2 (u := .string tx) (set3_1 (u := .slice wa wn wc) (set3_0 (u := .int .i64 base) BZ6.out))) Tryz.underlying173 rfl (by kernel_rfl) rfl ?_
  exact ⟨_, rfl, HW6.out.kept hput (.inr (fun e => by have := (HOL.out _ e).1; have := HBL.out; omega)), grown_new HG6.out hput (fun c e => by injection e with e; omega)⟩
end Go.Proofs.YtonalkamfgpokaaGreat.Hwd
