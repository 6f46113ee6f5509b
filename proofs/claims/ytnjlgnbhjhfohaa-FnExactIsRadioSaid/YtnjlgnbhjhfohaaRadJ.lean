/- Contracts of what is heard and missed, of the program and of its model. -/
import Derived.Test.YtnjlgnbhjhfohaaRadI
namespace Go.Proofs.Ytnjlgnbhjhfohaa.RadI
open Go.RowKit Kit Rw Md Rad Tw

/-- The radio that came in and the one that is handed out, in their blocks. -/
structure HR (w wr : World) (l m x y : Int) : Prop where
  par : Box wr w.heap.size #[.int .i64 l, .int .i64 m] 27
  res : Box wr (w.heap.size + 1) #[.int .i64 x, .int .i64 y] 27
  grown : w.grownBy wr none
section
variable {w wr wy : World} {l m x y x' y' : Int}
theorem HR.start : HR w ((w.alloc (.cells #[.int .i64 l, .int .i64 m] 27 (0, 0))).alloc (.cells #[.int .i64 0, .int .i64 0] 27 (0, 0))) l m 0 0 := by
  have h1 := World.grownBy_alloc w (.cells #[.int .i64 l, .int .i64 m] 27 (0, 0)) (none : Option Nat)
  have h2 := World.grownBy_alloc (w.alloc (.cells #[.int .i64 l, .int .i64 m] 27 (0, 0))) (.cells #[.int .i64 0, .int .i64 0] 27 (0, 0)) (none : Option Nat)
  have h3 := box_new (w.alloc (.cells #[.int .i64 l, .int .i64 m] 27 (0, 0))) #[.int .i64 0, .int .i64 0] 27
  simp only [World.size_alloc] at h3
  exact ⟨(box_new _ _ _).grown h2, h3, grownN_trans h1 h2⟩
theorem HR.on (h : HR w wr l m x y) (hg : wr.grownBy wy none) : HR w wy l m x y := ⟨h.par.grown hg, h.res.grown hg, grownN_trans h.grown hg⟩
theorem HR.fin (h : HR w wr l m x y) : w.grownBy (put2 wr (w.heap.size + 1) (.int .i64 x') (.int .i64 y')) none := grown_new h.grown (put2_grown _ _ _ _) (fun g e => by injection e with e; omega)
theorem HR.next (h : HR w wr l m x y) : HR w (wr.alloc (.cells #[.int .i64 x', .int .i64 y'] 27 (0, 0))) l m x y ∧ Box (wr.alloc (.cells #[.int .i64 x', .int .i64 y'] 27 (0, 0))) wr.heap.size #[.int .i64 x', .int .i64 y'] 27 :=
  ⟨h.on (World.grownBy_alloc wr _ none), box_new _ _ _⟩
theorem HR.kept (h : HR w wr l m x y) {b : Nat} (hg : wr.grownBy wy (some b)) (hb : w.heap.size + 1 < b) : HR w wy l m x y :=
  ⟨h.par.kept hg (by simp; omega), h.res.kept hg (by simp; omega), grown_new h.grown hg (fun g e => by injection e with e; omega)⟩
end

set_option maxRecDepth 20000 in
set_option maxHeartbeats 1000000 in
theorem sHear_any (w : World) (l m h : Int) :
    Calls Try.prog 15 #[.agg #[.int .i64 l, .int .i64 m], .int .i64 h] w fun e w' => e = .returned (.tuple #[.agg #[.int .i64 (hearL l m h), .int .i64 (hearM l m h)], .bool (hearOk l m h)]) ∧ w.grownBy w' none := by
  have HR0 := Lib.hid (HR.start (w := w) (l := l) (m := m))
  obtain ⟨c0, c1⟩ := two HR0.out.par
  have ha := fun w => sIs_any w l m
  by_cases hok : hearOk l m h = true
  · obtain ⟨ht, h1, h2⟩ := hear_yes hok
    rw [ht] at ha
    have HA := Lib.hid ha
    have HI : Hid (hearL l m h = h ∧ hearM l m h = 0 ∧ hearOk l m h = true) := ⟨by unfold hearL; rw [if_pos hok], by unfold hearM; rw [if_pos hok], hok⟩
    clear ha ht hok
    go_enter Try.func15, Try.ntmps15
    go_wp2_with fail
    refine (HA.out _).mono ?_
    rintro e w2 ⟨rfl, hg⟩
    have HR2 := Lib.hid (HR0.out.on hg)
    obtain ⟨c0, c1⟩ := two HR2.out.par
    obtain ⟨⟨p0, r0⟩, ⟨p1, r1⟩, o0, o1⟩ := put2_on HR2.out.res (.int .i64 h) (.int .i64 0)
    clear hg
    go_wp2
    try simp only [Exit.inBlock, Exit.then]
    exact ret_box1 rfl rfl (put2_box (x' := .int .i64 h) (y' := .int .i64 0) HR2.out.res) Try.underlying27 rfl (by kernel_rfl) rfl ⟨by rw [HI.out.1, HI.out.2.1, HI.out.2.2]; rfl, HR2.out.fin⟩
  · have HI : Hid (hearL l m h = l ∧ hearM l m h = m ∧ hearOk l m h = false) := ⟨by unfold hearL; rw [if_neg hok], by unfold hearM; rw [if_neg hok], by simpa using hok⟩
    cases ht : isRadio l m
    · rw [ht] at ha
      have HA := Lib.hid ha
      clear ha ht hok
      go_enter Try.func15, Try.ntmps15
      go_wp2_with fail
      refine (HA.out _).mono ?_
      rintro e w2 ⟨rfl, hg⟩
      have HR2 := Lib.hid (HR0.out.on hg)
      obtain ⟨c0, c1⟩ := two HR2.out.par
      obtain ⟨⟨p0, r0⟩, ⟨p1, r1⟩, o0, o1⟩ := put2_on HR2.out.res (.int .i64 l) (.int .i64 m)
      clear hg
      go_wp2
      try simp only [Exit.inBlock, Exit.then]
      exact ret_box1 rfl rfl (put2_box (x' := .int .i64 l) (y' := .int .i64 m) HR2.out.res) Try.underlying27 rfl (by kernel_rfl) rfl ⟨by rw [HI.out.1, HI.out.2.1, HI.out.2.2]; rfl, HR2.out.fin⟩
    · rw [ht] at ha
      have HA := Lib.hid ha
      by_cases h1 : l ≤ h
      · have h2 : ¬ h ≤ 100000 := fun h2 => hok (hear_mk ht h1 h2)
        clear ha ht hok
        go_enter Try.func15, Try.ntmps15
        go_wp2_with fail
        refine (HA.out _).mono ?_
        rintro e w2 ⟨rfl, hg⟩
        have HR2 := Lib.hid (HR0.out.on hg)
        obtain ⟨c0, c1⟩ := two HR2.out.par
        obtain ⟨⟨p0, r0⟩, ⟨p1, r1⟩, o0, o1⟩ := put2_on HR2.out.res (.int .i64 l) (.int .i64 m)
        clear hg
        go_wp2
        try simp only [Exit.inBlock, Exit.then]
        exact ret_box1 rfl rfl (put2_box (x' := .int .i64 l) (y' := .int .i64 m) HR2.out.res) Try.underlying27 rfl (by kernel_rfl) rfl ⟨by rw [HI.out.1, HI.out.2.1, HI.out.2.2]; rfl, HR2.out.fin⟩
      · clear ha ht hok
        go_enter Try.func15, Try.ntmps15
        go_wp2_with fail
        refine (HA.out _).mono ?_
        rintro e w2 ⟨rfl, hg⟩
        have HR2 := Lib.hid (HR0.out.on hg)
        obtain ⟨c0, c1⟩ := two HR2.out.par
        obtain ⟨⟨p0, r0⟩, ⟨p1, r1⟩, o0, o1⟩ := put2_on HR2.out.res (.int .i64 l) (.int .i64 m)
        clear hg
        go_wp2
        try simp only [Exit.inBlock, Exit.then]
        exact ret_box1 rfl rfl (put2_box (x' := .int .i64 l) (y' := .int .i64 m) HR2.out.res) Try.underlying27 rfl (by kernel_rfl) rfl ⟨by rw [HI.out.1, HI.out.2.1, HI.out.2.2]; rfl, HR2.out.fin⟩
end Go.Proofs.Ytnjlgnbhjhfohaa.RadI
