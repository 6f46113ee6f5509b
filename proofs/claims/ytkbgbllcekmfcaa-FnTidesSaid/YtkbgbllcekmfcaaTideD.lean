/- Contract of the draw l15Any: a struct of two numbers. -/
import Derived.Test.YtkbgbllcekmfcaaMDr
import Derived.Test.YtkbgbllcekmfcaaTwo
import Derived.IntWalk
namespace Go.Proofs.Ytkbgbllcekmfcaa.TideD
open Go.RowKit Kit Rw Tw Draw

/-- Where the draw stands: the cursor, the struct's box, the result's box. -/
structure DS (w wr : World) (c B : Nat) (x y : Int) : Prop where
  box : Box wr B #[.int .i64 x, .int .i64 y] 25
  res : Box wr w.heap.size #[.int .i64 0, .int .i64 0] 25
  cur : Cur wr c
  grown : w.grownBy wr (some c)
  lt : w.heap.size < B
  cl : c < w.heap.size
  ix : -1 ≤ x ∧ x ≤ 200000
  iy : -1 ≤ y ∧ y ≤ 200000
section
variable {w wr wy : World} {c B : Nat} {x y z : Int}
theorem DS.call (h : DS w wr c B x y) (hg : wr.grownBy wy (some c)) (hc : Cur wy c) : DS w wy c B x y := by
  have h1 := h.cl
  have h2 := h.lt
  exact ⟨h.box.kept hg (by simp; omega), h.res.kept hg (by simp; omega), hc, grown_trans h.grown hg, h2, h1, h.ix, h.iy⟩
theorem DS.set0 (h : DS w wr c B x y) (hz : -1 ≤ z ∧ z ≤ 200000) : DS w (wr.setCell ⟨B, 0, none⟩ (.int .i64 z)) c B z y := by
  have h1 := h.cl
  have h2 := h.lt
  have hs := grown_set wr B 0 (.int .i64 z)
  exact ⟨two_set0 h.box, h.res.kept hs (by simp; omega), h.cur.kept_row hs (fun g hg => by injection hg with hg; omega), grown_mix h.grown hs (fun g hg => by injection hg with hg; omega), h2, h1, hz, h.iy⟩
theorem DS.set1 (h : DS w wr c B x y) (hz : -1 ≤ z ∧ z ≤ 200000) : DS w (wr.setCell ⟨B, 1, none⟩ (.int .i64 z)) c B x z := by
  have h1 := h.cl
  have h2 := h.lt
  have hs := grown_set wr B 1 (.int .i64 z)
  exact ⟨two_set1 h.box, h.res.kept hs (by simp; omega), h.cur.kept_row hs (fun g hg => by injection hg with hg; omega), grown_mix h.grown hs (fun g hg => by injection hg with hg; omega), h2, h1, h.ix, hz⟩
/-- How the draw ends. -/
def Drawn2 (c : Nat) (w : World) (e : Ending) (w' : World) : Prop :=
  ∃ x y, e = .returned (.agg #[.int .i64 x, .int .i64 y]) ∧ (-1 ≤ x ∧ x ≤ 200000) ∧ (-1 ≤ y ∧ y ≤ 200000) ∧ Cur w' c ∧ w.grownBy w' (some c)
theorem DS.fin (h : DS w wr c B x y) : Drawn2 c w (.returned (.agg #[.int .i64 x, .int .i64 y])) (put2 wr w.heap.size (.int .i64 x) (.int .i64 y)) := by
  have h1 := h.cl
  have h2 := h.lt
  have hP := put2_grown wr w.heap.size (.int .i64 x) (.int .i64 y)
  exact ⟨x, y, rfl, h.ix, h.iy, h.cur.kept_row hP (fun g hg => by injection hg with hg; omega), grown_mix h.grown hP (fun g hg => by injection hg with hg; omega)⟩
end

set_option maxRecDepth 20000 in
set_option maxHeartbeats 2000000 in
theorem any2 (w : World) (c : Nat) (hc : Cur w c) :
    Calls Try.prog 49 #[.pointer (some ⟨c, 0, none⟩)] w (Drawn2 c w) := by
  have hlt0 := hc.lt
  have hg0 := World.grownBy_alloc w (.cells #[.int .i64 0, .int .i64 0] 25 (0, 0)) (none : Option Nat)
  have HC := Lib.hid (hc.kept_row hg0 (fun _ h => by cases h))
  have HB := Lib.hid (box_new w #[.int .i64 0, .int .i64 0] 25)
  have HG := Lib.hid hg0
  clear hc hg0
  go_enter Try.func49, Try.ntmps49
  go_wp2_with fail
  refine (below_any 12 (by omega) _ _ HC.out).mono ?_
  rintro e w1 ⟨x, HP, rfl, hc1, hg1⟩
  obtain ⟨hx0, hx1⟩ := HP.1 (by omega)
  have HB1 := Lib.hid (HB.out.kept hg1 (by simp; omega))
  have HG1 := Lib.hid (grown_old' HG.out hg1)
  have HC1 := Lib.hid hc1
  clear HP hc1 hg1 HB HG HC
  go_wp2_with fail
  refine (below_any 6 (by omega) _ _ HC1.out).mono ?_
  rintro e w2 ⟨y, HP, rfl, hc2, hg2⟩
  obtain ⟨hy0, hy1⟩ := HP.1 (by omega)
  have hr0 : DS w (w2.alloc (.cells #[.int .i64 x, .int .i64 y] 25 (0, 0))) c w2.heap.size x y := by
    have hA1 := World.grownBy_alloc w2 (.cells #[.int .i64 x, .int .i64 y] 25 (0, 0)) (none : Option Nat)
    have hb2 := HB1.out.kept hg2 (by simp; omega)
    exact ⟨box_new _ _ _, hb2.grown hA1, hc2.kept_row hA1 (fun _ h => by cases h), grown_mix (grown_trans HG1.out hg2) hA1 (fun _ h => by cases h), hb2.lt, hlt0, by omega, by omega⟩
  have HR := Lib.hid hr0
  clear HP hc2 hg2 HB1 HG1 HC1 hr0
  go_wp2_with fail
  generalize w2.alloc (.cells #[.int .i64 x, .int .i64 y] 25 (0, 0)) = w3 at *
  generalize w2.heap.size = B at *
  refine (below_any 10 (by omega) _ _ HR.out.cur).mono ?_
  rintro e w6 ⟨q, HP, rfl, hc6, hg6⟩
  obtain ⟨hq0, hq1⟩ := HP.1 (by omega)
  have HR6 := Lib.hid (HR.out.call hg6 hc6)
  clear HP hc6 hg6 HR
  by_cases h0 : q = 0
  · subst h0
    have HL := Lib.hid (int_list [-1, 11, 12] w6 c HR6.out.cur (by decide) (by decide))
    go_wp2_with fail
    refine HL.out.mono ?_
    rintro e w7 ⟨z, hz, rfl, hc7, hg7⟩
    have hiz : -1 ≤ z ∧ z ≤ 200000 := by
      simp only [List.mem_cons, List.not_mem_nil, or_false] at hz
      omega
    have hr7 := HR6.out.call hg7 hc7
    obtain ⟨d0, d1⟩ := two hr7.box
    have f0 := hr7.box.free 0
    have HR8 := Lib.hid (hr7.set0 hiz)
    obtain ⟨e0, e1⟩ := two HR8.out.box
    obtain ⟨⟨p0, r0⟩, ⟨p1, r1⟩, o0, o1⟩ := put2_on HR8.out.res (.int .i64 z) (.int .i64 y)
    clear hr7 hc7 hg7 hz hiz
    go_wp2
    try simp only [Exit.inBlock, Exit.then]
    exact ret_box rfl rfl (put2_box (x' := .int .i64 z) (y' := .int .i64 y) HR8.out.res) Try.underlying25 rfl (by kernel_rfl) rfl HR8.out.fin
  by_cases h1 : q = 1
  · subst h1
    have HL := Lib.hid (int_list [-1, 5, 6] w6 c HR6.out.cur (by decide) (by decide))
    go_wp2_with fail
    refine HL.out.mono ?_
    rintro e w7 ⟨z, hz, rfl, hc7, hg7⟩
    have hiz : -1 ≤ z ∧ z ≤ 200000 := by
      simp only [List.mem_cons, List.not_mem_nil, or_false] at hz
      omega
    have hr7 := HR6.out.call hg7 hc7
    obtain ⟨d0, d1⟩ := two hr7.box
    have f1 := hr7.box.free 1
    have HR8 := Lib.hid (hr7.set1 hiz)
    obtain ⟨e0, e1⟩ := two HR8.out.box
    obtain ⟨⟨p0, r0⟩, ⟨p1, r1⟩, o0, o1⟩ := put2_on HR8.out.res (.int .i64 x) (.int .i64 z)
    clear hr7 hc7 hg7 hz hiz
    go_wp2
    try simp only [Exit.inBlock, Exit.then]
    exact ret_box rfl rfl (put2_box (x' := .int .i64 x) (y' := .int .i64 z) HR8.out.res) Try.underlying25 rfl (by kernel_rfl) rfl HR8.out.fin
  have q0 : (q == 0) = false := by simp; omega
  have q1 : (q == 1) = false := by simp; omega
  obtain ⟨e0, e1⟩ := two HR6.out.box
  obtain ⟨⟨p0, r0⟩, ⟨p1, r1⟩, o0, o1⟩ := put2_on HR6.out.res (.int .i64 x) (.int .i64 y)
  go_wp2
  try simp only [Exit.inBlock, Exit.then]
  exact ret_box rfl rfl (put2_box (x' := .int .i64 x) (y' := .int .i64 y) HR6.out.res) Try.underlying25 rfl (by kernel_rfl) rfl HR6.out.fin
end Go.Proofs.Ytkbgbllcekmfcaa.TideD
