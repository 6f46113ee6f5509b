/- What the laws over lands hold: a land in a box of the law's own, a row beside it; the program's functions met there. The functions of ways, met over a land of the law's own. -/
import Derived.Test.YtfccikhmcenanaaMImpl4
import Derived.Test.YtfccikhmcenanaaMDraws4
import Derived.Test.YtfccikhmcenanaaMFacts
import Derived.Test.YtfccikhmcenanaaMImpl5
namespace Go.Proofs.Ytfccikhmcenanaa.Lq
open Go.RowKit Kit Rw Draw Ld LandI

/-- A land of the law's own, in its box. -/
structure LB (w : World) (B : Nat) (W H : Int) (v : Value) (X : List Int) : Prop where
  c0 : w.cell? ⟨B, 0, none⟩ = some (.int .i64 W)
  c1 : w.cell? ⟨B, 1, none⟩ = some (.int .i64 H)
  c2 : w.cell? ⟨B, 2, none⟩ = some v
  sees : Sees .i64 w v X
theorem LB.on {w w' : World} {B : Nat} {W H : Int} {v : Value} {X : List Int} (h : LB w B W H v X) (hg : w.grownBy w' none) : LB w' B W H v X :=
  ⟨hg.cell h.c0 (by simp), hg.cell h.c1 (by simp), hg.cell h.c2 (by simp), h.sees.grown hg⟩
theorem LB.s {w : World} {B : Nat} {W H : Int} {v : Value} {X : List Int} (h : LB w B W H v X) : w.cell? ⟨B, 0, none⟩ = some (.int .i64 W) ∧ w.cell? ⟨B, 1, none⟩ = some (.int .i64 H) ∧ w.cell? ⟨B, 2, none⟩ = some v := ⟨h.c0, h.c1, h.c2⟩
theorem lb_new {w w1 : World} {W H : Int} {v : Value} {X : List Int} (h : LandOut w w1 W H v X) : LB (w1.alloc (.cells #[.int .i64 W, .int .i64 H, v] 26 (0, 0))) w1.heap.size W H v X :=
  ⟨(box_new w1 #[.int .i64 W, .int .i64 H, v] 26).three.1, (box_new w1 #[.int .i64 W, .int .i64 H, v] 26).three.2.1, (box_new w1 #[.int .i64 W, .int .i64 H, v] 26).three.2.2, h.sees.grown (World.grownBy_alloc _ _ none)⟩
theorem lb_below {w0 w w1 : World} {W H : Int} {v : Value} {X : List Int} (hb : Below w0.heap.size w0 w) (h : LandOut w w1 W H v X) : Below w0.heap.size w0 (w1.alloc (.cells #[.int .i64 W, .int .i64 H, v] 26 (0, 0))) :=
  hb.trans (grown_below (grownN_trans h.grown (World.grownBy_alloc _ _ none)) _ hb.size)
theorem on_below {w0 w w1 : World} (hb : Below w0.heap.size w0 w) (hg : w.grownBy w1 none) : Below w0.heap.size w0 w1 := hb.trans (grown_below hg _ hb.size)

/-- A land of the law's own, and that nothing old has been written. -/
structure LQ (w wx : World) (B : Nat) (W H : Int) (v : Value) (X : List Int) : Prop where
  lb : LB wx B W H v X
  below : Below w.heap.size w wx
section
variable {w wx wy : World} {B : Nat} {W H : Int} {v : Value} {X : List Int}
theorem LQ.on (h : LQ w wx B W H v X) (hg : wx.grownBy wy none) : LQ w wy B W H v X := ⟨h.lb.on hg, on_below h.below hg⟩
theorem LQ.s (h : LQ w wx B W H v X) : wx.cell? ⟨B, 0, none⟩ = some (.int .i64 W) ∧ wx.cell? ⟨B, 1, none⟩ = some (.int .i64 H) ∧ wx.cell? ⟨B, 2, none⟩ = some v := h.lb.s
theorem apartQ (h : LQ w wx B W H v X) (n m : Int) : Calls Try.prog 20 #[.agg #[.int .i64 W, .int .i64 H, v], .int .i64 n, .int .i64 m] wx fun e w' => e = .returned (.int .i64 (apart W H X n m)) ∧ LQ w w' B W H v X :=
  (apart_any wx W H n m v X h.lb.sees).mono fun _ _ ⟨h1, h2⟩ => ⟨h1, h.on h2⟩
theorem landQ (h : LQ w wx B W H v X) : Calls Try.prog 27 #[.agg #[.int .i64 W, .int .i64 H, v]] wx fun e w' => e = .returned (.bool (isLand W H X)) ∧ LQ w w' B W H v X :=
  (isLand_any wx W H v X h.lb.sees).mono fun _ _ ⟨h1, h2⟩ => ⟨h1, h.on h2⟩
theorem countQ (h : LQ w wx B W H v X) (n : Int) : Calls Try.prog 28 #[.agg #[.int .i64 W, .int .i64 H, v], .int .i64 n] wx fun e w' => e = .returned (.int .i64 (count W H X n)) ∧ LQ w w' B W H v X :=
  (count_any wx W H n v X h.lb.sees).mono fun _ _ ⟨h1, h2⟩ => ⟨h1, h.on h2⟩
theorem cellQ (h : LQ w wx B W H v X) (n : Int) : Calls Try.prog 18 #[.agg #[.int .i64 W, .int .i64 H, v], .int .i64 n] wx fun e w' => e = .returned (.bool (isCell W H X n)) ∧ LQ w w' B W H v X :=
  (isCell_any wx W H n v X h.lb.sees).mono fun _ _ ⟨h1, h2⟩ => ⟨h1, h.on h2⟩
end

/-- A land of the law's own, what is near a cell, and that nothing old has been written. -/
structure LR2 (w wx : World) (B : Nat) (W H : Int) (v : Value) (X : List Int) (u : Value) (N : List Int) : Prop where
  q : LQ w wx B W H v X
  row : Sees .i64 wx u N
section
variable {w wx wy : World} {B : Nat} {W H : Int} {v u : Value} {X N : List Int}
theorem LR2.on (h : LR2 w wx B W H v X u N) (hg : wx.grownBy wy none) : LR2 w wy B W H v X u N := ⟨h.q.on hg, h.row.grown hg⟩
theorem apartR (h : LR2 w wx B W H v X u N) (n m : Int) : Calls Try.prog 20 #[.agg #[.int .i64 W, .int .i64 H, v], .int .i64 n, .int .i64 m] wx fun e w' => e = .returned (.int .i64 (apart W H X n m)) ∧ LR2 w w' B W H v X u N :=
  (apart_any wx W H n m v X h.q.lb.sees).mono fun _ _ ⟨h1, h2⟩ => ⟨h1, h.on h2⟩
theorem openR (h : LR2 w wx B W H v X u N) (n : Int) : Calls Try.prog 24 #[.agg #[.int .i64 W, .int .i64 H, v], .int .i64 n] wx fun e w' => e = .returned (.bool (isOpen W H X n)) ∧ LR2 w w' B W H v X u N :=
  (isOpen_any wx W H n v X h.q.lb.sees).mono fun _ _ ⟨h1, h2⟩ => ⟨h1, h.on h2⟩
theorem nearR (h : LR2 w wx B W H v X u N) (n : Int) : Calls Try.prog 22 #[.agg #[.int .i64 W, .int .i64 H, v], .int .i64 n] wx fun e w' => ∃ u', e = .returned u' ∧ Sees .i64 w' u' (nearOf W H X n) ∧ LR2 w w' B W H v X u N :=
  (near_any wx W H n v X h.q.lb.sees).mono fun _ _ ⟨u', h1, h2, h3⟩ => ⟨u', h1, h2.sees, h.on h3⟩
theorem LR2.s (h : LR2 w wx B W H v X u N) : wx.cell? ⟨B, 0, none⟩ = some (.int .i64 W) ∧ wx.cell? ⟨B, 1, none⟩ = some (.int .i64 H) ∧ wx.cell? ⟨B, 2, none⟩ = some v := h.q.lb.s
end

theorem LR2.s4 {w wx : World} {B : Nat} {W H x : Int} {v : Value} {X N : List Int} {b o n cap j : Nat} (h : LR2 w wx B W H v X (.slice (some ⟨b, o, none⟩) n cap) N) (hj : j < N.length) (hx : N.getD j 0 = x) :
    wx.cell? ⟨B, 0, none⟩ = some (.int .i64 W) ∧ wx.cell? ⟨B, 1, none⟩ = some (.int .i64 H) ∧ wx.cell? ⟨B, 2, none⟩ = some v ∧ wx.cell? ⟨b, o + j, none⟩ = some (.int .i64 x) :=
  ⟨h.s.1, h.s.2.1, h.s.2.2, by rw [← hx]; exact h.row.at' hj⟩
end Go.Proofs.Ytfccikhmcenanaa.Lq

namespace Go.Proofs.Ytfccikhmcenanaa.Lq
open Go.RowKit Kit Rw Draw Ld LandI WayI Bfs Wf

section
variable {w wx wy : World} {B : Nat} {W H : Int} {v u : Value} {X N : List Int}
theorem daysQ (h : LQ w wx B W H v X) (n m : Int) : Calls Try.prog 30 #[.agg #[.int .i64 W, .int .i64 H, v], .int .i64 n, .int .i64 m] wx fun e w' => e = .returned (.int .i64 (daysOf W H X n m)) ∧ LQ w w' B W H v X :=
  (days_any wx W H n m v X h.lb.sees).mono fun _ _ ⟨h1, h2⟩ => ⟨h1, h.on h2⟩
theorem openQ (h : LQ w wx B W H v X) (n : Int) : Calls Try.prog 24 #[.agg #[.int .i64 W, .int .i64 H, v], .int .i64 n] wx fun e w' => e = .returned (.bool (isOpen W H X n)) ∧ LQ w w' B W H v X :=
  (isOpen_any wx W H n v X h.lb.sees).mono fun _ _ ⟨h1, h2⟩ => ⟨h1, h.on h2⟩
theorem farQ (h : LQ w wx B W H v X) (n : Int) : Calls Try.prog 38 #[.agg #[.int .i64 W, .int .i64 H, v], .int .i64 n] wx fun e w' => e = .returned (.int .i64 (farOf W H X n)) ∧ LQ w w' B W H v X :=
  (farthest_any wx W H n v X h.lb.sees).mono fun _ _ ⟨h1, h2⟩ => ⟨h1, h.on h2⟩
theorem wayQ (h : LQ w wx B W H v X) (n m : Int) : Calls Try.prog 31 #[.agg #[.int .i64 W, .int .i64 H, v], .int .i64 n, .int .i64 m] wx fun e w' => ∃ u', e = .returned u' ∧ LR2 w w' B W H v X u' (wayOf W H X n m) :=
  (wayTo_any wx W H n m v X h.lb.sees).mono fun _ _ ⟨u', h1, h2, h3⟩ => ⟨u', h1, h.on h3, h2.sees⟩
theorem nearQ (h : LQ w wx B W H v X) (n : Int) : Calls Try.prog 22 #[.agg #[.int .i64 W, .int .i64 H, v], .int .i64 n] wx fun e w' => ∃ u', e = .returned u' ∧ LR2 w w' B W H v X u' (nearOf W H X n) :=
  (near_any wx W H n v X h.lb.sees).mono fun _ _ ⟨u', h1, h2, h3⟩ => ⟨u', h1, h.on h3, h2.sees⟩
theorem reachQ (h : LQ w wx B W H v X) (n m : Int) : Calls Try.prog 35 #[.agg #[.int .i64 W, .int .i64 H, v], .int .i64 n, .int .i64 m] wx fun e w' => ∃ u', e = .returned u' ∧ LR2 w w' B W H v X u' (reachOf W H X n m) :=
  (reach_any wx W H n m v X h.lb.sees).mono fun _ _ ⟨u', h1, h2, h3⟩ => ⟨u', h1, h.on h3, h2.sees⟩
theorem daysR (h : LR2 w wx B W H v X u N) (n m : Int) : Calls Try.prog 30 #[.agg #[.int .i64 W, .int .i64 H, v], .int .i64 n, .int .i64 m] wx fun e w' => e = .returned (.int .i64 (daysOf W H X n m)) ∧ LR2 w w' B W H v X u N :=
  (days_any wx W H n m v X h.q.lb.sees).mono fun _ _ ⟨h1, h2⟩ => ⟨h1, h.on h2⟩
theorem isWayR (h : LR2 w wx B W H v X u N) : Calls Try.prog 32 #[.agg #[.int .i64 W, .int .i64 H, v], u] wx fun e w' => e = .returned (.bool (isWayOf W H X N)) ∧ LR2 w w' B W H v X u N :=
  (isWay_any wx W H v u X N h.q.lb.sees h.row).mono fun _ _ ⟨h1, h2⟩ => ⟨h1, h.on h2⟩
theorem wayR (h : LR2 w wx B W H v X u N) (n m : Int) : Calls Try.prog 31 #[.agg #[.int .i64 W, .int .i64 H, v], .int .i64 n, .int .i64 m] wx fun e w' => ∃ u', e = .returned u' ∧ Sees .i64 w' u' (wayOf W H X n m) ∧ LR2 w w' B W H v X u N :=
  (wayTo_any wx W H n m v X h.q.lb.sees).mono fun _ _ ⟨u', h1, h2, h3⟩ => ⟨u', h1, h2.sees, h.on h3⟩
theorem reachR (h : LR2 w wx B W H v X u N) (n m : Int) : Calls Try.prog 35 #[.agg #[.int .i64 W, .int .i64 H, v], .int .i64 n, .int .i64 m] wx fun e w' => ∃ u', e = .returned u' ∧ Sees .i64 w' u' (reachOf W H X n m) ∧ LR2 w w' B W H v X u N :=
  (reach_any wx W H n m v X h.q.lb.sees).mono fun _ _ ⟨u', h1, h2, h3⟩ => ⟨u', h1, h2.sees, h.on h3⟩
theorem openR' (h : LR2 w wx B W H v X u N) (n : Int) : Calls Try.prog 24 #[.agg #[.int .i64 W, .int .i64 H, v], .int .i64 n] wx fun e w' => e = .returned (.bool (isOpen W H X n)) ∧ LR2 w w' B W H v X u N :=
  (isOpen_any wx W H n v X h.q.lb.sees).mono fun _ _ ⟨h1, h2⟩ => ⟨h1, h.on h2⟩
end
/-- The end of a row. -/
theorem sees_drop {k : IntKind} {w : World} {b o n cap i : Nat} {L : List Int} (h : Sees k w (.slice (some ⟨b, o, none⟩) n cap) L) (hi : i < L.length) : Sees k w (.slice (some ⟨b, o + i, none⟩) (n - i) (cap - i)) (L.drop i) := by
  obtain ⟨a, c, e, h1, h2, h3, h4, h5⟩ := h
  injection e with e1 e2 e3
  subst e1; subst e2; subst e3
  refine ⟨_, _, by rw [List.length_drop], by rw [List.length_drop]; omega, by omega, (fun h => by cases h), fun x hx => h4 x (List.mem_of_mem_drop hx), .inr ⟨b, o + i, rfl, fun j hj => ?_⟩⟩
  rcases h5 with h5 | ⟨b', o', e, hc⟩
  · rw [h5] at hi; simp at hi
  · injection e with e
    injection e with e1 e2
    subst e1; subst e2
    rw [List.length_drop] at hj
    have := hc (i + j) (by omega)
    rw [show o + i + j = o + (i + j) by omega, this]
    simp [List.getD_eq_getElem?_getD, List.getElem?_drop]
end Go.Proofs.Ytfccikhmcenanaa.Lq
