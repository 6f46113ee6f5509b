/- Contracts of the draws of a land and a cell, and of a land and two cells. -/
import Derived.Test.YtfccikhmcenanaaLandA
namespace Go.Proofs.Ytfccikhmcenanaa.Draw
open Go.RowKit Kit Rw Inf Ld

structure DA (w wr : World) (c B : Nat) (W H : Int) (v : Value) (X : List Int) : Prop where
  box : Box wr B #[.int .i64 W, .int .i64 H, v] 26
  res : Box wr w.heap.size #[.int .i64 0, .int .i64 0, .slice none 0 0] 26
  sees : Sees .i64 wr v X
  vb : ∀ b, v.ownBlock = some b → w.heap.size < b ∧ b ≠ c ∧ b < B
  cur : Cur wr c
  grown : w.grownBy wr none
  lt : w.heap.size < c
  cB : c ≠ B ∧ w.heap.size < B
  iW : I64 W
  iH : I64 H
  len : X.length ≤ 30
section
variable {w wr wy : World} {c B : Nat} {W H z : Int} {v u : Value} {X Y : List Int}
theorem DA.off (h : DA w wr c B W H v X) {b : Nat} (hb : b ≤ w.heap.size ∨ b = c ∨ B ≤ b) : v.ownBlock = none ∨ v.ownBlock ≠ some b := by
  cases e : v.ownBlock with
  | none => exact .inl rfl
  | some g => have := h.vb g e; exact .inr (by simp; omega)
theorem DA.call (h : DA w wr c B W H v X) (hg : wr.grownBy wy (some c)) (hc : Cur wy c) : DA w wy c B W H v X := by
  have h1 := h.cB
  have h2 := h.lt
  exact ⟨h.box.kept hg (by simp; omega), h.res.kept hg (by simp; omega), h.sees.kept hg (h.off (by omega)), h.vb, hc, grown_new h.grown hg (fun b hb => by injection hb with hb; omega), h2, h1, h.iW, h.iH, h.len⟩
theorem DA.on (h : DA w wr c B W H v X) (hg : wr.grownBy wy none) : DA w wy c B W H v X :=
  ⟨h.box.grown hg, h.res.grown hg, h.sees.grown hg, h.vb, h.cur.kept_row hg (fun _ h => by cases h), grownN_trans h.grown hg, h.lt, h.cB, h.iW, h.iH, h.len⟩
/-- What a draw of a land hands out, whatever comes with it. -/
structure LandOut (w w' : World) (W H : Int) (v : Value) (X : List Int) : Prop where
  sees : Sees .i64 w' v X
  vb : ∀ b, v.ownBlock = some b → w.heap.size ≤ b ∧ b < w'.heap.size
  grown : w.grownBy w' none
  iW : I64 W
  iH : I64 H
  len : X.length ≤ 30
theorem DA.fin (h : DA w wr c B W H v X) : LandOut w (put3 wr w.heap.size (.int .i64 W) (.int .i64 H) v) W H v X := by
  have hP := put3_grown wr w.heap.size (.int .i64 W) (.int .i64 H) v
  exact ⟨h.sees.kept hP (h.off (by omega)), fun b hb => ⟨Nat.le_of_lt (h.vb b hb).1, by have := (h.vb b hb).2.2; have := h.box.lt; have := hP.size; omega⟩, grown_new h.grown hP (fun g hg => by injection hg with hg; omega), h.iW, h.iH, h.len⟩
theorem _root_.Go.Proofs.Ytfccikhmcenanaa.Draw.I64.below {n x : Int} (h : BelowP n x) (h0 : 0 < n) (h1 : n ≤ 9223372036854775807) : I64 x := by
  have := h.1 h0
  exact ⟨by omega, by omega⟩
/-- The cells of the land's box, as they are held while an order is drawn. -/
theorem keep3 {x y z : Value} (hg : wr.grownBy wy (some c)) (h : wr.cell? ⟨B, 0, none⟩ = some x ∧ wr.cell? ⟨B, 1, none⟩ = some y ∧ wr.cell? ⟨B, 2, none⟩ = some z) (hne : B ≠ c) :
    wy.cell? ⟨B, 0, none⟩ = some x ∧ wy.cell? ⟨B, 1, none⟩ = some y ∧ wy.cell? ⟨B, 2, none⟩ = some z :=
  ⟨hg.cell h.1 (by simp; exact hne), hg.cell h.2.1 (by simp; exact hne), hg.cell h.2.2 (by simp; exact hne)⟩
end

set_option maxRecDepth 100000 in
set_option maxHeartbeats 4000000 in
theorem dcell_any (w : World) (a : Option Addr) (len cap : Nat) (z : List Int) (hr : IsRow .u8 w a len cap z) :
    Calls Try.prog 57 #[.slice a len cap] w fun e w' => ∃ W H v X y, e = .returned (.tuple #[.agg #[.int .i64 W, .int .i64 H, v], .int .i64 y]) ∧ I64 y ∧ LandOut w w' W H v X := by
  have hg0 := World.grownBy_alloc w (.cells #[.int .i64 0, .int .i64 0, .slice none 0 0] 26 (0, 0)) (none : Option Nat)
  have HR := Lib.hid (hr.below (grown_below hg0 _ (Nat.le_refl _)))
  have HB := Lib.hid (box_new w #[.int .i64 0, .int .i64 0, .slice none 0 0] 26)
  have HG := Lib.hid hg0
  clear hr hg0
  go_enter Try.func57, Try.ntmps57
  go_wp2_with fail
  refine (new_any _ a len cap z HR.out).mono ?_
  rintro e w1 ⟨c, rfl, hc, hlc, hb⟩
  simp only [World.size_alloc] at hlc
  have HB1 := Lib.hid (HB.out.below hb)
  have HG1 := Lib.hid (grownN_trans HG.out (below_grown hb))
  have HC := Lib.hid hc
  clear hc hb HB HG HR
  go_wp2_with fail
  refine (lany_any _ _ HC.out).mono ?_
  rintro e w2 ⟨W, H, v, X, rfl, hW, hH, hs, hl, hvb, hc2, hg2⟩
  obtain ⟨va, vn, vc, hv, HVN⟩ := hs.shape
  subst hv
  have hsz1 := HG1.out.size
  have hcl := HC.out.lt
  have hr0 : DA w (w2.alloc (.cells #[.int .i64 W, .int .i64 H, .slice va vn vc] 26 (0, 0))) c w2.heap.size W H (.slice va vn vc) X := by
    have hA1 := World.grownBy_alloc w2 (.cells #[.int .i64 W, .int .i64 H, .slice va vn vc] 26 (0, 0)) (none : Option Nat)
    have hs2 := hg2.size
    refine ⟨box_new _ _ _, (HB1.out.kept hg2 (by simp; omega)).grown hA1, hs.grown hA1, fun b hb => ?_, hc2.kept_row hA1 (fun _ h => by cases h), grownN_trans (grown_new HG1.out hg2 (fun b hb => by injection hb with hb; omega)) hA1, by omega, ⟨by omega, by omega⟩, hW, hH, hl⟩
    have h1 := hvb b hb
    omega
  have HA := Lib.hid hr0
  have hd0 := grown_drew (World.grownBy.refl (w2.alloc (.cells #[.int .i64 W, .int .i64 H, .slice va vn vc] 26 (0, 0))) none)
  have HD := Lib.hid (hr0.on hd0)
  have hBc : w2.heap.size ≠ c := by have := hr0.cB; omega
  have hrc : w.heap.size ≠ c := by have := hr0.lt; omega
  have hBr : w2.heap.size ≠ w.heap.size := by have := hr0.lt; have := hr0.cB; omega
  clear hr0 hd0 hW hH hs hl hvb hc2 hg2 HC HB1 HG1 hsz1 hcl
  go_wp2_with fail
  generalize w2.alloc (.cells #[.int .i64 W, .int .i64 H, .slice va vn vc] 26 (0, 0)) = w3 at *
  generalize w2.heap.size = B at *
  have hcd := HD.out.cur
  have hd0 := HD.out
  obtain ⟨k0, k1, k2⟩ := HD.out.box.three
  go_region_held3 (fun w' => w'.cell? ⟨B, 0, none⟩ = some (.int .i64 W) ∧ w'.cell? ⟨B, 1, none⟩ = some (.int .i64 H) ∧ w'.cell? ⟨B, 2, none⟩ = some (.slice va vn vc))
    (first | (exact keep3 (by assumption) (by assumption) hBc) | (exact keep3 (put3_grown w6 w.heap.size (.int .i64 W) (.int .i64 H) (.slice va vn vc)) hk6 hBr) | go_keep)
    (first
      | (go_at_call 59; refine (below_any 30 (by omega) _ _ (by assumption)).mono ?_; rintro e w4 ⟨x4, HP4, rfl, hc4, hg4⟩; have hi4 : I64 x4 := (I64.below HP4 (by omega) (by omega)); have hd4 := DA.call (w := w) (B := B) (W := W) (H := H) (v := .slice va vn vc) (X := X) (by assumption) hg4 hc4; clear HP4)
      | (go_at_call 77; refine (raw_any _ _ (by assumption)).mono ?_; rintro e w5 ⟨x5, HP5, rfl, hc5, hg5⟩; have hd5 := DA.call (w := w) (B := B) (W := W) (H := H) (v := .slice va vn vc) (X := X) (by assumption) hg5 hc5; have hk5 := keep3 hg5 (by assumption) hBc)
      | (go_at_call 72; refine (int_list [_, _, _, _] _ _ (by assumption) (by simp) (by simp)).mono ?_; rintro e w6 ⟨x6, HP6, rfl, hc6, hg6⟩; have hk6 := keep3 hg6 hk5 hBc; have hd6 := DA.call (w := w) (B := B) (W := W) (H := H) (v := .slice va vn vc) (X := X) (by assumption) hg6 hc6; obtain ⟨⟨p0, r0⟩, ⟨p1, r1⟩, ⟨p2, r2⟩, o0, o1, o2⟩ := put3_on hd6.res (.int .i64 W) (.int .i64 H) (.slice va vn vc)))
  have HD6 := Lib.hid hd6
  have hi6 : I64 x6 := by
    simp only [List.mem_cons, List.not_mem_nil, or_false] at HP6
    rcases HP6 with rfl | rfl | rfl | rfl
    · assumption
    · assumption
    · exact ⟨by omega, by omega⟩
    · assumption
  have HI6 := Lib.hid hi6
  clear hd6 hk6 hk5 hd5 hd4 hg6 hg5 hg4 hc6 hc5 hc4 p0 p1 p2 r0 r1 r2 o0 o1 o2 HP6 hi6
  go_wp2
  try simp only [Exit.inBlock, Exit.then]
  exact ret_box1 rfl rfl (put3_box (x' := .int .i64 W) (y' := .int .i64 H) (z' := .slice va vn vc) HD6.out.res) Try.underlying26 rfl (by kernel_rfl) rfl ⟨W, H, _, X, x6, rfl, HI6.out, HD6.out.fin⟩
end Go.Proofs.Ytfccikhmcenanaa.Draw
