/- Contract of the draw of a land and two cells. -/
import Derived.Test.YtfccikhmcenanaaLandC
namespace Go.Proofs.Ytfccikhmcenanaa.Draw
open Go.RowKit Kit Rw Inf Ld

set_option maxRecDepth 100000 in
set_option maxHeartbeats 4000000 in
theorem dapart_any (w : World) (a : Option Addr) (len cap : Nat) (z : List Int) (hr : IsRow .u8 w a len cap z) :
    Calls Try.prog 17 #[.slice a len cap] w fun e w' => ∃ W H v X y k, e = .returned (.tuple #[.agg #[.int .i64 W, .int .i64 H, v], .int .i64 y, .int .i64 k]) ∧ I64 y ∧ I64 k ∧ LandOut w w' W H v X := by
  have hg0 := World.grownBy_alloc w (.cells #[.int .i64 0, .int .i64 0, .slice none 0 0] 26 (0, 0)) (none : Option Nat)
  have HR := Lib.hid (hr.below (grown_below hg0 _ (Nat.le_refl _)))
  have HB := Lib.hid (box_new w #[.int .i64 0, .int .i64 0, .slice none 0 0] 26)
  have HG := Lib.hid hg0
  clear hr hg0
  go_enter Try.func17, Try.ntmps17
  go_wp2_with fail
  refine (dcell_any _ a len cap z HR.out).mono ?_
  rintro e w1 ⟨W, H, v, X, y, rfl, hy, hl⟩
  obtain ⟨va, vn, vc, hv, HVN⟩ := hl.sees.shape
  subst hv
  have hA1 := World.grownBy_alloc w1 (.cells #[.int .i64 W, .int .i64 H, .slice va vn vc] 26 (0, 0)) (none : Option Nat)
  have hg2 := grownN_trans hl.grown hA1
  have hs1 := hl.grown.size
  simp only [World.size_alloc] at hs1
  have HX := Lib.hid (box_new w1 #[.int .i64 W, .int .i64 H, .slice va vn vc] 26)
  have HB2 := Lib.hid (HB.out.grown hg2)
  have HR2 := Lib.hid (HR.out.below (grown_below hg2 _ (Nat.le_refl _)))
  have HG2 := Lib.hid (grownN_trans HG.out hg2)
  have HS2 := Lib.hid (hl.sees.grown hA1)
  have HL := Lib.hid hl
  have HY := Lib.hid hy
  clear hl hy hA1 hg2 HR HB HG
  go_wp2_with fail
  refine (new_any _ a len cap z HR2.out).mono ?_
  rintro e w3 ⟨c, rfl, hc, hlc, hb⟩
  simp only [World.size_alloc] at hlc
  have hr0 : DA w w3 c w1.heap.size W H (.slice va vn vc) X := by
    refine ⟨HX.out.below hb, HB2.out.below hb, HS2.out.below hb, fun b hb => ?_, hc, grownN_trans HG2.out (below_grown hb), by omega, ⟨by omega, by omega⟩, HL.out.iW, HL.out.iH, HL.out.len⟩
    have := HL.out.vb b hb
    simp only [World.size_alloc] at this
    omega
  have HA := Lib.hid hr0
  have hd0 := hr0.on (grown_drew (World.grownBy.refl w3 none))
  have hBc : w1.heap.size ≠ c := by omega
  have hBr : w1.heap.size ≠ w.heap.size := by omega
  clear hr0 hc hlc hb HX HB2 HR2 HG2 HS2 hs1
  have HI := Lib.hid (⟨HL.out.iW, HL.out.iH⟩ : I64 W ∧ I64 H)
  clear HL
  go_wp2_with fail
  generalize w1.heap.size = B at *
  have hcd := hd0.cur
  obtain ⟨k0, k1, k2⟩ := hd0.box.three
  go_region_held3 (fun w' => w'.cell? ⟨B, 0, none⟩ = some (.int .i64 W) ∧ w'.cell? ⟨B, 1, none⟩ = some (.int .i64 H) ∧ w'.cell? ⟨B, 2, none⟩ = some (.slice va vn vc))
    (first | (exact keep3 (by assumption) (by assumption) hBc) | (exact keep3 (put3_grown w6 w.heap.size (.int .i64 W) (.int .i64 H) (.slice va vn vc)) hk6 hBr) | go_keep)
    ((go_at_call 59; refine (below_any 30 (by omega) _ _ (by assumption)).mono ?_; rintro e w6 ⟨x6, HP6, rfl, hc6, hg6⟩; have hk6 := keep3 hg6 (by assumption) hBc; have hd6 := DA.call (w := w) (B := B) (W := W) (H := H) (v := .slice va vn vc) (X := X) (by assumption) hg6 hc6; obtain ⟨⟨p0, r0⟩, ⟨p1, r1⟩, ⟨p2, r2⟩, o0, o1, o2⟩ := put3_on hd6.res (.int .i64 W) (.int .i64 H) (.slice va vn vc)))
  have HD6 := Lib.hid hd6
  have HI6 : Hid (I64 x6) := I64.below HP6 (by omega) (by omega)
  clear hd6 hk6 hg6 hc6 p0 p1 p2 r0 r1 r2 o0 o1 o2 HP6 hd0
  go_wp2
  try simp only [Exit.inBlock, Exit.then]
  exact ret_box2 rfl rfl (put3_box (x' := .int .i64 W) (y' := .int .i64 H) (z' := .slice va vn vc) HD6.out.res) Try.underlying26 rfl (by kernel_rfl) rfl ⟨W, H, _, X, y, x6, rfl, HY.out, HI6.out, HD6.out.fin⟩
end Go.Proofs.Ytfccikhmcenanaa.Draw
