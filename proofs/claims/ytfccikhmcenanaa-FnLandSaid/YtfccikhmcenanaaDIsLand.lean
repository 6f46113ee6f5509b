/- Contract of the draw IsLand. -/
import Derived.Test.YtfccikhmcenanaaLandW
namespace Go.Proofs.Ytfccikhmcenanaa.Draw
open Go.RowKit Kit Rw Inf Ld

set_option maxRecDepth 100000 in
set_option maxHeartbeats 4000000 in
theorem dIsLand_any (w : World) (a : Option Addr) (len cap : Nat) (z : List Int) (hr : IsRow .u8 w a len cap z) :
    Calls Try.prog 26 #[.slice a len cap] w fun e w' => ∃ W H v X, e = .returned (.agg #[.int .i64 W, .int .i64 H, v]) ∧ LandOut w w' W H v X := by
  have hg0 := World.grownBy_alloc w (.cells #[.int .i64 0, .int .i64 0, .slice none 0 0] 26 (0, 0)) (none : Option Nat)
  have HR := Lib.hid (hr.below (grown_below hg0 _ (Nat.le_refl _)))
  have HB := Lib.hid (box_new w #[.int .i64 0, .int .i64 0, .slice none 0 0] 26)
  clear hr hg0
  go_enter Try.func26, Try.ntmps26
  go_wp2_with fail
  refine (new_any _ a len cap z HR.out).mono ?_
  rintro e w1 ⟨c, rfl, hc, hlc, hb⟩
  have HB1 := Lib.hid (HB.out.below hb)
  have HC := Lib.hid hc
  have HBL := Lib.hid hb
  have HLC := Lib.hid hlc
  clear hc hb hlc HB HR
  go_wp2_with fail
  refine (lany_any _ _ HC.out).mono ?_
  rintro e w2 ⟨W, H, v, X, rfl, hW, hH, hs, hl, hvb, hc2, hg2⟩
  obtain ⟨va, vn, vc, hv, HVN⟩ := hs.shape
  subst hv
  have hB1 := HB1.out.kept hg2 (by have := HLC.out; simp only [World.size_alloc] at this; simp; omega)
  obtain ⟨⟨p0, r0⟩, ⟨p1, r1⟩, ⟨p2, r2⟩, o0, o1, o2⟩ := put3_on hB1 (.int .i64 W) (.int .i64 H) (.slice va vn vc)
  have HB2 := Lib.hid hB1
  have HL := Lib.hid (LandOut.ofDrawn HBL.out HLC.out hg2 hW hH hs hl hvb).wrap
  clear hB1 HB1 HC HBL HLC hW hH hs hl hvb hc2 hg2
  go_wp2
  try simp only [Exit.inBlock, Exit.then]
  exact ret_box rfl rfl (put3_box (x' := .int .i64 W) (y' := .int .i64 H) (z' := .slice va vn vc) HB2.out) Try.underlying26 rfl (by kernel_rfl) rfl ⟨W, H, _, X, rfl, HL.out⟩
end Go.Proofs.Ytfccikhmcenanaa.Draw
