/- Contract of the draw Near: another draw's land, handed on. -/
import Derived.Test.YtfccikhmcenanaaLandW
import Derived.Test.YtfccikhmcenanaaLandC
namespace Go.Proofs.Ytfccikhmcenanaa.Draw
open Go.RowKit Kit Rw Inf Ld

set_option maxRecDepth 100000 in
set_option maxHeartbeats 4000000 in
theorem dNear_any (w : World) (a : Option Addr) (len cap : Nat) (z : List Int) (hr : IsRow .u8 w a len cap z) :
    Calls Try.prog 21 #[.slice a len cap] w fun e w' => ∃ W H v X y, e = .returned (.tuple #[.agg #[.int .i64 W, .int .i64 H, v], .int .i64 y]) ∧ I64 y ∧ LandOut w w' W H v X := by
  have hg0 := World.grownBy_alloc w (.cells #[.int .i64 0, .int .i64 0, .slice none 0 0] 26 (0, 0)) (none : Option Nat)
  have HR := Lib.hid (hr.below (grown_below hg0 _ (Nat.le_refl _)))
  have HB := Lib.hid (box_new w #[.int .i64 0, .int .i64 0, .slice none 0 0] 26)
  clear hr hg0
  go_enter Try.func21, Try.ntmps21
  go_wp2_with fail
  refine (dcell_any _ a len cap z HR.out).mono ?_
  rintro e w1 ⟨W, H, v, X, y, rfl, hy, hl⟩
  obtain ⟨va, vn, vc, hv, HVN⟩ := hl.sees.shape
  subst hv
  have hB1 := HB.out.grown hl.grown
  obtain ⟨⟨p0, r0⟩, ⟨p1, r1⟩, ⟨p2, r2⟩, o0, o1, o2⟩ := put3_on hB1 (.int .i64 W) (.int .i64 H) (.slice va vn vc)
  have HB1 := Lib.hid hB1
  have HL := Lib.hid hl.wrap
  have HY := Lib.hid hy
  clear hl hB1 HB HR hy
  go_wp2
  try simp only [Exit.inBlock, Exit.then]
  exact ret_box1 rfl rfl (put3_box (x' := .int .i64 W) (y' := .int .i64 H) (z' := .slice va vn vc) HB1.out) Try.underlying26 rfl (by kernel_rfl) rfl ⟨W, H, _, X, y, rfl, HY.out, HL.out⟩
end Go.Proofs.Ytfccikhmcenanaa.Draw
