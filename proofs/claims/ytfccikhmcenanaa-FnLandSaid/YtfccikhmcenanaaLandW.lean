/- What a draw of a land hands out, handed on by another draw. -/
import Derived.Test.YtfccikhmcenanaaLandC
namespace Go.Proofs.Ytfccikhmcenanaa.Draw
open Go.RowKit Kit Rw Inf Ld

theorem LandOut.wrap {w w1 : World} {o : Obj} {W H : Int} {v : Value} {X : List Int} (h : LandOut (w.alloc o) w1 W H v X) : LandOut w (put3 w1 w.heap.size (.int .i64 W) (.int .i64 H) v) W H v X := by
  have hP := put3_grown w1 w.heap.size (.int .i64 W) (.int .i64 H) v
  have hb : ∀ b, v.ownBlock = some b → w.heap.size < b ∧ b < w1.heap.size := fun b hb => by
    have := h.vb b hb
    simp only [World.size_alloc] at this
    omega
  refine ⟨h.sees.kept hP ?_, fun b h' => ?_, grown_new (grownN_trans (World.grownBy_alloc w o none) h.grown) hP (fun g hg => by injection hg with hg; omega), h.iW, h.iH, h.len⟩
  · cases e : v.ownBlock with
    | none => exact .inl rfl
    | some g => have := hb g e; exact .inr (by simp; omega)
  · have := hb b h'
    have := hP.size
    omega
/-- .. by a draw that makes the cursor itself. -/
theorem LandOut.ofDrawn {w w1 w2 : World} {o : Obj} {c : Nat} {W H : Int} {v : Value} {X : List Int} (hb : Below (w.alloc o).heap.size (w.alloc o) w1) (hc : (w.alloc o).heap.size ≤ c) (hg : w1.grownBy w2 (some c)) (hW : I64 W) (hH : I64 H) (hs : Sees .i64 w2 v X) (hl : X.length ≤ 30)
    (hv : ∀ b, v.ownBlock = some b → w1.heap.size ≤ b ∧ b < w2.heap.size) : LandOut (w.alloc o) w2 W H v X :=
  ⟨hs, fun b h => by have := hv b h; have := hb.size; omega, grown_new (below_grown hb) hg (fun g h => by injection h with h; omega), hW, hH, hl⟩
end Go.Proofs.Ytfccikhmcenanaa.Draw
