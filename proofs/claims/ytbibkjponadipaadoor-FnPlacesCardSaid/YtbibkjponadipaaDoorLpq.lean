/- What the law of places holds while it goes on. -/
import Derived.Test.YtbibkjponadipaaDoorDPla
import Derived.Test.YtbibkjponadipaaDoorDCan
import Derived.Test.YtbibkjponadipaaDoorG43
namespace Go.Proofs.YtbibkjponadipaaDoor.Pc
open Go.RowKit Kit Rw Ld Bfs Wf

structure LP (w wr : World) (B : Nat) (W H : Int) (v m r c p : Value) (X M R C P : List Int) : Prop where
  box : Box wr B #[.int .i64 W, .int .i64 H, v] 26
  sv : Sees .i64 wr v X
  sm : Sees .i64 wr m M
  sr : Sees .i64 wr r R
  sc : Sees .i64 wr c C
  sp : Sees .i64 wr p P
  below : Below w.heap.size w wr
section
variable {w wr wy : World} {B : Nat} {W H : Int} {v m r c p : Value} {X M R C P : List Int}
theorem LP.on (h : LP w wr B W H v m r c p X M R C P) (hg : wr.grownBy wy none) : LP w wy B W H v m r c p X M R C P :=
  ⟨h.box.grown hg, h.sv.grown hg, h.sm.grown hg, h.sr.grown hg, h.sc.grown hg, h.sp.grown hg, h.below.grown hg h.below.size (fun _ h => by cases h)⟩
theorem LP.cells (h : LP w wr B W H v m r c p X M R C P) : wr.cell? ⟨B, 0, none⟩ = some (.int .i64 W) ∧ wr.cell? ⟨B, 1, none⟩ = some (.int .i64 H) ∧ wr.cell? ⟨B, 2, none⟩ = some v := ⟨h.box.cell 0, h.box.cell 1, h.box.cell 2⟩
end
end Go.Proofs.YtbibkjponadipaaDoor.Pc
