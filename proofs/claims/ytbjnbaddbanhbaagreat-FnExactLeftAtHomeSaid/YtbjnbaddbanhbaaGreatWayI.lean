/- Contracts of the program's Days and Farthest. -/
import Derived.Test.YtbjnbaddbanhbaaGreatSrN
import Derived.Test.YtbjnbaddbanhbaaGreatG17
import Derived.Test.YtbjnbaddbanhbaaGreatG22
namespace Go.Proofs.YtbjnbaddbanhbaaGreat.WayI
open Go.RowKit Kit Rw Ld Gr GrI Bfs Wf Sr LandI

/-- Where a function of chapter 5 stands: the land in its box, nothing old written. -/
structure WB (w wr : World) (W H : Int) (v : Value) (X : List Int) : Prop where
  box : Box wr w.heap.size #[.int .i64 W, .int .i64 H, v] 36
  row : Sees .i64 wr v X
  grown : w.grownBy wr none
  lt : v.ownBlock = none ∨ ∃ b, v.ownBlock = some b ∧ b < w.heap.size ∨ X = []
/-- What begin leaves, up to more days than there can be. -/
theorem cut64 {p h f : Nat} {X : List Int} (hL : isLand p h X = true) (hf : f < X.length) (h64 : X.length ≤ 64) : cut 64 (distL p X f) = distL p X f :=
  cut_all (fun n n0 n1 => by
    have hd := dist_is hL (a := (f : Int)) (by omega) (by omega)
    rw [hd.len] at n1
    have := dist_lt hL (a := (f : Int)) (by omega) (by omega) n0 n1
    omega)
theorem dist_bnd {p h f : Nat} {X : List Int} (hL : isLand p h X = true) (hf : f < X.length) (h64 : X.length ≤ 64) : ∀ m : Int, 0 ≤ m → m < X.length → -1 ≤ at' (distL p X f) m ∧ at' (distL p X f) m ≤ 64 := fun m m0 m1 => by
  have hd := dist_is hL (a := (f : Int)) (by omega) (by omega)
  have := dist_lt hL (a := (f : Int)) (by omega) (by omega) m0 m1
  have := hd.low m m0 m1
  omega
theorem sq_100 {p h n : Nat} {X : List Int} (hL : isLand p h X = true) (hn : n < X.length) : (1 ≤ p ∧ p ≤ 8) ∧ sq p n < 100 := by
  obtain ⟨hW, hH, hLen, _⟩ := isLand_of hL
  have hxl : X.length = p * h := by exact_mod_cast hLen
  have := sq_lt (p := p) (h := h) (n := n) (by omega) (by omega) (by omega)
  exact ⟨by omega, by omega⟩

theorem search_on {w wx wy : World} {bb : Nat} (hg : w.grownBy wx none) (hle : w.heap.size ≤ bb) (hb : Below bb wx wy) : w.grownBy wy none :=
  below_grown ((grown_below hg _ (Nat.le_refl _)).trans (Below.mono hb hle))

end Go.Proofs.YtbjnbaddbanhbaaGreat.WayI
