/- A land in its box; an open cell as a number. Plain facts. -/
import Derived.Test.YtbibkjponadipaaDoorWayF
import Derived.Test.YtbibkjponadipaaDoorMBase
namespace Go.Proofs.YtbibkjponadipaaDoor.Wf
open Go.RowKit Kit Rw Ld Bfs

theorem wb_new {w : World} {W H : Int} {v : Value} {X : List Int} (hv : Sees .i64 w v X) : Box (w.alloc (.cells #[.int .i64 W, .int .i64 H, v] 26 (0, 0))) w.heap.size #[.int .i64 W, .int .i64 H, v] 26 ∧ Sees .i64 (w.alloc (.cells #[.int .i64 W, .int .i64 H, v] 26 (0, 0))) v X ∧ w.grownBy (w.alloc (.cells #[.int .i64 W, .int .i64 H, v] 26 (0, 0))) none :=
  ⟨box_new _ _ _, hv.grown (World.grownBy_alloc _ _ none), World.grownBy_alloc _ _ none⟩
theorem open_nat {W H a : Int} {X : List Int} (h : isOpen W H X a = true) : ∃ p h' n : Nat, W = p ∧ H = h' ∧ a = n ∧ n < X.length ∧ isLand p h' X = true ∧ X.length ≤ 64 ∧ 1 ≤ X.length := by
  obtain ⟨hc, _⟩ := isOpen_of h
  obtain ⟨hL, h0, h1⟩ := isCell_of hc
  obtain ⟨hW, hH, hLen, _⟩ := isLand_of hL
  have := area hW hH
  exact ⟨W.toNat, H.toNat, a.toNat, by omega, by omega, by omega, by omega, by rw [show ((W.toNat : Nat) : Int) = W by omega, show ((H.toNat : Nat) : Int) = H by omega]; exact hL, by omega, by omega⟩
theorem reachOf_len (W H : Int) (X : List Int) (a D : Int) : (reachOf W H X a D).length ≤ X.length := by
  unfold reachOf
  split
  · exact reachTo_len _ _ _
  · simp
theorem wayOf_len (W H : Int) (X : List Int) (a b : Int) : (wayOf W H X a b).length ≤ 65 := by
  unfold wayOf
  split
  · rename_i h
    rw [wayFrom_len]
    obtain ⟨p, q, n, rfl, rfl, rfl, hn, hL, h64, _⟩ := open_nat h.1
    obtain ⟨p', q', m, e1, e2, rfl, hm, _, _, _⟩ := open_nat h.2
    have := dist_lt hL (a := (m : Int)) (by omega) (by omega) (n := (n : Int)) (by omega) (by omega)
    omega
  · simp
theorem near_self {W a : Int} {X : List Int} (hW : 1 ≤ W) : a ∉ near W a X := fun h => by
  obtain ⟨_, h⟩ := near_ways h
  omega
end Go.Proofs.YtbibkjponadipaaDoor.Wf
