/- Contract of the program's IsWay. -/
import Derived.Test.YtbpiojnehomljaaWayK
namespace Go.Proofs.Ytbpiojnehomljaa.WayI
open Go.RowKit Kit Rw Ld Gr GrI Bfs Wf Sr LandI

/-- One day far is near. -/
theorem dist_one {p h : Nat} {X : List Int} (hL : isLand p h X = true) {a : Int} (h0 : 0 ≤ a) (h1 : a < X.length) {n : Int} (n0 : 0 ≤ n) (n1 : n < X.length) : at' (distL p X a) n = 1 ↔ n ∈ near p a X := by
  have hd := dist_is hL h0 h1
  obtain ⟨hW, _⟩ := isLand_of hL
  constructor
  · intro e
    by_cases hna : n = a
    · subst hna; rw [hd.src] at e; omega
    · obtain ⟨m, m0, m1, m2, m3, m4⟩ := hd.pre n n0 n1 hna (by omega)
      by_cases hma : m = a
      · subst hma; exact m3
      · obtain ⟨q, q0, q1, q2, _, q4⟩ := hd.pre m m0 m1 hma m2
        omega
  · intro hm
    have hs := hd.src
    have := hd.nxt a h0 h1 (by omega) n hm
    by_cases c : at' (distL p X a) n = 0
    · by_cases hna : n = a
      · subst hna; exact absurd hm (near_self hW.1)
      · obtain ⟨q, q0, q1, q2, _, q4⟩ := hd.pre n n0 n1 hna (by omega)
        omega
    · omega
theorem cut_one {p h : Nat} {X : List Int} (hL : isLand p h X = true) {a : Int} (h0 : 0 ≤ a) (h1 : a < X.length) {n : Int} (n0 : 0 ≤ n) (n1 : n < X.length) : at' (cut 1 (distL p X a)) n = 1 ↔ n ∈ near p a X := by
  have hd := dist_is hL h0 h1
  rw [cut_at n0 (by rw [hd.len]; exact n1), ← dist_one hL h0 h1 n0 n1]
  split <;> omega

end Go.Proofs.Ytbpiojnehomljaa.WayI
