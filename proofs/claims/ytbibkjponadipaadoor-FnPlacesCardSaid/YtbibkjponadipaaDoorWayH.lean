/- Ways go down day by day; open cells a day apart are near. Plain facts. -/
import Derived.Test.YtbibkjponadipaaDoorWayG
import Derived.Test.YtbibkjponadipaaDoorGr
namespace Go.Proofs.YtbibkjponadipaaDoor.Wf
open Go.RowKit Kit Rw Ld Bfs Gr

/-- Where there is a way to, one can be. -/
theorem dist_open {p h a : Nat} {X : List Int} (ho : isOpen p h X a = true) {n : Int} (n0 : 0 ≤ n) (n1 : n < X.length) (hd : 0 ≤ at' (distL p X a) n) : isOpen p h X n = true := by
  obtain ⟨hc, h2⟩ := isOpen_of ho
  obtain ⟨hL, h0, h1⟩ := isCell_of hc
  have D := dist_is hL h0 h1
  by_cases hna : n = a
  · rw [hna]; exact ho
  · obtain ⟨m, m0, m1, _, m3, _⟩ := D.pre n n0 n1 hna hd
    have := near_in hL m0 m1 m3
    exact isOpen_mk (isCell_mk hL n0 n1) this.2.2
/-- The next cell of a way is a day nearer. -/
theorem nearer_day {p h a : Nat} {X : List Int} (ho : isOpen p h X a = true) {n : Int} (n0 : 0 ≤ n) (n1 : n < X.length) (hd : 0 ≤ at' (distL p X a) n) (hna : n ≠ a) :
    at' (distL p X a) (nearerOf p X (distL p X a) n) = at' (distL p X a) n - 1 ∧ nearerOf p X (distL p X a) n ∈ near p n X := by
  obtain ⟨hc, h2⟩ := isOpen_of ho
  obtain ⟨hL, h0, h1⟩ := isCell_of hc
  have D := dist_is hL h0 h1
  obtain ⟨m, m0, m1, m2, m3, m4⟩ := D.pre n n0 n1 hna hd
  have hb := near_back (dist_open ho m0 m1 m2) m3
  unfold nearerOf
  cases hf : (near p n X).find? (fun m => at' (distL p X a) m == at' (distL p X a) n - 1) with
  | none =>
    rw [List.find?_eq_none] at hf
    have := hf m hb
    simp at this
    omega
  | some x =>
    have h3 := List.find?_some hf
    simp at h3
    exact ⟨by simp; omega, List.mem_of_find?_eq_some hf⟩
/-- At its end nothing is nearer. -/
theorem nearer_end {p h a : Nat} {X : List Int} (ho : isOpen p h X a = true) : nearerOf p X (distL p X a) a = a := by
  obtain ⟨hc, h2⟩ := isOpen_of ho
  obtain ⟨hL, h0, h1⟩ := isCell_of hc
  have D := dist_is hL h0 h1
  unfold nearerOf
  cases hf : (near p a X).find? (fun m => at' (distL p X a) m == at' (distL p X a) a - 1) with
  | none => rfl
  | some x =>
    have h3 := List.find?_some hf
    have := D.nxt a h0 h1 (by rw [D.src]; omega) x (List.mem_of_find?_eq_some hf)
    simp [D.src] at h3
    omega
/-- From one to another by way of a third. -/
theorem dist_tri {p h : Nat} {X : List Int} (hL : isLand p h X = true) {a b : Int} (a0 : 0 ≤ a) (a1 : a < X.length) (b0 : 0 ≤ b) (b1 : b < X.length) (hab : 0 ≤ at' (distL p X a) b) : ∀ (k : Nat) (n : Int), 0 ≤ n → n < X.length → at' (distL p X b) n = k → 0 ≤ at' (distL p X a) n ∧ at' (distL p X a) n ≤ at' (distL p X a) b + k := by
  have A := dist_is hL a0 a1
  have B := dist_is hL b0 b1
  intro k
  induction k with
  | zero =>
    intro n h0 h1 hk
    by_cases hn : n = b
    · subst hn; omega
    · obtain ⟨m, m0, m1, m2, _, m4⟩ := B.pre n h0 h1 hn (by omega)
      omega
  | succ k ih =>
    intro n h0 h1 hk
    by_cases hn : n = b
    · subst hn; omega
    · obtain ⟨m, m0, m1, m2, m3, m4⟩ := B.pre n h0 h1 hn (by omega)
      obtain ⟨i1, i2⟩ := ih m m0 m1 (by omega)
      obtain ⟨j1, j2⟩ := A.nxt m m0 m1 i1 n m3
      omega
theorem dist_back {p h a : Nat} {X : List Int} (ho : isOpen p h X a = true) : ∀ (k : Nat) (n : Int), 0 ≤ n → n < X.length → at' (distL p X a) n = k → 0 ≤ at' (distL p X n) a ∧ at' (distL p X n) a ≤ k := by
  obtain ⟨hc, h2⟩ := isOpen_of ho
  obtain ⟨hL, h0, h1⟩ := isCell_of hc
  have A := dist_is hL h0 h1
  intro k
  induction k with
  | zero =>
    intro n n0 n1 hk
    by_cases hn : n = a
    · subst hn; rw [A.src]; omega
    · obtain ⟨m, m0, m1, m2, _, m4⟩ := A.pre n n0 n1 hn (by omega)
      omega
  | succ k ih =>
    intro n n0 n1 hk
    by_cases hn : n = a
    · subst hn; rw [A.src]; omega
    · obtain ⟨m, m0, m1, m2, m3, m4⟩ := A.pre n n0 n1 hn (by omega)
      obtain ⟨i1, i2⟩ := ih m m0 m1 (by omega)
      have hb := near_back (dist_open ho m0 m1 m2) m3
      have N := dist_is hL n0 n1
      have hs := N.src
      obtain ⟨j1, j2⟩ := N.nxt n n0 n1 (by omega) m hb
      obtain ⟨q, hq⟩ : ∃ q : Nat, at' (distL p X m) a = q := ⟨(at' (distL p X m) a).toNat, by omega⟩
      have := dist_tri hL n0 n1 m0 m1 j1 q a h0 h1 hq
      omega
/-- As far there as back. -/
theorem dist_sym {W H a b : Int} {X : List Int} (ha : isOpen W H X a = true) (hb : isOpen W H X b = true) : at' (distL W X a) b = at' (distL W X b) a := by
  obtain ⟨p, h, n, rfl, rfl, rfl, hn, hL, h64, _⟩ := open_nat ha
  obtain ⟨p', q', m, e1, e2, rfl, hm, _, _, _⟩ := open_nat hb
  have A := dist_is hL (a := (n : Int)) (by omega) (by omega)
  have B := dist_is hL (a := (m : Int)) (by omega) (by omega)
  have la := A.low (m : Int) (by omega) (by omega)
  have lb := B.low (n : Int) (by omega) (by omega)
  by_cases c : 0 ≤ at' (distL p X n) (m : Int)
  · obtain ⟨k, hk⟩ : ∃ k : Nat, at' (distL p X n) (m : Int) = k := ⟨(at' (distL p X n) (m : Int)).toNat, by omega⟩
    obtain ⟨u1, u2⟩ := dist_back ha k (m : Int) (by omega) (by omega) hk
    obtain ⟨k', hk'⟩ : ∃ k : Nat, at' (distL p X m) (n : Int) = k := ⟨(at' (distL p X m) (n : Int)).toNat, by omega⟩
    obtain ⟨v1, v2⟩ := dist_back hb k' (n : Int) (by omega) (by omega) hk'
    omega
  · by_cases c' : 0 ≤ at' (distL p X m) (n : Int)
    · obtain ⟨k', hk'⟩ : ∃ k : Nat, at' (distL p X m) (n : Int) = k := ⟨(at' (distL p X m) (n : Int)).toNat, by omega⟩
      obtain ⟨v1, v2⟩ := dist_back hb k' (n : Int) (by omega) (by omega) hk'
      omega
    · omega
theorem apart_near {W H : Int} {X : List Int} {a b : Int} (ha : isOpen W H X a = true) (hb : isOpen W H X b = true) (h : apart W H X a b = 1) : b ∈ near W a X := by
  obtain ⟨ca, _⟩ := isOpen_of ha
  obtain ⟨cb, b2⟩ := isOpen_of hb
  obtain ⟨hL, a0, a1⟩ := isCell_of ca
  obtain ⟨_, b0, b1⟩ := isCell_of cb
  obtain ⟨hW, hH, hLen, _⟩ := isLand_of hL
  unfold apart at h
  rw [if_pos ⟨ca, cb⟩] at h
  refine near_mk b2 ?_
  obtain ⟨p, rfl⟩ : ∃ p : Nat, W = p := ⟨W.toNat, by omega⟩
  unfold mx at h
  rcases cases8 (p := p) (by omega) with rfl | rfl | rfl | rfl | rfl | rfl | rfl | rfl <;> (split at h <;> split at h <;> omega)
theorem apart_one {W H : Int} {X : List Int} {a b : Int} (ha : isOpen W H X a = true) (hb : isOpen W H X b = true) : apart W H X a b = 1 ↔ b ∈ near W a X :=
  ⟨apart_near ha hb, near_apart (isOpen_of ha).1⟩
end Go.Proofs.YtbibkjponadipaaDoor.Wf
