/- Days from a cell to each cell: what they are, that nothing else is, and how a search that goes from cell to cell finds them. Plain facts. The program's grid of squares: a land inside a border of rock. Plain definitions and facts. Plain facts on lands: what is near, how far apart cells are, how many there are of each kind. A search that goes only so far; that there are days to each cell. Plain facts. Days, ways, reach, the farthest cell: plain definitions. A land in its box; an open cell as a number. Plain facts. Ways go down day by day; open cells a day apart are near. Plain facts. What the law of ways says, of the days and ways themselves. Plain facts. -/
import Derived.Test.YtfccikhmcenanaaMBase
namespace Go.Proofs.Ytfccikhmcenanaa.Bfs
open Go.RowKit Kit Rw Ld

/-- The entry of a list at a cell's number. -/
def at' (d : List Int) (n : Int) : Int := d.getD n.toNat 0
/-- d has the days from a to each cell, -1 where there is no way. -/
structure IsDist (W : Int) (X : List Int) (a : Int) (d : List Int) : Prop where
  len : d.length = X.length
  low : ∀ n : Int, 0 ≤ n → n < X.length → -1 ≤ at' d n
  src : at' d a = 0
  pre : ∀ n : Int, 0 ≤ n → n < X.length → n ≠ a → 0 ≤ at' d n → ∃ m : Int, 0 ≤ m ∧ m < X.length ∧ 0 ≤ at' d m ∧ n ∈ near W m X ∧ at' d n = at' d m + 1
  nxt : ∀ m : Int, 0 ≤ m → m < X.length → 0 ≤ at' d m → ∀ n ∈ near W m X, 0 ≤ at' d n ∧ at' d n ≤ at' d m + 1

theorem IsDist.le {W a : Int} {X d d' : List Int} (h : IsDist W X a d) (h' : IsDist W X a d') : ∀ (k : Nat) (n : Int), 0 ≤ n → n < X.length → at' d n = k → 0 ≤ at' d' n ∧ at' d' n ≤ k := by
  intro k
  induction k with
  | zero =>
    intro n h0 h1 hk
    by_cases hn : n = a
    · subst hn; rw [h'.src]; omega
    · obtain ⟨m, m0, m1, m2, _, m4⟩ := h.pre n h0 h1 hn (by omega)
      omega
  | succ k ih =>
    intro n h0 h1 hk
    by_cases hn : n = a
    · subst hn; rw [h'.src]; omega
    · obtain ⟨m, m0, m1, m2, m3, m4⟩ := h.pre n h0 h1 hn (by omega)
      obtain ⟨i1, i2⟩ := ih m m0 m1 (by omega)
      obtain ⟨j1, j2⟩ := h'.nxt m m0 m1 i1 n m3
      omega
theorem IsDist.same_at {W a : Int} {X d d' : List Int} (h : IsDist W X a d) (h' : IsDist W X a d') {n : Int} (h0 : 0 ≤ n) (h1 : n < X.length) : at' d n = at' d' n := by
  have l := h.low n h0 h1
  have l' := h'.low n h0 h1
  by_cases c : 0 ≤ at' d n
  · obtain ⟨k, hk⟩ : ∃ k : Nat, at' d n = k := ⟨(at' d n).toNat, by omega⟩
    obtain ⟨i1, i2⟩ := h.le h' k n h0 h1 hk
    obtain ⟨k', hk'⟩ : ∃ k : Nat, at' d' n = k := ⟨(at' d' n).toNat, by omega⟩
    obtain ⟨j1, j2⟩ := h'.le h k' n h0 h1 hk'
    omega
  · by_cases c' : 0 ≤ at' d' n
    · obtain ⟨k', hk'⟩ : ∃ k : Nat, at' d' n = k := ⟨(at' d' n).toNat, by omega⟩
      obtain ⟨j1, j2⟩ := h'.le h k' n h0 h1 hk'
      omega
    · omega
/-- There is one such list alone. -/
theorem IsDist.same {W a : Int} {X d d' : List Int} (h : IsDist W X a d) (h' : IsDist W X a d') : d = d' := by
  refine List.ext_getElem (by rw [h.len, h'.len]) fun i h1 h2 => ?_
  have := h.same_at h' (n := (i : Int)) (by omega) (by have := h.len; omega)
  simpa [at', h1, h2] using this
open Classical in
/-- The days. -/
noncomputable def distL (W : Int) (X : List Int) (a : Int) : List Int := if h : ∃ d, IsDist W X a d then h.choose else []
theorem IsDist.eq {W a : Int} {X d : List Int} (h : IsDist W X a d) : distL W X a = d := by
  have hx : ∃ d, IsDist W X a d := ⟨d, h⟩
  rw [distL, dif_pos hx]
  exact hx.choose_spec.same h

/-- What is near is a cell, and open. -/
theorem near_in {W H : Int} {X : List Int} (hL : isLand W H X = true) {m n : Int} (h0 : 0 ≤ m) (h1 : m < X.length) (hn : n ∈ near W m X) : 0 ≤ n ∧ n < X.length ∧ X.getD n.toNat 0 ≠ 2 := by
  obtain ⟨hW, hH, hLen, _⟩ := isLand_of hL
  simp only [near, List.mem_append] at hn
  rcases hn with ((hn | hn) | hn) | hn
  · unfold n1 at hn
    split at hn
    · rename_i c; simp at hn; subst hn; exact ⟨by omega, by omega, c.2⟩
    · simp at hn
  · unfold n2 at hn
    split at hn
    · rename_i c; simp at hn; subst hn
      have hp := c.1
      have : m ≠ 0 := fun h => by rw [h] at hp; simp at hp
      exact ⟨by omega, by omega, c.2⟩
    · simp at hn
  · unfold n3 at hn
    split at hn
    · rename_i c; simp at hn; subst hn
      refine ⟨by omega, ?_, c.2⟩
      obtain ⟨p, rfl⟩ : ∃ p : Nat, W = p := ⟨W.toNat, by omega⟩
      obtain ⟨q, rfl⟩ : ∃ q : Nat, m = q := ⟨m.toNat, by omega⟩
      obtain ⟨r, rfl⟩ : ∃ r : Nat, H = r := ⟨H.toNat, by omega⟩
      have e : X.length = p * r := by exact_mod_cast hLen
      have hq : q < p * r := by omega
      have hm : q % p + 1 < p := by have := c.1; have e2 : (q : Int) % (p : Int) = ((q % p : Nat) : Int) := by omega
                                    omega
      have := right_in hq hm
      omega
    · simp at hn
  · unfold n4 at hn
    split at hn
    · rename_i c; simp at hn; subst hn; exact ⟨by omega, c.1, c.2⟩
    · simp at hn

theorem at_set {d : List Int} {n m v : Int} (h0 : 0 ≤ n) (h1 : n < d.length) (m0 : 0 ≤ m) : at' (d.set n.toNat v) m = if m = n then v else at' d m := by
  unfold at'
  rw [List.getD_eq_getElem?_getD, List.getElem?_set]
  by_cases h : m = n
  · subst h
    rw [if_pos rfl, if_pos rfl, if_pos (by omega)]; rfl
  · rw [if_neg (by omega), if_neg h, ← List.getD_eq_getElem?_getD]
theorem getD_append_l {q : List Int} {n : Int} {j : Nat} (hj : j < q.length) : (q ++ [n]).getD j 0 = q.getD j 0 := by
  rw [List.getD_eq_getElem?_getD, List.getElem?_append_left hj, ← List.getD_eq_getElem?_getD]
theorem getD_append_r {q : List Int} {n : Int} : (q ++ [n]).getD q.length 0 = n := by simp
theorem mem_ix {q : List Int} {n : Int} (h : n ∈ q) : ∃ j, j < q.length ∧ q.getD j 0 = n := by
  obtain ⟨j, hj, e⟩ := List.getElem_of_mem h
  exact ⟨j, hj, by simp [hj, e]⟩

theorem nodup_len : ∀ (N : Nat) (q : List Int), q.Nodup → (∀ n ∈ q, 0 ≤ n ∧ n < (N : Int)) → q.length ≤ N := by
  intro N
  induction N with
  | zero =>
    intro q _ h
    cases q with
    | nil => simp
    | cons x q => have := h x (by simp); omega
  | succ N ih =>
    intro q hq h
    have h2 := ih (q.erase (N : Int)) (hq.erase _) (fun n hn => by
      rw [hq.mem_erase_iff] at hn
      have := h n hn.2
      have := hn.1
      omega)
    rw [List.length_erase] at h2
    split at h2 <;> omega
/-- Where a search stands that has gone on from the first i cells of its queue. -/
structure Inv (W : Int) (X : List Int) (a : Int) (i : Nat) (d q : List Int) : Prop where
  len : d.length = X.length
  low : ∀ n : Int, 0 ≤ n → n < X.length → -1 ≤ at' d n
  inq : ∀ n ∈ q, 0 ≤ n ∧ n < X.length ∧ 0 ≤ at' d n
  known : ∀ n : Int, 0 ≤ n → n < X.length → 0 ≤ at' d n → n ∈ q
  nodup : q.Nodup
  aq : a ∈ q
  src : at' d a = 0
  pre : ∀ n : Int, 0 ≤ n → n < X.length → n ≠ a → 0 ≤ at' d n → ∃ m : Int, 0 ≤ m ∧ m < X.length ∧ 0 ≤ at' d m ∧ n ∈ near W m X ∧ at' d n = at' d m + 1
  done : ∀ j, j < i → ∀ n ∈ near W (q.getD j 0) X, 0 ≤ at' d n ∧ at' d n ≤ at' d (q.getD j 0) + 1
  mono : ∀ j k, j ≤ k → k < q.length → at' d (q.getD j 0) ≤ at' d (q.getD k 0)
  top : i < q.length → ∀ k, k < q.length → at' d (q.getD k 0) ≤ at' d (q.getD i 0) + 1
  ile : i ≤ q.length
  bnd : ∀ k, k < q.length → at' d (q.getD k 0) ≤ k

theorem Inv.start {W : Int} {X : List Int} {a : Int} (h0 : 0 ≤ a) (h1 : a < X.length) : Inv W X a 0 ((List.replicate X.length (-1)).set a.toNat 0) [a] := by
  have hl : (List.replicate X.length (-1 : Int)).length = X.length := by simp
  have ha : ∀ m : Int, 0 ≤ m → m < X.length → at' ((List.replicate X.length (-1)).set a.toNat 0) m = if m = a then 0 else -1 := by
    intro m m0 m1
    rw [at_set h0 (by rw [hl]; exact h1) m0]
    split
    · rfl
    · unfold at'; rw [List.getD_eq_getElem?_getD, List.getElem?_replicate, if_pos (by omega)]; rfl
  refine ⟨by simp, ?_, ?_, ?_, by simp, by simp, by rw [ha a h0 h1, if_pos rfl], ?_, ?_, ?_, ?_, by simp, ?_⟩
  · intro n n0 n1; rw [ha n n0 n1]; split <;> omega
  · intro n hn; simp at hn; subst hn; exact ⟨h0, h1, by rw [ha n h0 h1, if_pos rfl]; omega⟩
  · intro n n0 n1 hn; rw [ha n n0 n1] at hn; split at hn
    · rename_i e; simp [e]
    · omega
  · intro n n0 n1 hne hn; rw [ha n n0 n1, if_neg hne] at hn; omega
  · intro j hj; omega
  · intro j k hjk hk; simp at hk; subst hk; obtain rfl : j = 0 := by omega
    exact Int.le_refl _
  · intro _ k hk; simp at hk; subst hk; omega
  · intro k hk; simp at hk; subst hk; show at' _ a ≤ _; rw [ha a h0 h1, if_pos rfl]; omega

/-- A cell that is met for the first time. -/
theorem Inv.meet {W H : Int} {X : List Int} {a : Int} {i : Nat} {d q : List Int} (h : Inv W X a i d q) (hL : isLand W H X = true) (hi : i < q.length) {n : Int} (hn : n ∈ near W (q.getD i 0) X) (hd : at' d n < 0) :
    Inv W X a i (d.set n.toNat (at' d (q.getD i 0) + 1)) (q ++ [n]) := by
  have hm := h.inq (q.getD i 0) (mem_getD hi)
  obtain ⟨m0, m1, m2⟩ := hm
  obtain ⟨n0, n1, _⟩ := near_in hL m0 m1 hn
  have hnq : n ∉ q := fun hc => by have := (h.inq n hc).2.2; omega
  have hnd : n < d.length := by rw [h.len]; exact n1
  have hv : ∀ m : Int, 0 ≤ m → at' (d.set n.toNat (at' d (q.getD i 0) + 1)) m = if m = n then at' d (q.getD i 0) + 1 else at' d m := fun m hm => at_set n0 hnd hm
  have hold : ∀ m ∈ q, at' (d.set n.toNat (at' d (q.getD i 0) + 1)) m = at' d m := fun m hm => by
    rw [hv m (h.inq m hm).1, if_neg (by intro e; subst e; exact hnq hm)]
  have hget : ∀ j, j < q.length → at' (d.set n.toNat (at' d (q.getD i 0) + 1)) ((q ++ [n]).getD j 0) = at' d (q.getD j 0) := fun j hj => by
    rw [getD_append_l hj]; exact hold _ (mem_getD hj)
  have hlast : at' (d.set n.toNat (at' d (q.getD i 0) + 1)) ((q ++ [n]).getD q.length 0) = at' d (q.getD i 0) + 1 := by
    rw [getD_append_r, hv n n0, if_pos rfl]
  refine ⟨by simp [h.len], ?_, ?_, ?_, ?_, ?_, ?_, ?_, ?_, ?_, ?_, by have := h.ile; simp; omega, ?_⟩
  · intro m hm0 hm1; rw [hv m hm0]; split
    · omega
    · exact h.low m hm0 hm1
  · intro m hm
    rcases List.mem_append.1 hm with hm | hm
    · have := h.inq m hm; rw [hold m hm]; exact this
    · simp at hm; subst hm; rw [hv m n0, if_pos rfl]; exact ⟨n0, n1, by omega⟩
  · intro m hm0 hm1 hm2
    rw [hv m hm0] at hm2
    split at hm2
    · rename_i e; simp [e]
    · exact List.mem_append_left _ (h.known m hm0 hm1 hm2)
  · rw [List.nodup_append]
    exact ⟨h.nodup, by simp, fun x hx y hy => by simp at hy; subst hy; intro e; subst e; exact hnq hx⟩
  · exact List.mem_append_left _ h.aq
  · rw [hold a h.aq]; exact h.src
  · intro m hm0 hm1 hma hm2
    rw [hv m hm0] at hm2
    by_cases e : m = n
    · subst e
      refine ⟨q.getD i 0, m0, m1, ?_, hn, ?_⟩
      · rw [hold _ (mem_getD hi)]; exact m2
      · rw [hv m hm0, if_pos rfl, hold _ (mem_getD hi)]
    · rw [if_neg e] at hm2
      obtain ⟨p, p0, p1, p2, p3, p4⟩ := h.pre m hm0 hm1 hma hm2
      refine ⟨p, p0, p1, ?_, p3, ?_⟩
      · rw [hold p (h.known p p0 p1 p2)]; exact p2
      · rw [hv m hm0, if_neg e, hold p (h.known p p0 p1 p2)]; exact p4
  · intro j hj m hm
    have hjq : j < q.length := by omega
    rw [getD_append_l hjq] at hm ⊢
    obtain ⟨d0, d1⟩ := h.done j hj m hm
    have hjm := h.inq _ (mem_getD hjq)
    obtain ⟨z0, z1, _⟩ := near_in hL hjm.1 hjm.2.1 hm
    have := h.known m z0 z1 d0
    rw [hold m this, hold _ (mem_getD hjq)]
    exact ⟨d0, d1⟩
  · intro j k hjk hk
    simp at hk
    by_cases hkq : k < q.length
    · rw [hget j (by omega), hget k hkq]; exact h.mono j k hjk hkq
    · obtain rfl : k = q.length := by omega
      rw [hlast]
      by_cases hjq : j < q.length
      · rw [hget j hjq]; exact h.top hi j hjq
      · obtain rfl : j = q.length := by omega
        rw [hlast]; exact Int.le_refl _
  · intro _ k hk
    simp at hk
    rw [hget i hi]
    by_cases hkq : k < q.length
    · rw [hget k hkq]; exact h.top hi k hkq
    · obtain rfl : k = q.length := by omega
      rw [hlast]; exact Int.le_refl _
  · intro k hk
    simp at hk
    by_cases hkq : k < q.length
    · rw [hget k hkq]; exact h.bnd k hkq
    · obtain rfl : k = q.length := by omega
      rw [hlast]; have := h.bnd i hi; omega

/-- All that is near the i-th cell has been looked at. -/
theorem Inv.next {W : Int} {X : List Int} {a : Int} {i : Nat} {d q : List Int} (h : Inv W X a i d q) (hi : i < q.length) (hall : ∀ n ∈ near W (q.getD i 0) X, 0 ≤ at' d n ∧ at' d n ≤ at' d (q.getD i 0) + 1) : Inv W X a (i + 1) d q := by
  refine { h with done := ?_, top := ?_, ile := hi }
  · intro j hj n hn
    by_cases e : j = i
    · subst e; exact hall n hn
    · exact h.done j (by omega) n hn
  · intro hi' k hk
    have h1 := h.top hi k hk
    have h2 := h.mono i (i + 1) (by omega) hi'
    omega
/-- At the queue's end. -/
theorem Inv.dist {W : Int} {X : List Int} {a : Int} {d q : List Int} (h : Inv W X a q.length d q) : IsDist W X a d := by
  refine ⟨h.len, h.low, h.src, h.pre, fun m m0 m1 m2 n hn => ?_⟩
  obtain ⟨j, hj, e⟩ := mem_ix (h.known m m0 m1 m2)
  have := h.done j hj n (by rw [e]; exact hn)
  rwa [e] at this
/-- A queue is no longer than the land. -/
theorem Inv.short {W : Int} {X : List Int} {a : Int} {i : Nat} {d q : List Int} (h : Inv W X a i d q) : q.length ≤ X.length := by
  exact nodup_len _ _ h.nodup (fun n hn => ⟨(h.inq n hn).1, (h.inq n hn).2.1⟩)
end Go.Proofs.Ytfccikhmcenanaa.Bfs

namespace Go.Proofs.Ytfccikhmcenanaa.Gr
open Go.RowKit Kit Rw Ld

/-- The square of a cell, the cell of a square, whether a square is one of the first len cells'. -/
def sq (p n : Nat) : Nat := (n / p + 1) * 10 + n % p + 1
def cl (p s : Nat) : Nat := (s / 10 - 1) * p + (s % 10 - 1)
def inb (p len s : Nat) : Bool := decide (10 ≤ s ∧ 1 ≤ s % 10 ∧ s % 10 ≤ p ∧ cl p s < len)
def gridTo (p : Nat) (X : List Int) : Nat → List Int
  | 0 => List.replicate 100 2
  | j + 1 => (gridTo p X j).set (sq p j) (X.getD j 0)
/-- What the squares hold. -/
def grid (p : Nat) (X : List Int) : List Int := gridTo p X X.length
theorem gridTo_len (p : Nat) (X : List Int) : ∀ j, (gridTo p X j).length = 100
  | 0 => by simp [gridTo]
  | j + 1 => by simp [gridTo, gridTo_len p X j]
theorem grid_len (p : Nat) (X : List Int) : (grid p X).length = 100 := gridTo_len _ _ _
theorem gridTo_in {p : Nat} {X : List Int} (hX : ∀ k ∈ X, 0 ≤ k ∧ k ≤ 2) : ∀ j, j ≤ X.length → ∀ k ∈ gridTo p X j, 0 ≤ k ∧ k ≤ 2
  | 0, _, k, hk => by simp [gridTo] at hk; omega
  | j + 1, hj, k, hk => by
    rcases List.mem_or_eq_of_mem_set hk with h | h
    · exact gridTo_in hX j (by omega) k h
    · rw [h]; exact hX _ (mem_getD (by omega))
theorem cases8 {p : Nat} (h : 1 ≤ p ∧ p ≤ 8) : p = 1 ∨ p = 2 ∨ p = 3 ∨ p = 4 ∨ p = 5 ∨ p = 6 ∨ p = 7 ∨ p = 8 := by omega
theorem sq_eq {p : Nat} (hp : 1 ≤ p ∧ p ≤ 8) (n s : Nat) : (sq p n = s) ↔ (10 ≤ s ∧ 1 ≤ s % 10 ∧ s % 10 ≤ p ∧ cl p s = n) := by
  unfold sq cl
  rcases cases8 hp with rfl | rfl | rfl | rfl | rfl | rfl | rfl | rfl <;> omega
theorem sq_lt {p h n : Nat} (hp : 1 ≤ p ∧ p ≤ 8) (hh : h ≤ 8) (hn : n < p * h) : 11 ≤ sq p n ∧ sq p n ≤ 88 := by
  unfold sq
  rcases cases8 hp with rfl | rfl | rfl | rfl | rfl | rfl | rfl | rfl <;> omega
theorem cl_sq {p : Nat} (hp : 1 ≤ p ∧ p ≤ 8) (n : Nat) : cl p (sq p n) = n := ((sq_eq hp n _).1 rfl).2.2.2
theorem sq_cl {p len s : Nat} (hp : 1 ≤ p ∧ p ≤ 8) (h : inb p len s = true) : sq p (cl p s) = s := by
  simp only [inb, decide_eq_true_eq] at h
  exact (sq_eq hp _ _).2 ⟨h.1, h.2.1, h.2.2.1, rfl⟩
theorem inb_sq {p len n : Nat} (hp : 1 ≤ p ∧ p ≤ 8) (hn : n < len) : inb p len (sq p n) = true := by
  have := (sq_eq hp n _).1 rfl
  simp only [inb, decide_eq_true_eq]
  exact ⟨this.1, this.2.1, this.2.2.1, by rw [this.2.2.2]; exact hn⟩
theorem sq_inj {p m n : Nat} (hp : 1 ≤ p ∧ p ≤ 8) (h : sq p m = sq p n) : m = n := by
  rw [← cl_sq hp m, h, cl_sq hp]
theorem gridTo_at {p h : Nat} {X : List Int} (hp : 1 ≤ p ∧ p ≤ 8) (hh : h ≤ 8) : ∀ j, j ≤ p * h → ∀ s, s < 100 → (gridTo p X j).getD s 0 = if inb p j s = true then X.getD (cl p s) 0 else 2
  | 0, _, s, hs => by
    have : inb p 0 s = false := by simp [inb]
    rw [this]
    show (List.replicate 100 (2 : Int)).getD s 0 = _
    rw [List.getD_eq_getElem?_getD, List.getElem?_replicate, if_pos hs]; rfl
  | j + 1, hj, s, hs => by
    have ih := gridTo_at hp hh j (by omega) s hs (X := X)
    have hsq := sq_lt hp hh (show j < p * h by omega)
    show ((gridTo p X j).set (sq p j) (X.getD j 0)).getD s 0 = _
    rw [List.getD_eq_getElem?_getD, List.getElem?_set]
    by_cases e : sq p j = s
    · have e2 := (sq_eq hp j s).1 e
      have : inb p (j + 1) s = true := by simp only [inb, decide_eq_true_eq]; omega
      rw [if_pos e, if_pos (by rw [gridTo_len]; omega), if_pos this, e2.2.2.2]
      rfl
    · rw [if_neg e, ← List.getD_eq_getElem?_getD, ih]
      have : inb p (j + 1) s = inb p j s := by
        simp only [inb, decide_eq_decide]
        have : ¬ (10 ≤ s ∧ 1 ≤ s % 10 ∧ s % 10 ≤ p ∧ cl p s = j) := fun h => e ((sq_eq hp j s).2 h)
        omega
      rw [this]
theorem grid_at {p h : Nat} {X : List Int} (hp : 1 ≤ p ∧ p ≤ 8) (hh : h ≤ 8) (hL : X.length = p * h) {s : Nat} (hs : s < 100) : (grid p X).getD s 0 = if inb p X.length s = true then X.getD (cl p s) 0 else 2 :=
  gridTo_at hp hh _ (by omega) s hs

/-- The four squares beside one, in the program's order. -/
theorem up_in {p h n len : Nat} (hp : 1 ≤ p ∧ p ≤ 8) (hh : h ≤ 8) (hl : len = p * h) (hn : n < len) : (inb p len (sq p n - 10) = decide (p ≤ n)) ∧ (p ≤ n → cl p (sq p n - 10) = n - p) := by
  unfold inb cl sq
  subst hl
  rcases cases8 hp with rfl | rfl | rfl | rfl | rfl | rfl | rfl | rfl <;> exact ⟨by rw [decide_eq_decide]; omega, by omega⟩
theorem left_in {p h n len : Nat} (hp : 1 ≤ p ∧ p ≤ 8) (hh : h ≤ 8) (hl : len = p * h) (hn : n < len) : (inb p len (sq p n - 1) = decide (0 < n % p)) ∧ (0 < n % p → cl p (sq p n - 1) = n - 1) := by
  unfold inb cl sq
  subst hl
  rcases cases8 hp with rfl | rfl | rfl | rfl | rfl | rfl | rfl | rfl <;> exact ⟨by rw [decide_eq_decide]; omega, by omega⟩
theorem right_in' {p h n len : Nat} (hp : 1 ≤ p ∧ p ≤ 8) (hh : h ≤ 8) (hl : len = p * h) (hn : n < len) : (inb p len (sq p n + 1) = decide (n % p + 1 < p)) ∧ (n % p + 1 < p → cl p (sq p n + 1) = n + 1) := by
  unfold inb cl sq
  subst hl
  rcases cases8 hp with rfl | rfl | rfl | rfl | rfl | rfl | rfl | rfl <;> exact ⟨by rw [decide_eq_decide]; omega, by omega⟩
theorem down_in {p h n len : Nat} (hp : 1 ≤ p ∧ p ≤ 8) (hh : h ≤ 8) (hl : len = p * h) (hn : n < len) : (inb p len (sq p n + 10) = decide (n + p < len)) ∧ (n + p < len → cl p (sq p n + 10) = n + p) := by
  unfold inb cl sq
  subst hl
  rcases cases8 hp with rfl | rfl | rfl | rfl | rfl | rfl | rfl | rfl <;> exact ⟨by rw [decide_eq_decide]; omega, by omega⟩

/-- Where a side's square is open. -/
def opn (g : List Int) (s : Nat) : Bool := decide (g.getD s 0 ≠ 2)
def side1 (g : List Int) (t : Nat) : List Nat := if opn g t = true then [t] else []
def nsq (g : List Int) (s : Nat) : List Nat := side1 g (s - 10) ++ side1 g (s - 1) ++ side1 g (s + 1) ++ side1 g (s + 10)
theorem opn_grid {p h : Nat} {X : List Int} (hp : 1 ≤ p ∧ p ≤ 8) (hh : h ≤ 8) (hL : X.length = p * h) {s : Nat} (hs : s < 100) : opn (grid p X) s = true ↔ (inb p X.length s = true ∧ X.getD (cl p s) 0 ≠ 2) := by
  unfold opn
  rw [decide_eq_true_eq, grid_at hp hh hL hs]
  split
  · rename_i h; simp [h]
  · rename_i h; simp [h]
theorem nsq_near {p h n : Nat} {X : List Int} (hp : 1 ≤ p ∧ p ≤ 8) (hh : h ≤ 8) (hL : X.length = p * h) (hn : n < X.length) :
    (nsq (grid p X) (sq p n)).map (fun t => ((cl p t : Nat) : Int)) = near p n X := by
  have hsq := sq_lt hp hh (show n < p * h by omega)
  have u := up_in hp hh hL hn
  have l := left_in hp hh hL hn
  have r := right_in' hp hh hL hn
  have d := down_in hp hh hL hn
  have e1 : (side1 (grid p X) (sq p n - 10)).map (fun t => ((cl p t : Nat) : Int)) = n1 p n X := by
    rw [n1_nat]; unfold side1
    have := opn_grid (X := X) hp hh hL (s := sq p n - 10) (by omega)
    rw [u.1, decide_eq_true_eq] at this
    by_cases c : p ≤ n
    · rw [u.2 c] at this
      by_cases c2 : X.getD (n - p) 0 ≠ 2
      · rw [if_pos (this.2 ⟨c, c2⟩), if_pos (by rw [decide_eq_true_eq]; exact ⟨by omega, c2⟩)]
        simp only [List.map_cons, List.map_nil, u.2 c]; congr 1; omega
      · rw [if_neg (fun hc => c2 (this.1 hc).2), if_neg (by rw [decide_eq_true_eq]; exact fun hc => c2 hc.2)]; rfl
    · rw [if_neg (fun hc => c (this.1 hc).1), if_neg (by rw [decide_eq_true_eq]; exact fun hc => c (by omega))]; rfl
  have e2 : (side1 (grid p X) (sq p n - 1)).map (fun t => ((cl p t : Nat) : Int)) = n2 p n X := by
    rw [n2_nat]; unfold side1
    have := opn_grid (X := X) hp hh hL (s := sq p n - 1) (by omega)
    rw [l.1, decide_eq_true_eq] at this
    have hc0 : ((0 : Int) < (n : Int) % (p : Int)) ↔ 0 < n % p := by omega
    by_cases c : 0 < n % p
    · rw [l.2 c] at this
      by_cases c2 : X.getD (n - 1) 0 ≠ 2
      · rw [if_pos (this.2 ⟨c, c2⟩), if_pos (by rw [decide_eq_true_eq]; exact ⟨hc0.2 c, c2⟩)]
        have : n ≠ 0 := fun h => by subst h; simp at c
        simp only [List.map_cons, List.map_nil, l.2 c]; congr 1; omega
      · rw [if_neg (fun hc => c2 (this.1 hc).2), if_neg (by rw [decide_eq_true_eq]; exact fun hc => c2 hc.2)]; rfl
    · rw [if_neg (fun hc => c (this.1 hc).1), if_neg (by rw [decide_eq_true_eq]; exact fun hc => c (hc0.1 hc.1))]; rfl
  have e3 : (side1 (grid p X) (sq p n + 1)).map (fun t => ((cl p t : Nat) : Int)) = n3 p n X := by
    rw [n3_nat]; unfold side1
    have := opn_grid (X := X) hp hh hL (s := sq p n + 1) (by omega)
    rw [r.1, decide_eq_true_eq] at this
    have hc0 : ((n : Int) % (p : Int) < (p : Int) - 1) ↔ n % p + 1 < p := by omega
    by_cases c : n % p + 1 < p
    · rw [r.2 c] at this
      by_cases c2 : X.getD (n + 1) 0 ≠ 2
      · rw [if_pos (this.2 ⟨c, c2⟩), if_pos (by rw [decide_eq_true_eq]; exact ⟨hc0.2 c, c2⟩)]
        simp only [List.map_cons, List.map_nil, r.2 c]; congr 1
      · rw [if_neg (fun hc => c2 (this.1 hc).2), if_neg (by rw [decide_eq_true_eq]; exact fun hc => c2 hc.2)]; rfl
    · rw [if_neg (fun hc => c (this.1 hc).1), if_neg (by rw [decide_eq_true_eq]; exact fun hc => c (hc0.1 hc.1))]; rfl
  have e4 : (side1 (grid p X) (sq p n + 10)).map (fun t => ((cl p t : Nat) : Int)) = n4 p n X := by
    rw [n4_nat]; unfold side1
    have := opn_grid (X := X) hp hh hL (s := sq p n + 10) (by omega)
    rw [d.1, decide_eq_true_eq] at this
    by_cases c : n + p < X.length
    · rw [d.2 c] at this
      by_cases c2 : X.getD (n + p) 0 ≠ 2
      · rw [if_pos (this.2 ⟨c, c2⟩), if_pos (by rw [decide_eq_true_eq]; exact ⟨by omega, c2⟩)]
        simp only [List.map_cons, List.map_nil, d.2 c]; congr 1
      · rw [if_neg (fun hc => c2 (this.1 hc).2), if_neg (by rw [decide_eq_true_eq]; exact fun hc => c2 hc.2)]; rfl
    · rw [if_neg (fun hc => c (this.1 hc).1), if_neg (by rw [decide_eq_true_eq]; exact fun hc => c (by omega))]; rfl
  simp only [nsq, near, List.map_append, e1, e2, e3, e4]
theorem nsq_len (g : List Int) (s : Nat) : (nsq g s).length ≤ 4 := by
  have h : ∀ t, (side1 g t).length ≤ 1 := fun t => by unfold side1; split <;> simp
  have := h (s - 10); have := h (s - 1); have := h (s + 1); have := h (s + 10)
  simp only [nsq, List.length_append]; omega
/-- What lies beside a cell's square and is open is a cell's square. -/
theorem nsq_mem {p h n t : Nat} {X : List Int} (hp : 1 ≤ p ∧ p ≤ 8) (hh : h ≤ 8) (hL : X.length = p * h) (hn : n < X.length) (ht : t ∈ nsq (grid p X) (sq p n)) : inb p X.length t = true := by
  have hsq := sq_lt hp hh (show n < p * h by omega)
  have hs : ∀ u, u < 100 → t ∈ side1 (grid p X) u → inb p X.length t = true := fun u hu h => by
    unfold side1 at h
    split at h
    · rename_i c; simp at h; subst h; exact ((opn_grid hp hh hL hu).1 c).1
    · simp at h
  simp only [nsq, List.mem_append] at ht
  rcases ht with ((ht | ht) | ht) | ht
  · exact hs _ (by omega) ht
  · exact hs _ (by omega) ht
  · exact hs _ (by omega) ht
  · exact hs _ (by omega) ht
end Go.Proofs.Ytfccikhmcenanaa.Gr

namespace Go.Proofs.Ytfccikhmcenanaa.Ld
open Go.RowKit Kit Rw
open Bfs (near_in)

theorem mx_comm (a b : Int) : mx (a - b) (b - a) = mx (b - a) (a - b) := by
  unfold mx
  split <;> split <;> omega
theorem apart_comm (W H : Int) (X : List Int) (a b : Int) : apart W H X a b = apart W H X b a := by
  unfold apart
  by_cases h : isCell W H X a = true ∧ isCell W H X b = true
  · rw [if_pos h, if_pos ⟨h.2, h.1⟩, mx_comm (a % W) (b % W), mx_comm (a / W) (b / W)]
  · rw [if_neg h, if_neg (fun e => h ⟨e.2, e.1⟩)]
theorem mx_self (a : Int) : mx (a - a) (a - a) = 0 := by unfold mx; split <;> omega
theorem apart_self {W H : Int} {X : List Int} {a : Int} (h : isCell W H X a = true) : apart W H X a a = 0 := by
  unfold apart
  rw [if_pos ⟨h, h⟩, mx_self, mx_self]; rfl

/-- What is near ascends. -/
theorem near_asc {W n : Int} {X : List Int} (hW : 1 ≤ W) : (near W n X).Pairwise (· < ·) := by
  have m1 : ∀ x ∈ n1 W n X, x = n - W := by intro x hx; unfold n1 at hx; split at hx <;> simp at hx; exact hx
  have m2 : ∀ x ∈ n2 W n X, x = n - 1 ∧ 0 < n % W := by intro x hx; unfold n2 at hx; split at hx <;> simp at hx; rename_i c; exact ⟨hx, c.1⟩
  have m3 : ∀ x ∈ n3 W n X, x = n + 1 ∧ n % W < W - 1 := by intro x hx; unfold n3 at hx; split at hx <;> simp at hx; rename_i c; exact ⟨hx, c.1⟩
  have m4 : ∀ x ∈ n4 W n X, x = n + W := by intro x hx; unfold n4 at hx; split at hx <;> simp at hx; exact hx
  have one : ∀ l : List Int, l.length ≤ 1 → l.Pairwise (· < ·) := by
    intro l hl
    match l, hl with
    | [], _ => exact List.Pairwise.nil
    | [x], _ => simp
  have hn0 := Int.emod_nonneg n (show W ≠ 0 by omega)
  have hn1 := Int.emod_lt_of_pos n (show 0 < W by omega)
  unfold near
  rw [List.pairwise_append, List.pairwise_append, List.pairwise_append]
  refine ⟨⟨⟨one _ (n1_len W n X), one _ (n2_len W n X), ?_⟩, one _ (n3_len W n X), ?_⟩, one _ (n4_len W n X), ?_⟩
  · intro a ha b hb
    have := m1 a ha; have := m2 b hb; omega
  · intro a ha b hb
    have := m3 b hb
    rcases List.mem_append.1 ha with ha | ha
    · have := m1 a ha; omega
    · have := m2 a ha; omega
  · intro a ha b hb
    have := m4 b hb
    rcases List.mem_append.1 ha with ha | ha
    · rcases List.mem_append.1 ha with ha | ha
      · have := m1 a ha; omega
      · have := m2 a ha; omega
    · have := m3 a ha; omega

/-- The four ways in which a cell may be near. -/
theorem near_ways {W n m : Int} {X : List Int} (h : m ∈ near W n X) : X.getD m.toNat 0 ≠ 2 ∧ ((W ≤ n ∧ m = n - W) ∨ (0 < n % W ∧ m = n - 1) ∨ (n % W < W - 1 ∧ m = n + 1) ∨ (n + W < (X.length : Int) ∧ m = n + W)) := by
  simp only [near, List.mem_append] at h
  rcases h with ((h | h) | h) | h
  · unfold n1 at h; split at h <;> simp at h
    rename_i c; subst h; exact ⟨c.2, .inl ⟨c.1, rfl⟩⟩
  · unfold n2 at h; split at h <;> simp at h
    rename_i c; subst h; exact ⟨c.2, .inr (.inl ⟨c.1, rfl⟩)⟩
  · unfold n3 at h; split at h <;> simp at h
    rename_i c; subst h; exact ⟨c.2, .inr (.inr (.inl ⟨c.1, rfl⟩))⟩
  · unfold n4 at h; split at h <;> simp at h
    rename_i c; subst h; exact ⟨c.2, .inr (.inr (.inr ⟨c.1, rfl⟩))⟩
theorem near_mk {W n m : Int} {X : List Int} (h2 : X.getD m.toNat 0 ≠ 2) (h : (W ≤ n ∧ m = n - W) ∨ (0 < n % W ∧ m = n - 1) ∨ (n % W < W - 1 ∧ m = n + 1) ∨ (n + W < (X.length : Int) ∧ m = n + W)) : m ∈ near W n X := by
  simp only [near, List.mem_append]
  rcases h with ⟨h, rfl⟩ | ⟨h, rfl⟩ | ⟨h, rfl⟩ | ⟨h, rfl⟩
  · exact .inl (.inl (.inl (by unfold n1; rw [if_pos ⟨h, h2⟩]; simp)))
  · exact .inl (.inl (.inr (by unfold n2; rw [if_pos ⟨h, h2⟩]; simp)))
  · exact .inl (.inr (by unfold n3; rw [if_pos ⟨h, h2⟩]; simp))
  · exact .inr (by unfold n4; rw [if_pos ⟨h, h2⟩]; simp)

/-- A step to a row's next cell, and to one that is a row further, in columns and rows. -/
theorem step_row {W n : Int} (hW : 0 < W) (h : n % W < W - 1) : (n + 1) % W = n % W + 1 ∧ (n + 1) / W = n / W := by
  have h0 := Int.emod_nonneg n (show W ≠ 0 by omega)
  have e := Int.mul_ediv_add_emod n W
  have e1 : n + 1 = (n % W + 1) + W * (n / W) := by omega
  constructor
  · rw [e1, Int.add_mul_emod_self_left]
    exact Int.emod_eq_of_lt (by omega) (by omega)
  · rw [e1, Int.add_mul_ediv_left _ _ (by omega), Int.ediv_eq_zero_of_lt (by omega) (by omega)]
    omega
theorem step_col {W n : Int} (hW : 0 < W) : (n + W) % W = n % W ∧ (n + W) / W = n / W + 1 := by
  constructor
  · simp
  · rw [Int.add_ediv_of_dvd_right (Int.dvd_refl W), Int.ediv_self (by omega)]
theorem mx_0 : mx 0 0 = 0 := rfl
theorem mx_1 : mx 1 (-1) = 1 := rfl
theorem mx_m : mx (-1) 1 = 1 := rfl
theorem near_apart {W H : Int} {X : List Int} {n m : Int} (hc : isCell W H X n = true) (h : m ∈ near W n X) : apart W H X n m = 1 := by
  obtain ⟨hL, h0, h1⟩ := isCell_of hc
  obtain ⟨⟨hW, _⟩, _⟩ := isLand_of hL
  obtain ⟨i0, i1, _⟩ := near_in hL h0 h1 h
  unfold apart
  rw [if_pos ⟨hc, isCell_mk hL i0 i1⟩]
  obtain ⟨_, hw⟩ := near_ways h
  rcases hw with ⟨c, rfl⟩ | ⟨c, rfl⟩ | ⟨c, rfl⟩ | ⟨c, rfl⟩
  · obtain ⟨s1, s2⟩ := step_col (W := W) (n := n - W) (by omega)
    rw [show n - W + W = n by omega] at s1 s2
    rw [s1, s2]
    unfold mx; split <;> split <;> omega
  · have hr : (n - 1) % W < W - 1 := by
      have e := Int.mul_ediv_add_emod n W
      have hlt := Int.emod_lt_of_pos n (show 0 < W by omega)
      have e1 : n - 1 = (n % W - 1) + W * (n / W) := by omega
      rw [e1, Int.add_mul_emod_self_left, Int.emod_eq_of_lt (by omega) (by omega)]
      omega
    obtain ⟨s1, s2⟩ := step_row (W := W) (n := n - 1) (by omega) hr
    rw [show n - 1 + 1 = n by omega] at s1 s2
    rw [s1, s2]
    unfold mx; split <;> split <;> omega
  · obtain ⟨s1, s2⟩ := step_row (W := W) (n := n) (by omega) c
    rw [s1, s2]
    unfold mx; split <;> split <;> omega
  · obtain ⟨s1, s2⟩ := step_col (W := W) (n := n) (by omega)
    rw [s1, s2]
    unfold mx; split <;> split <;> omega
/-- Cells are near one another both ways. -/
theorem near_back {W H : Int} {X : List Int} {n m : Int} (ho : isOpen W H X n = true) (h : m ∈ near W n X) : n ∈ near W m X := by
  obtain ⟨hc, h2⟩ := isOpen_of ho
  obtain ⟨hL, h0, h1⟩ := isCell_of hc
  obtain ⟨⟨hW, _⟩, _⟩ := isLand_of hL
  obtain ⟨i0, i1, _⟩ := near_in hL h0 h1 h
  obtain ⟨_, hw⟩ := near_ways h
  refine near_mk h2 ?_
  rcases hw with ⟨c, rfl⟩ | ⟨c, rfl⟩ | ⟨c, rfl⟩ | ⟨c, rfl⟩
  · exact .inr (.inr (.inr ⟨by omega, by omega⟩))
  · refine .inr (.inr (.inl ⟨?_, by omega⟩))
    have e := Int.mul_ediv_add_emod n W
    have hlt := Int.emod_lt_of_pos n (show 0 < W by omega)
    have e1 : n - 1 = (n % W - 1) + W * (n / W) := by omega
    rw [e1, Int.add_mul_emod_self_left, Int.emod_eq_of_lt (by omega) (by omega)]
    omega
  · refine .inr (.inl ⟨?_, by omega⟩)
    have := (step_row (W := W) (n := n) (by omega) c).1
    have := Int.emod_nonneg n (show W ≠ 0 by omega)
    omega
  · exact .inl ⟨by omega, by omega⟩
theorem nearOf_eq {W H : Int} {X : List Int} {n : Int} (h : isCell W H X n = true) : nearOf W H X n = near W n X := by unfold nearOf; rw [if_pos h]
theorem nearOf_no {W H : Int} {X : List Int} {n : Int} (h : ¬ isCell W H X n = true) : nearOf W H X n = [] := by unfold nearOf; rw [if_neg h]
theorem nearOf_mem {W H : Int} {X : List Int} {n m : Int} (h : m ∈ nearOf W H X n) : isCell W H X n = true ∧ m ∈ near W n X := by
  by_cases c : isCell W H X n = true
  · rw [nearOf_eq c] at h; exact ⟨c, h⟩
  · rw [nearOf_no c] at h; simp at h
theorem nearOf_open {W H : Int} {X : List Int} {n m : Int} (h : m ∈ nearOf W H X n) : isOpen W H X m = true := by
  obtain ⟨hc, hm⟩ := nearOf_mem h
  obtain ⟨hL, h0, h1⟩ := isCell_of hc
  obtain ⟨i0, i1, i2⟩ := near_in hL h0 h1 hm
  exact isOpen_mk (isCell_mk hL i0 i1) i2
theorem nearOf_apart {W H : Int} {X : List Int} {n m : Int} (h : m ∈ nearOf W H X n) : apart W H X n m = 1 := near_apart (nearOf_mem h).1 (nearOf_mem h).2
theorem nearOf_back {W H : Int} {X : List Int} {n m : Int} (ho : isOpen W H X n = true) (h : m ∈ nearOf W H X n) : n ∈ nearOf W H X m := by
  rw [nearOf_eq (isOpen_of (nearOf_open h)).1]
  exact near_back ho (nearOf_mem h).2
theorem nearOf_asc (W H : Int) (X : List Int) (n : Int) : (nearOf W H X n).Pairwise (· < ·) := by
  by_cases c : isCell W H X n = true
  · rw [nearOf_eq c]; exact near_asc (isLand_of (isCell_of c).1).1.1
  · rw [nearOf_no c]; exact List.Pairwise.nil

theorem sum3 : ∀ X : List Int, (∀ k ∈ X, 0 ≤ k ∧ k ≤ 2) → ((X.filter fun x => x == 0).length : Int) + ((X.filter fun x => x == 1).length : Int) + ((X.filter fun x => x == 2).length : Int) = (X.length : Int) := by
  intro X
  induction X with
  | nil => intro _; rfl
  | cons x X ih =>
    intro hk
    have hx := hk x (by simp)
    have := ih (fun k hk' => hk k (List.mem_cons_of_mem _ hk'))
    have hx3 : x = 0 ∨ x = 1 ∨ x = 2 := by omega
    rcases hx3 with rfl | rfl | rfl <;> simp at this ⊢ <;> omega
theorem count_sum {W H : Int} {X : List Int} (h : isLand W H X = true) : count W H X 0 + count W H X 1 + count W H X 2 = (X.length : Int) := by
  obtain ⟨_, _, _, hk⟩ := isLand_of h
  unfold count
  rw [if_pos h, if_pos h, if_pos h]
  exact sum3 X hk
theorem count_ge (W H : Int) (X : List Int) (k : Int) : 0 ≤ count W H X k ∧ count W H X k ≤ X.length := by
  unfold count
  split
  · have := List.length_filter_le (fun x => x == k) X; omega
  · omega
end Go.Proofs.Ytfccikhmcenanaa.Ld

namespace Go.Proofs.Ytfccikhmcenanaa.Bfs
open Go.RowKit Kit Rw Ld

/-- One cell's neighbours, looked at one by one. -/
theorem Inv.some_near {W H : Int} {X : List Int} {a : Int} {i : Nat} (hL : isLand W H X = true) : ∀ (N : List Int) (d q : List Int), Inv W X a i d q → (hi : i < q.length) → (∀ n ∈ N, n ∈ near W (q.getD i 0) X) →
    ∃ d' q', Inv W X a i d' q' ∧ i < q'.length ∧ q'.getD i 0 = q.getD i 0 ∧ (∀ m : Int, 0 ≤ m → 0 ≤ at' d m → at' d' m = at' d m) ∧ (∀ n ∈ N, 0 ≤ at' d' n ∧ at' d' n ≤ at' d' (q.getD i 0) + 1)
  | [], d, q, h, hi, _ => ⟨d, q, h, hi, rfl, fun _ _ _ => rfl, fun n hn => by simp at hn⟩
  | n :: N, d, q, h, hi, hN => by
    have hm := h.inq _ (mem_getD hi)
    have hnn := hN n (by simp)
    obtain ⟨z0, z1, _⟩ := near_in hL hm.1 hm.2.1 hnn
    by_cases hd : at' d n < 0
    · have h2 := h.meet hL hi hnn hd
      have hg : (q ++ [n]).getD i 0 = q.getD i 0 := getD_append_l hi
      have hset : ∀ m : Int, 0 ≤ m → at' (d.set n.toNat (at' d (q.getD i 0) + 1)) m = if m = n then at' d (q.getD i 0) + 1 else at' d m := fun m hm => at_set z0 (by rw [h.len]; exact z1) hm
      obtain ⟨d', q', h3, hi', hq', hold, hall⟩ := Inv.some_near hL N _ _ h2 (by simp; omega) (fun m hm => by rw [hg]; exact hN m (by simp [hm]))
      have hkeep : ∀ m : Int, 0 ≤ m → 0 ≤ at' d m → at' d' m = at' d m := fun m m0 m1 => by
        have e : at' (d.set n.toNat (at' d (q.getD i 0) + 1)) m = at' d m := by rw [hset m m0, if_neg (fun e => by rw [e] at m1; omega)]
        rw [hold m m0 (by rw [e]; exact m1), e]
      refine ⟨d', q', h3, hi', by rw [hq', hg], hkeep, fun m hm' => ?_⟩
      rcases List.mem_cons.1 hm' with e | hm'
      · subst e
        have e1 : at' (d.set m.toNat (at' d (q.getD i 0) + 1)) m = at' d (q.getD i 0) + 1 := by rw [hset m z0, if_pos rfl]
        have e2 := hold m z0 (by rw [e1]; omega)
        rw [e2, e1, hkeep _ hm.1 hm.2.2]
        omega
      · have := hall m hm'; rwa [hg] at this
    · obtain ⟨d', q', h3, hi', hq', hold, hall⟩ := Inv.some_near hL N d q h hi (fun m hm => hN m (by simp [hm]))
      refine ⟨d', q', h3, hi', hq', hold, fun m hm' => ?_⟩
      rcases List.mem_cons.1 hm' with e | hm'
      · subst e
        rw [hold m z0 (by omega), hold _ hm.1 hm.2.2]
        obtain ⟨k, hk, e⟩ := mem_ix (h.known m z0 z1 (by omega))
        have := h.top hi k hk
        rw [e] at this
        omega
      · exact hall m hm'
theorem Inv.goes {W H : Int} {X : List Int} {a : Int} (hL : isLand W H X = true) : ∀ (k i : Nat) (d q : List Int), Inv W X a i d q → X.length - i = k → ∃ d', IsDist W X a d'
  | k, i, d, q, h, hk => by
    by_cases hi : i < q.length
    · obtain ⟨d', q', h3, hi', hq', _, hall⟩ := h.some_near hL (near W (q.getD i 0) X) d q hi (fun n hn => hn)
      have h4 := h3.next hi' (by rw [hq']; exact hall)
      have := h4.ile
      have := h4.short
      match k, hk with
      | 0, hk => exact absurd hk (by omega)
      | k + 1, hk => exact Inv.goes hL k (i + 1) d' q' h4 (by omega)
    · have : i = q.length := by have := h.ile; omega
      subst this
      exact ⟨d, h.dist⟩
theorem dist_is {W H : Int} {X : List Int} {a : Int} (hL : isLand W H X = true) (h0 : 0 ≤ a) (h1 : a < X.length) : IsDist W X a (distL W X a) := by
  obtain ⟨d, hd⟩ := Inv.goes hL _ 0 _ _ (Inv.start (W := W) h0 h1) rfl
  rw [hd.eq]; exact hd
/-- No days are as many as the cells. -/
theorem Inv.lt {W : Int} {X : List Int} {a : Int} {i : Nat} {d q : List Int} (h : Inv W X a i d q) {n : Int} (h0 : 0 ≤ n) (h1 : n < X.length) (hX : 0 < X.length) : at' d n < X.length := by
  by_cases c : 0 ≤ at' d n
  · obtain ⟨k, hk, e⟩ := mem_ix (h.known n h0 h1 c)
    have := h.bnd k hk
    have := h.short
    rw [e] at *
    omega
  · omega
theorem Inv.goes_lt {W H : Int} {X : List Int} {a : Int} (hL : isLand W H X = true) (hX : 0 < X.length) : ∀ (k i : Nat) (d q : List Int), Inv W X a i d q → X.length - i = k → ∃ d', IsDist W X a d' ∧ ∀ n : Int, 0 ≤ n → n < X.length → at' d' n < X.length
  | k, i, d, q, h, hk => by
    by_cases hi : i < q.length
    · obtain ⟨d', q', h3, hi', hq', _, hall⟩ := h.some_near hL (near W (q.getD i 0) X) d q hi (fun n hn => hn)
      have h4 := h3.next hi' (by rw [hq']; exact hall)
      have := h4.ile
      have := h4.short
      match k, hk with
      | 0, hk => exact absurd hk (by omega)
      | k + 1, hk => exact Inv.goes_lt hL hX k (i + 1) d' q' h4 (by omega)
    · have : i = q.length := by have := h.ile; omega
      subst this
      exact ⟨d, h.dist, fun n h0 h1 => h.lt h0 h1 hX⟩
theorem dist_lt {W H : Int} {X : List Int} {a : Int} (hL : isLand W H X = true) (h0 : 0 ≤ a) (h1 : a < X.length) {n : Int} (n0 : 0 ≤ n) (n1 : n < X.length) : at' (distL W X a) n < X.length := by
  obtain ⟨d, hd, hb⟩ := Inv.goes_lt hL (by omega) _ 0 _ _ (Inv.start (W := W) h0 h1) rfl
  rw [hd.eq]; exact hb n n0 n1

/-- The days up to D; -1 beyond. -/
def cut (D : Int) (L : List Int) : List Int := L.map (fun x => if x ≤ D then x else -1)
theorem cut_at {D : Int} {L : List Int} {n : Int} (h0 : 0 ≤ n) (h1 : n < L.length) : at' (cut D L) n = if at' L n ≤ D then at' L n else -1 := by
  unfold at' cut
  have : n.toNat < L.length := by omega
  simp [this]
theorem cut_all {D : Int} {L : List Int} (h : ∀ n : Int, 0 ≤ n → n < L.length → at' L n ≤ D) : cut D L = L := by
  refine List.ext_getElem (by simp [cut]) fun i h1 h2 => ?_
  have := h i (by omega) (by omega)
  simp only [at', Int.toNat_natCast] at this
  simp only [cut, List.getElem_map]
  rw [if_pos (by simpa [h2] using this)]
theorem list_at {X Y : List Int} (h : X.length = Y.length) (he : ∀ n : Int, 0 ≤ n → n < Y.length → at' X n = at' Y n) : X = Y := by
  refine List.ext_getElem h fun i h1 h2 => ?_
  have := he i (by omega) (by omega)
  simpa [at', h1, h2] using this
/-- A search that ended at its queue's end, no day beyond D. -/
theorem Inv.all {W : Int} {X : List Int} {a D : Int} {i : Nat} {d q : List Int} (h : Inv W X a i d q) (hi : ¬ i < q.length) (hc : ∀ n ∈ q, at' d n ≤ D) (hD : 0 ≤ D) : d = cut D (distL W X a) := by
  have e : i = q.length := by have := h.ile; omega
  subst e
  rw [h.dist.eq]
  refine (cut_all fun n h0 h1 => ?_).symm
  by_cases c : 0 ≤ at' d n
  · exact hc n (h.known n h0 (by rw [← h.len]; exact h1) c)
  · omega
/-- A search that stopped at the first cell that is D days far. -/
theorem Inv.stop {W H : Int} {X : List Int} {a D : Int} {i : Nat} {d q : List Int} (h : Inv W X a i d q) (hL : isLand W H X = true) (hi : i < q.length) (hc : ∀ n ∈ q, at' d n ≤ D) (hs : D ≤ at' d (q.getD i 0)) : d = cut D (distL W X a) := by
  have ha := h.inq a h.aq
  have hX := dist_is hL ha.1 ha.2.1
  obtain ⟨e, he⟩ : ∃ e, e = distL W X a := ⟨_, rfl⟩
  rw [← he] at hX ⊢
  have up : ∀ (k : Nat) (n : Int), 0 ≤ n → n < X.length → at' d n = k → 0 ≤ at' e n ∧ at' e n ≤ k := by
    intro k
    induction k with
    | zero =>
      intro n h0 h1 hk
      by_cases hn : n = a
      · subst hn; rw [hX.src]; omega
      · obtain ⟨m, m0, m1, m2, _, m4⟩ := h.pre n h0 h1 hn (by omega)
        omega
    | succ k ih =>
      intro n h0 h1 hk
      by_cases hn : n = a
      · subst hn; rw [hX.src]; omega
      · obtain ⟨m, m0, m1, m2, m3, m4⟩ := h.pre n h0 h1 hn (by omega)
        obtain ⟨i1, i2⟩ := ih m m0 m1 (by omega)
        obtain ⟨j1, j2⟩ := hX.nxt m m0 m1 i1 n m3
        omega
  have down : ∀ (k : Nat) (n : Int), 0 ≤ n → n < X.length → at' e n = k → (k : Int) ≤ D → 0 ≤ at' d n ∧ at' d n ≤ k := by
    intro k
    induction k with
    | zero =>
      intro n h0 h1 hk _
      by_cases hn : n = a
      · subst hn; rw [h.src]; omega
      · obtain ⟨m, m0, m1, m2, _, m4⟩ := hX.pre n h0 h1 hn (by omega)
        omega
    | succ k ih =>
      intro n h0 h1 hk hkD
      by_cases hn : n = a
      · subst hn; rw [h.src]; omega
      · obtain ⟨m, m0, m1, m2, m3, m4⟩ := hX.pre n h0 h1 hn (by omega)
        obtain ⟨i1, i2⟩ := ih m m0 m1 (by omega) (by omega)
        obtain ⟨j, hj, ej⟩ := mem_ix (h.known m m0 m1 i1)
        have hji : j < i := by
          by_cases c : j < i
          · exact c
          · have := h.mono i j (by omega) hj
            rw [ej] at this
            omega
        have := h.done j hji n (by rw [ej]; exact m3)
        rw [ej] at this
        omega
  refine list_at (by rw [h.len]; simp [cut, hX.len]) fun n n0 n1 => ?_
  have n2 : n < X.length := by simpa [cut, hX.len] using n1
  rw [cut_at n0 (by rw [hX.len]; exact n2)]
  have l := h.low n n0 n2
  have l' := hX.low n n0 n2
  by_cases c : 0 ≤ at' d n
  · obtain ⟨k, hk⟩ : ∃ k : Nat, at' d n = k := ⟨(at' d n).toNat, by omega⟩
    obtain ⟨u1, u2⟩ := up k n n0 n2 hk
    have := hc n (h.known n n0 n2 c)
    obtain ⟨k', hk'⟩ : ∃ k : Nat, at' e n = k := ⟨(at' e n).toNat, by omega⟩
    obtain ⟨v1, v2⟩ := down k' n n0 n2 hk' (by omega)
    rw [if_pos (by omega)]
    omega
  · by_cases c' : 0 ≤ at' e n ∧ at' e n ≤ D
    · obtain ⟨k', hk'⟩ : ∃ k : Nat, at' e n = k := ⟨(at' e n).toNat, by omega⟩
      obtain ⟨v1, v2⟩ := down k' n n0 n2 hk' (by omega)
      omega
    · split <;> omega
end Go.Proofs.Ytfccikhmcenanaa.Bfs

namespace Go.Proofs.Ytfccikhmcenanaa.Wf
open Go.RowKit Kit Rw Ld Bfs

noncomputable def daysOf (W H : Int) (X : List Int) (a b : Int) : Int := if isOpen W H X a = true ∧ isOpen W H X b = true then at' (distL W X a) b else -1
def nearerOf (W : Int) (X d : List Int) (n : Int) : Int := ((near W n X).find? (fun m => at' d m == at' d n - 1)).getD n
def wayFrom (W : Int) (X d : List Int) : Nat → Int → List Int
  | 0, _ => []
  | k + 1, n => n :: wayFrom W X d k (nearerOf W X d n)
noncomputable def wayOf (W H : Int) (X : List Int) (a b : Int) : List Int := if isOpen W H X a = true ∧ isOpen W H X b = true then wayFrom W X (distL W X b) (at' (distL W X b) a + 1).toNat a else []
def inReach (d : List Int) (D : Int) (i : Nat) : Bool := decide (0 ≤ at' d (i : Int) ∧ at' d (i : Int) ≤ D)
def reachTo (d : List Int) (D : Int) (k : Nat) : List Int := ((List.range k).filter (inReach d D)).map (fun i : Nat => (i : Int))
noncomputable def reachOf (W H : Int) (X : List Int) (a D : Int) : List Int := if isOpen W H X a = true then reachTo (distL W X a) D X.length else []
/-- Each cell is open, and each one near the one before. -/
def IsWayP (W H : Int) (X L : List Int) : Prop := 0 < L.length ∧ (∀ i, i < L.length → isOpen W H X (L.getD i 0) = true) ∧ ∀ i, i + 1 < L.length → L.getD (i + 1) 0 ∈ near W (L.getD i 0) X
open Classical in
noncomputable def isWayOf (W H : Int) (X L : List Int) : Bool := decide (IsWayP W H X L)
theorem isWayOf_yes {W H : Int} {X L : List Int} (h : IsWayP W H X L) : isWayOf W H X L = true := @decide_eq_true _ (Classical.propDecidable _) h
theorem isWayOf_no {W H : Int} {X L : List Int} (h : ¬ IsWayP W H X L) : isWayOf W H X L = false := @decide_eq_false _ (Classical.propDecidable _) h
/-- The least of the farthest. -/
structure FarP (d : List Int) (r : Int) : Prop where
  lo : 0 ≤ r
  hi : r < d.length
  max : ∀ i : Int, 0 ≤ i → i < d.length → at' d i ≤ at' d r
  fst : ∀ i : Int, 0 ≤ i → i < r → at' d i < at' d r
theorem FarP.same {d : List Int} {r s : Int} (h : FarP d r) (k : FarP d s) : r = s := by
  have a := h.max s k.lo k.hi
  have b := k.max r h.lo h.hi
  rcases Int.lt_trichotomy r s with c | c | c
  · have := k.fst r h.lo c; omega
  · exact c
  · have := h.fst s k.lo c; omega
open Classical in
noncomputable def farOf (W H : Int) (X : List Int) (a : Int) : Int := if isOpen W H X a = true then (if h : ∃ r, FarP (distL W X a) r then h.choose else -1) else -1
theorem farOf_eq {W H : Int} {X : List Int} {a r : Int} (ho : isOpen W H X a = true) (h : FarP (distL W X a) r) : farOf W H X a = r := by
  have hx : ∃ r, FarP (distL W X a) r := ⟨r, h⟩
  unfold farOf
  rw [if_pos ho, dif_pos hx]
  exact hx.choose_spec.same h
theorem reachTo_len (d : List Int) (D : Int) (k : Nat) : (reachTo d D k).length ≤ k := by
  have := List.length_filter_le (inReach d D) (List.range k)
  simpa [reachTo] using this
theorem reachTo_add (d : List Int) (D : Int) (k : Nat) : reachTo d D (k + 1) = reachTo d D k ++ (if inReach d D k = true then [(k : Int)] else []) := by
  unfold reachTo
  rw [List.range_succ, List.filter_append, List.map_append]
  congr 1
  by_cases h : inReach d D k = true
  · rw [if_pos h]; simp [h]
  · rw [if_neg h]; simp [h]
theorem wayFrom_len (W : Int) (X d : List Int) : ∀ (k : Nat) (n : Int), (wayFrom W X d k n).length = k
  | 0, _ => rfl
  | k + 1, n => by simp [wayFrom, wayFrom_len W X d k]
/-- The k-th cell of a way. -/
def wayAt (W : Int) (X d : List Int) : Nat → Int → Int
  | 0, n => n
  | k + 1, n => nearerOf W X d (wayAt W X d k n)
theorem wayAt_next (W : Int) (X d : List Int) : ∀ (k : Nat) (n : Int), wayAt W X d (k + 1) n = wayAt W X d k (nearerOf W X d n)
  | 0, _ => rfl
  | k + 1, n => by
    have := wayAt_next W X d k n
    simp only [wayAt] at this ⊢
    rw [this]
theorem wayFrom_add (W : Int) (X d : List Int) : ∀ (k : Nat) (n : Int), wayFrom W X d (k + 1) n = wayFrom W X d k n ++ [wayAt W X d k n]
  | 0, n => rfl
  | k + 1, n => by
    show n :: wayFrom W X d (k + 1) (nearerOf W X d n) = n :: wayFrom W X d k (nearerOf W X d n) ++ [wayAt W X d (k + 1) n]
    rw [wayFrom_add W X d k, wayAt_next]
    rfl
end Go.Proofs.Ytfccikhmcenanaa.Wf

namespace Go.Proofs.Ytfccikhmcenanaa.Wf
open Go.RowKit Kit Rw Ld Bfs

theorem wb_new {w : World} {W H : Int} {v : Value} {X : List Int} (hv : Sees .i64 w v X) : Box (w.alloc (.cells #[.int .i64 W, .int .i64 H, v] 26 (0, 0))) w.heap.size #[.int .i64 W, .int .i64 H, v] 26 ∧ Sees .i64 (w.alloc (.cells #[.int .i64 W, .int .i64 H, v] 26 (0, 0))) v X ∧ w.grownBy (w.alloc (.cells #[.int .i64 W, .int .i64 H, v] 26 (0, 0))) none :=
  ⟨box_new _ _ _, hv.grown (World.grownBy_alloc _ _ none), World.grownBy_alloc _ _ none⟩
theorem open_nat {W H a : Int} {X : List Int} (h : isOpen W H X a = true) : ∃ p h' n : Nat, W = p ∧ H = h' ∧ a = n ∧ n < X.length ∧ isLand p h' X = true ∧ X.length ≤ 64 ∧ 1 ≤ X.length := by
  obtain ⟨hc, _⟩ := isOpen_of h
  obtain ⟨hL, h0, h1⟩ := isCell_of hc
  obtain ⟨hW, hH, hLen, _⟩ := isLand_of hL
  have := area hW hH
  exact ⟨W.toNat, H.toNat, a.toNat, by omega, by omega, by omega, by omega, by rw [show ((W.toNat : Nat) : Int) = W by omega, show ((H.toNat : Nat) : Int) = H by omega]; exact hL, by omega, by omega⟩
theorem reachOf_len (W H : Int) (X : List Int) (a D : Int) : (reachOf W H X a D).length ≤ X.length := by
  unfold reachOf
  split
  · exact reachTo_len _ _ _
  · simp
theorem wayOf_len (W H : Int) (X : List Int) (a b : Int) : (wayOf W H X a b).length ≤ 65 := by
  unfold wayOf
  split
  · rename_i h
    rw [wayFrom_len]
    obtain ⟨p, q, n, rfl, rfl, rfl, hn, hL, h64, _⟩ := open_nat h.1
    obtain ⟨p', q', m, e1, e2, rfl, hm, _, _, _⟩ := open_nat h.2
    have := dist_lt hL (a := (m : Int)) (by omega) (by omega) (n := (n : Int)) (by omega) (by omega)
    omega
  · simp
theorem near_self {W a : Int} {X : List Int} (hW : 1 ≤ W) : a ∉ near W a X := fun h => by
  obtain ⟨_, h⟩ := near_ways h
  omega
end Go.Proofs.Ytfccikhmcenanaa.Wf

namespace Go.Proofs.Ytfccikhmcenanaa.Wf
open Go.RowKit Kit Rw Ld Bfs Gr

/-- Where there is a way to, one can be. -/
theorem dist_open {p h a : Nat} {X : List Int} (ho : isOpen p h X a = true) {n : Int} (n0 : 0 ≤ n) (n1 : n < X.length) (hd : 0 ≤ at' (distL p X a) n) : isOpen p h X n = true := by
  obtain ⟨hc, h2⟩ := isOpen_of ho
  obtain ⟨hL, h0, h1⟩ := isCell_of hc
  have D := dist_is hL h0 h1
  by_cases hna : n = a
  · rw [hna]; exact ho
  · obtain ⟨m, m0, m1, _, m3, _⟩ := D.pre n n0 n1 hna hd
    have := near_in hL m0 m1 m3
    exact isOpen_mk (isCell_mk hL n0 n1) this.2.2
/-- The next cell of a way is a day nearer. -/
theorem nearer_day {p h a : Nat} {X : List Int} (ho : isOpen p h X a = true) {n : Int} (n0 : 0 ≤ n) (n1 : n < X.length) (hd : 0 ≤ at' (distL p X a) n) (hna : n ≠ a) :
    at' (distL p X a) (nearerOf p X (distL p X a) n) = at' (distL p X a) n - 1 ∧ nearerOf p X (distL p X a) n ∈ near p n X := by
  obtain ⟨hc, h2⟩ := isOpen_of ho
  obtain ⟨hL, h0, h1⟩ := isCell_of hc
  have D := dist_is hL h0 h1
  obtain ⟨m, m0, m1, m2, m3, m4⟩ := D.pre n n0 n1 hna hd
  have hb := near_back (dist_open ho m0 m1 m2) m3
  unfold nearerOf
  cases hf : (near p n X).find? (fun m => at' (distL p X a) m == at' (distL p X a) n - 1) with
  | none =>
    rw [List.find?_eq_none] at hf
    have := hf m hb
    simp at this
    omega
  | some x =>
    have h3 := List.find?_some hf
    simp at h3
    exact ⟨by simp; omega, List.mem_of_find?_eq_some hf⟩
/-- At its end nothing is nearer. -/
theorem nearer_end {p h a : Nat} {X : List Int} (ho : isOpen p h X a = true) : nearerOf p X (distL p X a) a = a := by
  obtain ⟨hc, h2⟩ := isOpen_of ho
  obtain ⟨hL, h0, h1⟩ := isCell_of hc
  have D := dist_is hL h0 h1
  unfold nearerOf
  cases hf : (near p a X).find? (fun m => at' (distL p X a) m == at' (distL p X a) a - 1) with
  | none => rfl
  | some x =>
    have h3 := List.find?_some hf
    have := D.nxt a h0 h1 (by rw [D.src]; omega) x (List.mem_of_find?_eq_some hf)
    simp [D.src] at h3
    omega
/-- From one to another by way of a third. -/
theorem dist_tri {p h : Nat} {X : List Int} (hL : isLand p h X = true) {a b : Int} (a0 : 0 ≤ a) (a1 : a < X.length) (b0 : 0 ≤ b) (b1 : b < X.length) (hab : 0 ≤ at' (distL p X a) b) : ∀ (k : Nat) (n : Int), 0 ≤ n → n < X.length → at' (distL p X b) n = k → 0 ≤ at' (distL p X a) n ∧ at' (distL p X a) n ≤ at' (distL p X a) b + k := by
  have A := dist_is hL a0 a1
  have B := dist_is hL b0 b1
  intro k
  induction k with
  | zero =>
    intro n h0 h1 hk
    by_cases hn : n = b
    · subst hn; omega
    · obtain ⟨m, m0, m1, m2, _, m4⟩ := B.pre n h0 h1 hn (by omega)
      omega
  | succ k ih =>
    intro n h0 h1 hk
    by_cases hn : n = b
    · subst hn; omega
    · obtain ⟨m, m0, m1, m2, m3, m4⟩ := B.pre n h0 h1 hn (by omega)
      obtain ⟨i1, i2⟩ := ih m m0 m1 (by omega)
      obtain ⟨j1, j2⟩ := A.nxt m m0 m1 i1 n m3
      omega
theorem dist_back {p h a : Nat} {X : List Int} (ho : isOpen p h X a = true) : ∀ (k : Nat) (n : Int), 0 ≤ n → n < X.length → at' (distL p X a) n = k → 0 ≤ at' (distL p X n) a ∧ at' (distL p X n) a ≤ k := by
  obtain ⟨hc, h2⟩ := isOpen_of ho
  obtain ⟨hL, h0, h1⟩ := isCell_of hc
  have A := dist_is hL h0 h1
  intro k
  induction k with
  | zero =>
    intro n n0 n1 hk
    by_cases hn : n = a
    · subst hn; rw [A.src]; omega
    · obtain ⟨m, m0, m1, m2, _, m4⟩ := A.pre n n0 n1 hn (by omega)
      omega
  | succ k ih =>
    intro n n0 n1 hk
    by_cases hn : n = a
    · subst hn; rw [A.src]; omega
    · obtain ⟨m, m0, m1, m2, m3, m4⟩ := A.pre n n0 n1 hn (by omega)
      obtain ⟨i1, i2⟩ := ih m m0 m1 (by omega)
      have hb := near_back (dist_open ho m0 m1 m2) m3
      have N := dist_is hL n0 n1
      have hs := N.src
      obtain ⟨j1, j2⟩ := N.nxt n n0 n1 (by omega) m hb
      obtain ⟨q, hq⟩ : ∃ q : Nat, at' (distL p X m) a = q := ⟨(at' (distL p X m) a).toNat, by omega⟩
      have := dist_tri hL n0 n1 m0 m1 j1 q a h0 h1 hq
      omega
/-- As far there as back. -/
theorem dist_sym {W H a b : Int} {X : List Int} (ha : isOpen W H X a = true) (hb : isOpen W H X b = true) : at' (distL W X a) b = at' (distL W X b) a := by
  obtain ⟨p, h, n, rfl, rfl, rfl, hn, hL, h64, _⟩ := open_nat ha
  obtain ⟨p', q', m, e1, e2, rfl, hm, _, _, _⟩ := open_nat hb
  have A := dist_is hL (a := (n : Int)) (by omega) (by omega)
  have B := dist_is hL (a := (m : Int)) (by omega) (by omega)
  have la := A.low (m : Int) (by omega) (by omega)
  have lb := B.low (n : Int) (by omega) (by omega)
  by_cases c : 0 ≤ at' (distL p X n) (m : Int)
  · obtain ⟨k, hk⟩ : ∃ k : Nat, at' (distL p X n) (m : Int) = k := ⟨(at' (distL p X n) (m : Int)).toNat, by omega⟩
    obtain ⟨u1, u2⟩ := dist_back ha k (m : Int) (by omega) (by omega) hk
    obtain ⟨k', hk'⟩ : ∃ k : Nat, at' (distL p X m) (n : Int) = k := ⟨(at' (distL p X m) (n : Int)).toNat, by omega⟩
    obtain ⟨v1, v2⟩ := dist_back hb k' (n : Int) (by omega) (by omega) hk'
    omega
  · by_cases c' : 0 ≤ at' (distL p X m) (n : Int)
    · obtain ⟨k', hk'⟩ : ∃ k : Nat, at' (distL p X m) (n : Int) = k := ⟨(at' (distL p X m) (n : Int)).toNat, by omega⟩
      obtain ⟨v1, v2⟩ := dist_back hb k' (n : Int) (by omega) (by omega) hk'
      omega
    · omega
theorem apart_near {W H : Int} {X : List Int} {a b : Int} (ha : isOpen W H X a = true) (hb : isOpen W H X b = true) (h : apart W H X a b = 1) : b ∈ near W a X := by
  obtain ⟨ca, _⟩ := isOpen_of ha
  obtain ⟨cb, b2⟩ := isOpen_of hb
  obtain ⟨hL, a0, a1⟩ := isCell_of ca
  obtain ⟨_, b0, b1⟩ := isCell_of cb
  obtain ⟨hW, hH, hLen, _⟩ := isLand_of hL
  unfold apart at h
  rw [if_pos ⟨ca, cb⟩] at h
  refine near_mk b2 ?_
  obtain ⟨p, rfl⟩ : ∃ p : Nat, W = p := ⟨W.toNat, by omega⟩
  unfold mx at h
  rcases cases8 (p := p) (by omega) with rfl | rfl | rfl | rfl | rfl | rfl | rfl | rfl <;> (split at h <;> split at h <;> omega)
theorem apart_one {W H : Int} {X : List Int} {a b : Int} (ha : isOpen W H X a = true) (hb : isOpen W H X b = true) : apart W H X a b = 1 ↔ b ∈ near W a X :=
  ⟨apart_near ha hb, near_apart (isOpen_of ha).1⟩
end Go.Proofs.Ytfccikhmcenanaa.Wf

namespace Go.Proofs.Ytfccikhmcenanaa.Wf
open Go.RowKit Kit Rw Ld Bfs Gr

theorem daysOf_low (W H : Int) (X : List Int) (a b : Int) : -1 ≤ daysOf W H X a b := by
  unfold daysOf
  split
  · rename_i h
    obtain ⟨p, q, n, rfl, rfl, rfl, hn, hL, _⟩ := open_nat h.1
    obtain ⟨p', q', m, e1, e2, rfl, hm, _⟩ := open_nat h.2
    exact (dist_is hL (a := (n : Int)) (by omega) (by omega)).low m (by omega) (by omega)
  · omega
theorem daysOf_high (W H : Int) (X : List Int) (a b : Int) : daysOf W H X a b ≤ 64 := by
  unfold daysOf
  split
  · rename_i h
    obtain ⟨p, q, n, rfl, rfl, rfl, hn, hL, h64, _⟩ := open_nat h.1
    obtain ⟨p', q', m, e1, e2, rfl, hm, _⟩ := open_nat h.2
    have := dist_lt hL (a := (n : Int)) (by omega) (by omega) (n := (m : Int)) (by omega) (by omega)
    omega
  · omega
theorem daysOf_sym (W H : Int) (X : List Int) (a b : Int) : daysOf W H X a b = daysOf W H X b a := by
  unfold daysOf
  by_cases h : isOpen W H X a = true ∧ isOpen W H X b = true
  · rw [if_pos h, if_pos ⟨h.2, h.1⟩]; exact dist_sym h.1 h.2
  · rw [if_neg h, if_neg (fun k => h ⟨k.2, k.1⟩)]
theorem daysOf_pos {W H : Int} {X : List Int} {a b : Int} (h : 0 ≤ daysOf W H X a b) : isOpen W H X a = true ∧ isOpen W H X b = true ∧ daysOf W H X a b = at' (distL W X b) a := by
  unfold daysOf at h ⊢
  split at h
  · rename_i k; rw [if_pos k]; exact ⟨k.1, k.2, dist_sym k.1 k.2⟩
  · omega
theorem wayOf_days (W H : Int) (X : List Int) (a b : Int) : ((wayOf W H X a b).length : Int) = daysOf W H X a b + 1 := by
  unfold wayOf
  by_cases h : isOpen W H X a = true ∧ isOpen W H X b = true
  · rw [if_pos h, wayFrom_len]
    have h1 := daysOf_low W H X a b
    unfold daysOf at h1 ⊢
    rw [if_pos h, dist_sym h.1 h.2] at h1 ⊢
    omega
  · rw [if_neg h]
    unfold daysOf
    rw [if_neg h]; rfl
theorem wayFrom_at (W : Int) (X d : List Int) : ∀ (k i : Nat) (n : Int), i < k → (wayFrom W X d k n).getD i 0 = wayAt W X d i n
  | 0, i, _, h => absurd h (Nat.not_lt_zero _)
  | k + 1, 0, n, _ => rfl
  | k + 1, i + 1, n, h => by
    rw [wayAt_next]
    exact wayFrom_at W X d k i _ (by omega)
theorem wayFrom_drop (W : Int) (X d : List Int) : ∀ (i k : Nat) (n : Int), (wayFrom W X d (i + k) n).drop i = wayFrom W X d k (wayAt W X d i n)
  | 0, k, n => by simp [wayAt]
  | i + 1, k, n => by
    rw [show i + 1 + k = (i + k) + 1 by omega, wayAt_next]
    exact wayFrom_drop W X d i k _
/-- Along a way the days go down one by one. -/
theorem wayAt_days {p h a : Nat} {X : List Int} (ho : isOpen p h X a = true) {n : Int} (n0 : 0 ≤ n) (n1 : n < X.length) (hd : 0 ≤ at' (distL p X a) n) : ∀ i : Nat, (i : Int) ≤ at' (distL p X a) n →
    at' (distL p X a) (wayAt p X (distL p X a) i n) = at' (distL p X a) n - i ∧ 0 ≤ wayAt p X (distL p X a) i n ∧ wayAt p X (distL p X a) i n < X.length ∧ isOpen p h X (wayAt p X (distL p X a) i n) = true
  | 0, _ => ⟨by simp [wayAt], n0, n1, dist_open ho n0 n1 hd⟩
  | i + 1, hi => by
    obtain ⟨h1, h2, h3, _⟩ := wayAt_days ho n0 n1 hd i (by omega)
    have hc := (isOpen_of ho).1
    obtain ⟨hL, a0, a1⟩ := isCell_of hc
    have hne : wayAt p X (distL p X a) i n ≠ a := fun e => by
      rw [e, (dist_is hL a0 a1).src] at h1; omega
    have hk := nearer_day ho h2 h3 (by omega) hne
    have hin := near_in hL h2 h3 hk.2
    simp only [wayAt]
    refine ⟨by rw [hk.1]; omega, hin.1, hin.2.1, dist_open ho hin.1 hin.2.1 (by rw [hk.1]; omega)⟩
theorem wayAt_near {p h a : Nat} {X : List Int} (ho : isOpen p h X a = true) {n : Int} (n0 : 0 ≤ n) (n1 : n < X.length) (hd : 0 ≤ at' (distL p X a) n) (i : Nat) (hi : (i : Int) + 1 ≤ at' (distL p X a) n) :
    wayAt p X (distL p X a) (i + 1) n ∈ near p (wayAt p X (distL p X a) i n) X := by
  obtain ⟨h1, h2, h3, _⟩ := wayAt_days ho n0 n1 hd i (by omega)
  have hc := (isOpen_of ho).1
  obtain ⟨hL, a0, a1⟩ := isCell_of hc
  have hne : wayAt p X (distL p X a) i n ≠ a := fun e => by rw [e, (dist_is hL a0 a1).src] at h1; omega
  simp only [wayAt]
  exact (nearer_day ho h2 h3 (by omega) hne).2
theorem dist_zero {p h a : Nat} {X : List Int} (ho : isOpen p h X a = true) {n : Int} (n0 : 0 ≤ n) (n1 : n < X.length) (hd : at' (distL p X a) n = 0) : n = a := by
  obtain ⟨hL, a0, a1⟩ := isCell_of (isOpen_of ho).1
  by_cases e : n = a
  · exact e
  · obtain ⟨m, _, _, m2, _, m4⟩ := (dist_is hL a0 a1).pre n n0 n1 e (by omega)
    omega
/-- A way from a to b, as the law has it. -/
structure WayP (W H : Int) (X : List Int) (a b : Int) (d : Nat) (L : List Int) : Prop where
  len : L.length = d + 1
  way : isWayOf W H X L = true
  first : L.getD 0 0 = a
  last : L.getD d 0 = b
  far : apart W H X a b ≤ d
  days : ∀ i, i ≤ d → daysOf W H X (L.getD i 0) b = (d : Int) - i
  rest : ∀ i, i ≤ d → wayOf W H X (L.getD i 0) b = L.drop i
theorem apart_tri {p h : Nat} {X : List Int} {a m n : Int} (hc : isCell p h X a = true) (hm : isCell p h X m = true) (hn : isCell p h X n = true) : apart p h X a n ≤ apart p h X a m + apart p h X m n := by
  unfold apart
  rw [if_pos ⟨hc, hn⟩, if_pos ⟨hc, hm⟩, if_pos ⟨hm, hn⟩]
  unfold mx
  generalize a % (p : Int) = x1
  generalize m % (p : Int) = x2
  generalize n % (p : Int) = x3
  generalize a / (p : Int) = y1
  generalize m / (p : Int) = y2
  generalize n / (p : Int) = y3
  split <;> split <;> split <;> split <;> split <;> split <;> omega
theorem apart_dist {p h a : Nat} {X : List Int} (ho : isOpen p h X a = true) : ∀ (k : Nat) (n : Int), 0 ≤ n → n < X.length → at' (distL p X a) n = k → apart p h X a n ≤ k := by
  obtain ⟨hL, a0, a1⟩ := isCell_of (isOpen_of ho).1
  intro k
  induction k with
  | zero =>
    intro n n0 n1 hk
    have := dist_zero ho n0 n1 hk
    subst this
    rw [apart_self (isOpen_of ho).1]; omega
  | succ k ih =>
    intro n n0 n1 hk
    by_cases e : n = a
    · subst e; rw [apart_self (isOpen_of ho).1]; omega
    · obtain ⟨m, m0, m1, m2, m3, m4⟩ := (dist_is hL a0 a1).pre n n0 n1 e (by omega)
      have h1 := ih m m0 m1 (by omega)
      have cm := isCell_mk hL m0 m1
      have h2 := near_apart cm m3
      have := apart_tri (isOpen_of ho).1 cm (isCell_mk hL n0 n1)
      omega
theorem wayP {W H : Int} {X : List Int} {a b : Int} {d : Nat} (h : daysOf W H X a b = d) : WayP W H X a b d (wayOf W H X a b) := by
  obtain ⟨ha, hb, hd⟩ := daysOf_pos (by rw [h]; omega)
  rw [hd] at h
  obtain ⟨p, q, n, rfl, rfl, rfl, hn, hL, h64, _⟩ := open_nat ha
  obtain ⟨p', q', m, e1, e2, rfl, hm, _⟩ := open_nat hb
  have hw : wayOf p q X n m = wayFrom p X (distL p X m) (d + 1) n := by
    unfold wayOf
    rw [if_pos ⟨ha, hb⟩, h]
    congr 1
  have hwd := fun i (hi : i ≤ d) => wayAt_days hb (n := (n : Int)) (by omega) (by omega) (by rw [h]; omega) i (by rw [h]; omega)
  have hat : ∀ i, i ≤ d → (wayFrom p X (distL p X m) (d + 1) n).getD i 0 = wayAt p X (distL p X m) i n := fun i hi => wayFrom_at _ _ _ _ _ _ (by omega)
  rw [hw]
  refine ⟨wayFrom_len _ _ _ _ _, isWayOf_yes ⟨by rw [wayFrom_len]; omega, fun i hi => ?_, fun i hi => ?_⟩, hat 0 (by omega), ?_, ?_, fun i hi => ?_, fun i hi => ?_⟩
  · rw [wayFrom_len] at hi
    rw [hat i (by omega)]; exact (hwd i (by omega)).2.2.2
  · rw [wayFrom_len] at hi
    rw [hat i (by omega), hat (i + 1) (by omega)]
    exact wayAt_near hb (n := (n : Int)) (by omega) (by omega) (by rw [h]; omega) i (by rw [h]; omega)
  · rw [hat d (by omega)]
    have := hwd d (by omega)
    exact dist_zero hb this.2.1 this.2.2.1 (by rw [this.1, h]; omega)
  · rw [apart_comm]; exact apart_dist hb d n (by omega) (by omega) h
  · rw [hat i hi]
    have := hwd i hi
    rw [daysOf, if_pos ⟨this.2.2.2, hb⟩, dist_sym this.2.2.2 hb, this.1, h]
  · rw [hat i hi]
    have := hwd i hi
    unfold wayOf
    rw [if_pos ⟨this.2.2.2, hb⟩, this.1, h]
    have e := wayFrom_drop p X (distL p X m) i (d + 1 - i) n
    rw [show i + (d + 1 - i) = d + 1 by omega] at e
    rw [e]
    congr 1
    omega
/-- What lies near the beginning of a way. -/
theorem near_days {W H : Int} {X : List Int} {a b m : Int} {d : Nat} (h : daysOf W H X a b = d) (hm : m ∈ nearOf W H X a) : (d : Int) - 1 ≤ daysOf W H X m b ∧ 0 ≤ daysOf W H X m b := by
  obtain ⟨ha, hb, hd⟩ := daysOf_pos (by rw [h]; omega)
  rw [hd] at h
  have hmo := nearOf_open hm
  have hmn := (nearOf_mem hm).2
  obtain ⟨p, q, n, rfl, rfl, rfl, hn, hL, h64, _⟩ := open_nat ha
  obtain ⟨p', q', k, e1, e2, rfl, hk, _⟩ := open_nat hb
  obtain ⟨_, m0, m1⟩ := isCell_of (isOpen_of hmo).1
  have D := dist_is hL (a := (k : Int)) (by omega) (by omega)
  have h1 := D.nxt n (by omega) (by omega) (by rw [h]; omega) m hmn
  have h2 := D.nxt m m0 m1 h1.1 n (near_back ha hmn)
  unfold daysOf
  rw [if_pos ⟨hmo, hb⟩, dist_sym hmo hb]
  omega
theorem reachTo_asc (d : List Int) (D : Int) : ∀ k, (reachTo d D k).Pairwise (· < ·) ∧ ∀ x ∈ reachTo d D k, x < (k : Int)
  | 0 => by simp [reachTo]
  | k + 1 => by
    obtain ⟨h1, h2⟩ := reachTo_asc d D k
    rw [reachTo_add]
    split
    · refine ⟨List.pairwise_append.2 ⟨h1, by simp, fun x hx y hy => by simp at hy; subst hy; exact h2 x hx⟩, fun x hx => ?_⟩
      rcases List.mem_append.1 hx with hx | hx
      · have := h2 x hx; omega
      · simp at hx; omega
    · rw [List.append_nil]
      exact ⟨h1, fun x hx => by have := h2 x hx; omega⟩
theorem reachOf_asc (W H : Int) (X : List Int) (a D : Int) : (reachOf W H X a D).Pairwise (· < ·) := by
  unfold reachOf
  split
  · exact (reachTo_asc _ _ _).1
  · simp
theorem reachOf_sub {W H : Int} {X : List Int} {a D E : Int} (h : D ≤ E) : ∀ x ∈ reachOf W H X a D, x ∈ reachOf W H X a E := by
  unfold reachOf
  split
  · intro x hx
    unfold reachTo at hx ⊢
    obtain ⟨i, hi, rfl⟩ := List.mem_map.1 hx
    refine List.mem_map.2 ⟨i, List.mem_filter.2 ⟨(List.mem_filter.1 hi).1, ?_⟩, rfl⟩
    have := (List.mem_filter.1 hi).2
    unfold inReach at this ⊢
    rw [decide_eq_true_eq] at this ⊢
    omega
  · simp
theorem exists_far (d : List Int) : ∀ k : Nat, 0 < k → k ≤ d.length → ∃ r : Nat, r < k ∧ (∀ i : Nat, i < k → at' d i ≤ at' d r) ∧ ∀ i : Nat, i < r → at' d i < at' d r
  | 0, h, _ => absurd h (Nat.not_lt_zero _)
  | 1, _, _ => ⟨0, by omega, fun i hi => by rw [show i = 0 by omega]; exact Int.le_refl _, fun i hi => absurd hi (Nat.not_lt_zero _)⟩
  | k + 2, _, hk => by
    obtain ⟨r, h1, h2, h3⟩ := exists_far d (k + 1) (by omega) (by omega)
    by_cases c : at' d r < at' d (k + 1 : Nat)
    · refine ⟨k + 1, by omega, fun i hi => ?_, fun i hi => ?_⟩
      · by_cases e : i = k + 1
        · rw [e]; exact Int.le_refl _
        · have := h2 i (by omega); omega
      · have := h2 i (by omega); omega
    · refine ⟨r, by omega, fun i hi => ?_, h3⟩
      by_cases e : i = k + 1
      · rw [e]; omega
      · exact h2 i (by omega)
/-- The farthest cell, as the law has it. -/
theorem far_law {W H : Int} {X : List Int} {a : Int} : (0 ≤ farOf W H X a ↔ isOpen W H X a = true) ∧ (isOpen W H X a = true → (reachOf W H X a (daysOf W H X a (farOf W H X a))).length = (reachOf W H X a 99).length) := by
  by_cases ho : isOpen W H X a = true
  · obtain ⟨p, q, n, rfl, rfl, rfl, hn, hL, h64, _⟩ := open_nat ho
    have D := dist_is hL (a := (n : Int)) (by omega) (by omega)
    obtain ⟨r, h1, h2, h3⟩ := exists_far (distL p X n) X.length (by omega) (by rw [D.len]; exact Nat.le_refl _)
    have hf : farOf p q X n = (r : Int) := farOf_eq ho ⟨by omega, by rw [D.len]; omega, fun i i0 i1 => by
        have := h2 i.toNat (by rw [D.len] at i1; omega); rwa [show ((i.toNat : Nat) : Int) = i by omega] at this, fun i i0 i1 => by
        have := h3 i.toNat (by omega); rwa [show ((i.toNat : Nat) : Int) = i by omega] at this⟩
    rw [hf]
    refine ⟨⟨fun _ => ho, fun _ => by omega⟩, fun _ => ?_⟩
    have hs := h2 n hn
    rw [D.src] at hs
    have hro := dist_open ho (n := (r : Int)) (by omega) (by omega) hs
    have hdr : daysOf p q X n r = at' (distL p X n) r := by unfold daysOf; rw [if_pos ⟨ho, hro⟩]
    rw [hdr]
    unfold reachOf
    rw [if_pos ho, if_pos ho]
    unfold reachTo
    congr 2
    refine List.filter_congr fun i hi => ?_
    have hi' := List.mem_range.1 hi
    unfold inReach
    rw [decide_eq_decide]
    have := h2 i hi'
    have := dist_lt hL (a := (n : Int)) (by omega) (by omega) (n := (i : Int)) (by omega) (by omega)
    omega
  · have hf : farOf W H X a = -1 := by unfold farOf; rw [if_neg ho]
    rw [hf]
    exact ⟨⟨fun h => by omega, fun h => absurd h ho⟩, fun h => absurd h ho⟩
end Go.Proofs.Ytfccikhmcenanaa.Wf
