/- Days from a cell to each cell: what they are, that nothing else is, and how a search that goes from cell to cell finds them. Plain facts. -/
import Derived.Test.YtbibkjponadipaaDoorMBase
namespace Go.Proofs.YtbibkjponadipaaDoor.Bfs
open Go.RowKit Kit Rw Ld

/-- The entry of a list at a cell's number. -/
def at' (d : List Int) (n : Int) : Int := d.getD n.toNat 0
/-- d has the days from a to each cell, -1 where there is no way. -/
structure IsDist (W : Int) (X : List Int) (a : Int) (d : List Int) : Prop where
  len : d.length = X.length
  low : ∀ n : Int, 0 ≤ n → n < X.length → -1 ≤ at' d n
  src : at' d a = 0
  pre : ∀ n : Int, 0 ≤ n → n < X.length → n ≠ a → 0 ≤ at' d n → ∃ m : Int, 0 ≤ m ∧ m < X.length ∧ 0 ≤ at' d m ∧ n ∈ near W m X ∧ at' d n = at' d m + 1
  nxt : ∀ m : Int, 0 ≤ m → m < X.length → 0 ≤ at' d m → ∀ n ∈ near W m X, 0 ≤ at' d n ∧ at' d n ≤ at' d m + 1

theorem IsDist.le {W a : Int} {X d d' : List Int} (h : IsDist W X a d) (h' : IsDist W X a d') : ∀ (k : Nat) (n : Int), 0 ≤ n → n < X.length → at' d n = k → 0 ≤ at' d' n ∧ at' d' n ≤ k := by
  intro k
  induction k with
  | zero =>
    intro n h0 h1 hk
    by_cases hn : n = a
    · subst hn; rw [h'.src]; omega
    · obtain ⟨m, m0, m1, m2, _, m4⟩ := h.pre n h0 h1 hn (by omega)
      omega
  | succ k ih =>
    intro n h0 h1 hk
    by_cases hn : n = a
    · subst hn; rw [h'.src]; omega
    · obtain ⟨m, m0, m1, m2, m3, m4⟩ := h.pre n h0 h1 hn (by omega)
      obtain ⟨i1, i2⟩ := ih m m0 m1 (by omega)
      obtain ⟨j1, j2⟩ := h'.nxt m m0 m1 i1 n m3
      omega
theorem IsDist.same_at {W a : Int} {X d d' : List Int} (h : IsDist W X a d) (h' : IsDist W X a d') {n : Int} (h0 : 0 ≤ n) (h1 : n < X.length) : at' d n = at' d' n := by
  have l := h.low n h0 h1
  have l' := h'.low n h0 h1
  by_cases c : 0 ≤ at' d n
  · obtain ⟨k, hk⟩ : ∃ k : Nat, at' d n = k := ⟨(at' d n).toNat, by omega⟩
    obtain ⟨i1, i2⟩ := h.le h' k n h0 h1 hk
    obtain ⟨k', hk'⟩ : ∃ k : Nat, at' d' n = k := ⟨(at' d' n).toNat, by omega⟩
    obtain ⟨j1, j2⟩ := h'.le h k' n h0 h1 hk'
    omega
  · by_cases c' : 0 ≤ at' d' n
    · obtain ⟨k', hk'⟩ : ∃ k : Nat, at' d' n = k := ⟨(at' d' n).toNat, by omega⟩
      obtain ⟨j1, j2⟩ := h'.le h k' n h0 h1 hk'
      omega
    · omega
/-- There is one such list alone. -/
theorem IsDist.same {W a : Int} {X d d' : List Int} (h : IsDist W X a d) (h' : IsDist W X a d') : d = d' := by
  refine List.ext_getElem (by rw [h.len, h'.len]) fun i h1 h2 => ?_
  have := h.same_at h' (n := (i : Int)) (by omega) (by have := h.len; omega)
  simpa [at', h1, h2] using this
open Classical in
/-- The days. -/
noncomputable def distL (W : Int) (X : List Int) (a : Int) : List Int := if h : ∃ d, IsDist W X a d then h.choose else []
theorem IsDist.eq {W a : Int} {X d : List Int} (h : IsDist W X a d) : distL W X a = d := by
  have hx : ∃ d, IsDist W X a d := ⟨d, h⟩
  rw [distL, dif_pos hx]
  exact hx.choose_spec.same h

/-- What is near is a cell, and open. -/
theorem near_in {W H : Int} {X : List Int} (hL : isLand W H X = true) {m n : Int} (h0 : 0 ≤ m) (h1 : m < X.length) (hn : n ∈ near W m X) : 0 ≤ n ∧ n < X.length ∧ X.getD n.toNat 0 ≠ 2 := by
  obtain ⟨hW, hH, hLen, _⟩ := isLand_of hL
  simp only [near, List.mem_append] at hn
  rcases hn with ((hn | hn) | hn) | hn
  · unfold n1 at hn
    split at hn
    · rename_i c; simp at hn; subst hn; exact ⟨by omega, by omega, c.2⟩
    · simp at hn
  · unfold n2 at hn
    split at hn
    · rename_i c; simp at hn; subst hn
      have hp := c.1
      have : m ≠ 0 := fun h => by rw [h] at hp; simp at hp
      exact ⟨by omega, by omega, c.2⟩
    · simp at hn
  · unfold n3 at hn
    split at hn
    · rename_i c; simp at hn; subst hn
      refine ⟨by omega, ?_, c.2⟩
      obtain ⟨p, rfl⟩ : ∃ p : Nat, W = p := ⟨W.toNat, by omega⟩
      obtain ⟨q, rfl⟩ : ∃ q : Nat, m = q := ⟨m.toNat, by omega⟩
      obtain ⟨r, rfl⟩ : ∃ r : Nat, H = r := ⟨H.toNat, by omega⟩
      have e : X.length = p * r := by exact_mod_cast hLen
      have hq : q < p * r := by omega
      have hm : q % p + 1 < p := by have := c.1; have e2 : (q : Int) % (p : Int) = ((q % p : Nat) : Int) := by omega
                                    omega
      have := right_in hq hm
      omega
    · simp at hn
  · unfold n4 at hn
    split at hn
    · rename_i c; simp at hn; subst hn; exact ⟨by omega, c.1, c.2⟩
    · simp at hn

theorem at_set {d : List Int} {n m v : Int} (h0 : 0 ≤ n) (h1 : n < d.length) (m0 : 0 ≤ m) : at' (d.set n.toNat v) m = if m = n then v else at' d m := by
  unfold at'
  rw [List.getD_eq_getElem?_getD, List.getElem?_set]
  by_cases h : m = n
  · subst h
    rw [if_pos rfl, if_pos rfl, if_pos (by omega)]; rfl
  · rw [if_neg (by omega), if_neg h, ← List.getD_eq_getElem?_getD]
theorem getD_append_l {q : List Int} {n : Int} {j : Nat} (hj : j < q.length) : (q ++ [n]).getD j 0 = q.getD j 0 := by
  rw [List.getD_eq_getElem?_getD, List.getElem?_append_left hj, ← List.getD_eq_getElem?_getD]
theorem getD_append_r {q : List Int} {n : Int} : (q ++ [n]).getD q.length 0 = n := by simp
theorem mem_ix {q : List Int} {n : Int} (h : n ∈ q) : ∃ j, j < q.length ∧ q.getD j 0 = n := by
  obtain ⟨j, hj, e⟩ := List.getElem_of_mem h
  exact ⟨j, hj, by simp [hj, e]⟩

theorem nodup_len : ∀ (N : Nat) (q : List Int), q.Nodup → (∀ n ∈ q, 0 ≤ n ∧ n < (N : Int)) → q.length ≤ N := by
  intro N
  induction N with
  | zero =>
    intro q _ h
    cases q with
    | nil => simp
    | cons x q => have := h x (by simp); omega
  | succ N ih =>
    intro q hq h
    have h2 := ih (q.erase (N : Int)) (hq.erase _) (fun n hn => by
      rw [hq.mem_erase_iff] at hn
      have := h n hn.2
      have := hn.1
      omega)
    rw [List.length_erase] at h2
    split at h2 <;> omega
/-- Where a search stands that has gone on from the first i cells of its queue. -/
structure Inv (W : Int) (X : List Int) (a : Int) (i : Nat) (d q : List Int) : Prop where
  len : d.length = X.length
  low : ∀ n : Int, 0 ≤ n → n < X.length → -1 ≤ at' d n
  inq : ∀ n ∈ q, 0 ≤ n ∧ n < X.length ∧ 0 ≤ at' d n
  known : ∀ n : Int, 0 ≤ n → n < X.length → 0 ≤ at' d n → n ∈ q
  nodup : q.Nodup
  aq : a ∈ q
  src : at' d a = 0
  pre : ∀ n : Int, 0 ≤ n → n < X.length → n ≠ a → 0 ≤ at' d n → ∃ m : Int, 0 ≤ m ∧ m < X.length ∧ 0 ≤ at' d m ∧ n ∈ near W m X ∧ at' d n = at' d m + 1
  done : ∀ j, j < i → ∀ n ∈ near W (q.getD j 0) X, 0 ≤ at' d n ∧ at' d n ≤ at' d (q.getD j 0) + 1
  mono : ∀ j k, j ≤ k → k < q.length → at' d (q.getD j 0) ≤ at' d (q.getD k 0)
  top : i < q.length → ∀ k, k < q.length → at' d (q.getD k 0) ≤ at' d (q.getD i 0) + 1
  ile : i ≤ q.length
  bnd : ∀ k, k < q.length → at' d (q.getD k 0) ≤ k

theorem Inv.start {W : Int} {X : List Int} {a : Int} (h0 : 0 ≤ a) (h1 : a < X.length) : Inv W X a 0 ((List.replicate X.length (-1)).set a.toNat 0) [a] := by
  have hl : (List.replicate X.length (-1 : Int)).length = X.length := by simp
  have ha : ∀ m : Int, 0 ≤ m → m < X.length → at' ((List.replicate X.length (-1)).set a.toNat 0) m = if m = a then 0 else -1 := by
    intro m m0 m1
    rw [at_set h0 (by rw [hl]; exact h1) m0]
    split
    · rfl
    · unfold at'; rw [List.getD_eq_getElem?_getD, List.getElem?_replicate, if_pos (by omega)]; rfl
  refine ⟨by simp, ?_, ?_, ?_, by simp, by simp, by rw [ha a h0 h1, if_pos rfl], ?_, ?_, ?_, ?_, by simp, ?_⟩
  · intro n n0 n1; rw [ha n n0 n1]; split <;> omega
  · intro n hn; simp at hn; subst hn; exact ⟨h0, h1, by rw [ha n h0 h1, if_pos rfl]; omega⟩
  · intro n n0 n1 hn; rw [ha n n0 n1] at hn; split at hn
    · rename_i e; simp [e]
    · omega
  · intro n n0 n1 hne hn; rw [ha n n0 n1, if_neg hne] at hn; omega
  · intro j hj; omega
  · intro j k hjk hk; simp at hk; subst hk; obtain rfl : j = 0 := by omega
    exact Int.le_refl _
  · intro _ k hk; simp at hk; subst hk; omega
  · intro k hk; simp at hk; subst hk; show at' _ a ≤ _; rw [ha a h0 h1, if_pos rfl]; omega

/-- A cell that is met for the first time. -/
theorem Inv.meet {W H : Int} {X : List Int} {a : Int} {i : Nat} {d q : List Int} (h : Inv W X a i d q) (hL : isLand W H X = true) (hi : i < q.length) {n : Int} (hn : n ∈ near W (q.getD i 0) X) (hd : at' d n < 0) :
    Inv W X a i (d.set n.toNat (at' d (q.getD i 0) + 1)) (q ++ [n]) := by
  have hm := h.inq (q.getD i 0) (mem_getD hi)
  obtain ⟨m0, m1, m2⟩ := hm
  obtain ⟨n0, n1, _⟩ := near_in hL m0 m1 hn
  have hnq : n ∉ q := fun hc => by have := (h.inq n hc).2.2; omega
  have hnd : n < d.length := by rw [h.len]; exact n1
  have hv : ∀ m : Int, 0 ≤ m → at' (d.set n.toNat (at' d (q.getD i 0) + 1)) m = if m = n then at' d (q.getD i 0) + 1 else at' d m := fun m hm => at_set n0 hnd hm
  have hold : ∀ m ∈ q, at' (d.set n.toNat (at' d (q.getD i 0) + 1)) m = at' d m := fun m hm => by
    rw [hv m (h.inq m hm).1, if_neg (by intro e; subst e; exact hnq hm)]
  have hget : ∀ j, j < q.length → at' (d.set n.toNat (at' d (q.getD i 0) + 1)) ((q ++ [n]).getD j 0) = at' d (q.getD j 0) := fun j hj => by
    rw [getD_append_l hj]; exact hold _ (mem_getD hj)
  have hlast : at' (d.set n.toNat (at' d (q.getD i 0) + 1)) ((q ++ [n]).getD q.length 0) = at' d (q.getD i 0) + 1 := by
    rw [getD_append_r, hv n n0, if_pos rfl]
  refine ⟨by simp [h.len], ?_, ?_, ?_, ?_, ?_, ?_, ?_, ?_, ?_, ?_, by have := h.ile; simp; omega, ?_⟩
  · intro m hm0 hm1; rw [hv m hm0]; split
    · omega
    · exact h.low m hm0 hm1
  · intro m hm
    rcases List.mem_append.1 hm with hm | hm
    · have := h.inq m hm; rw [hold m hm]; exact this
    · simp at hm; subst hm; rw [hv m n0, if_pos rfl]; exact ⟨n0, n1, by omega⟩
  · intro m hm0 hm1 hm2
    rw [hv m hm0] at hm2
    split at hm2
    · rename_i e; simp [e]
    · exact List.mem_append_left _ (h.known m hm0 hm1 hm2)
  · rw [List.nodup_append]
    exact ⟨h.nodup, by simp, fun x hx y hy => by simp at hy; subst hy; intro e; subst e; exact hnq hx⟩
  · exact List.mem_append_left _ h.aq
  · rw [hold a h.aq]; exact h.src
  · intro m hm0 hm1 hma hm2
    rw [hv m hm0] at hm2
    by_cases e : m = n
    · subst e
      refine ⟨q.getD i 0, m0, m1, ?_, hn, ?_⟩
      · rw [hold _ (mem_getD hi)]; exact m2
      · rw [hv m hm0, if_pos rfl, hold _ (mem_getD hi)]
    · rw [if_neg e] at hm2
      obtain ⟨p, p0, p1, p2, p3, p4⟩ := h.pre m hm0 hm1 hma hm2
      refine ⟨p, p0, p1, ?_, p3, ?_⟩
      · rw [hold p (h.known p p0 p1 p2)]; exact p2
      · rw [hv m hm0, if_neg e, hold p (h.known p p0 p1 p2)]; exact p4
  · intro j hj m hm
    have hjq : j < q.length := by omega
    rw [getD_append_l hjq] at hm ⊢
    obtain ⟨d0, d1⟩ := h.done j hj m hm
    have hjm := h.inq _ (mem_getD hjq)
    obtain ⟨z0, z1, _⟩ := near_in hL hjm.1 hjm.2.1 hm
    have := h.known m z0 z1 d0
    rw [hold m this, hold _ (mem_getD hjq)]
    exact ⟨d0, d1⟩
  · intro j k hjk hk
    simp at hk
    by_cases hkq : k < q.length
    · rw [hget j (by omega), hget k hkq]; exact h.mono j k hjk hkq
    · obtain rfl : k = q.length := by omega
      rw [hlast]
      by_cases hjq : j < q.length
      · rw [hget j hjq]; exact h.top hi j hjq
      · obtain rfl : j = q.length := by omega
        rw [hlast]; exact Int.le_refl _
  · intro _ k hk
    simp at hk
    rw [hget i hi]
    by_cases hkq : k < q.length
    · rw [hget k hkq]; exact h.top hi k hkq
    · obtain rfl : k = q.length := by omega
      rw [hlast]; exact Int.le_refl _
  · intro k hk
    simp at hk
    by_cases hkq : k < q.length
    · rw [hget k hkq]; exact h.bnd k hkq
    · obtain rfl : k = q.length := by omega
      rw [hlast]; have := h.bnd i hi; omega

/-- All that is near the i-th cell has been looked at. -/
theorem Inv.next {W : Int} {X : List Int} {a : Int} {i : Nat} {d q : List Int} (h : Inv W X a i d q) (hi : i < q.length) (hall : ∀ n ∈ near W (q.getD i 0) X, 0 ≤ at' d n ∧ at' d n ≤ at' d (q.getD i 0) + 1) : Inv W X a (i + 1) d q := by
  refine { h with done := ?_, top := ?_, ile := hi }
  · intro j hj n hn
    by_cases e : j = i
    · subst e; exact hall n hn
    · exact h.done j (by omega) n hn
  · intro hi' k hk
    have h1 := h.top hi k hk
    have h2 := h.mono i (i + 1) (by omega) hi'
    omega
/-- At the queue's end. -/
theorem Inv.dist {W : Int} {X : List Int} {a : Int} {d q : List Int} (h : Inv W X a q.length d q) : IsDist W X a d := by
  refine ⟨h.len, h.low, h.src, h.pre, fun m m0 m1 m2 n hn => ?_⟩
  obtain ⟨j, hj, e⟩ := mem_ix (h.known m m0 m1 m2)
  have := h.done j hj n (by rw [e]; exact hn)
  rwa [e] at this
/-- A queue is no longer than the land. -/
theorem Inv.short {W : Int} {X : List Int} {a : Int} {i : Nat} {d q : List Int} (h : Inv W X a i d q) : q.length ≤ X.length := by
  exact nodup_len _ _ h.nodup (fun n hn => ⟨(h.inq n hn).1, (h.inq n hn).2.1⟩)
end Go.Proofs.YtbibkjponadipaaDoor.Bfs
