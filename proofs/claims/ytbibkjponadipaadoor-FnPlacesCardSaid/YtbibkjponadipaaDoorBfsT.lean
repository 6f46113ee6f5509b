/- A search that goes only so far; that there are days to each cell. Plain facts. -/
import Derived.Test.YtbibkjponadipaaDoorBfs
namespace Go.Proofs.YtbibkjponadipaaDoor.Bfs
open Go.RowKit Kit Rw Ld

/-- One cell's neighbours, looked at one by one. -/
theorem Inv.some_near {W H : Int} {X : List Int} {a : Int} {i : Nat} (hL : isLand W H X = true) : ∀ (N : List Int) (d q : List Int), Inv W X a i d q → (hi : i < q.length) → (∀ n ∈ N, n ∈ near W (q.getD i 0) X) →
    ∃ d' q', Inv W X a i d' q' ∧ i < q'.length ∧ q'.getD i 0 = q.getD i 0 ∧ (∀ m : Int, 0 ≤ m → 0 ≤ at' d m → at' d' m = at' d m) ∧ (∀ n ∈ N, 0 ≤ at' d' n ∧ at' d' n ≤ at' d' (q.getD i 0) + 1)
  | [], d, q, h, hi, _ => ⟨d, q, h, hi, rfl, fun _ _ _ => rfl, fun n hn => by simp at hn⟩
  | n :: N, d, q, h, hi, hN => by
    have hm := h.inq _ (mem_getD hi)
    have hnn := hN n (by simp)
    obtain ⟨z0, z1, _⟩ := near_in hL hm.1 hm.2.1 hnn
    by_cases hd : at' d n < 0
    · have h2 := h.meet hL hi hnn hd
      have hg : (q ++ [n]).getD i 0 = q.getD i 0 := getD_append_l hi
      have hset : ∀ m : Int, 0 ≤ m → at' (d.set n.toNat (at' d (q.getD i 0) + 1)) m = if m = n then at' d (q.getD i 0) + 1 else at' d m := fun m hm => at_set z0 (by rw [h.len]; exact z1) hm
      obtain ⟨d', q', h3, hi', hq', hold, hall⟩ := Inv.some_near hL N _ _ h2 (by simp; omega) (fun m hm => by rw [hg]; exact hN m (by simp [hm]))
      have hkeep : ∀ m : Int, 0 ≤ m → 0 ≤ at' d m → at' d' m = at' d m := fun m m0 m1 => by
        have e : at' (d.set n.toNat (at' d (q.getD i 0) + 1)) m = at' d m := by rw [hset m m0, if_neg (fun e => by rw [e] at m1; omega)]
        rw [hold m m0 (by rw [e]; exact m1), e]
      refine ⟨d', q', h3, hi', by rw [hq', hg], hkeep, fun m hm' => ?_⟩
      rcases List.mem_cons.1 hm' with e | hm'
      · subst e
        have e1 : at' (d.set m.toNat (at' d (q.getD i 0) + 1)) m = at' d (q.getD i 0) + 1 := by rw [hset m z0, if_pos rfl]
        have e2 := hold m z0 (by rw [e1]; omega)
        rw [e2, e1, hkeep _ hm.1 hm.2.2]
        omega
      · have := hall m hm'; rwa [hg] at this
    · obtain ⟨d', q', h3, hi', hq', hold, hall⟩ := Inv.some_near hL N d q h hi (fun m hm => hN m (by simp [hm]))
      refine ⟨d', q', h3, hi', hq', hold, fun m hm' => ?_⟩
      rcases List.mem_cons.1 hm' with e | hm'
      · subst e
        rw [hold m z0 (by omega), hold _ hm.1 hm.2.2]
        obtain ⟨k, hk, e⟩ := mem_ix (h.known m z0 z1 (by omega))
        have := h.top hi k hk
        rw [e] at this
        omega
      · exact hall m hm'
theorem Inv.goes {W H : Int} {X : List Int} {a : Int} (hL : isLand W H X = true) : ∀ (k i : Nat) (d q : List Int), Inv W X a i d q → X.length - i = k → ∃ d', IsDist W X a d'
  | k, i, d, q, h, hk => by
    by_cases hi : i < q.length
    · obtain ⟨d', q', h3, hi', hq', _, hall⟩ := h.some_near hL (near W (q.getD i 0) X) d q hi (fun n hn => hn)
      have h4 := h3.next hi' (by rw [hq']; exact hall)
      have := h4.ile
      have := h4.short
      match k, hk with
      | 0, hk => exact absurd hk (by omega)
      | k + 1, hk => exact Inv.goes hL k (i + 1) d' q' h4 (by omega)
    · have : i = q.length := by have := h.ile; omega
      subst this
      exact ⟨d, h.dist⟩
theorem dist_is {W H : Int} {X : List Int} {a : Int} (hL : isLand W H X = true) (h0 : 0 ≤ a) (h1 : a < X.length) : IsDist W X a (distL W X a) := by
  obtain ⟨d, hd⟩ := Inv.goes hL _ 0 _ _ (Inv.start (W := W) h0 h1) rfl
  rw [hd.eq]; exact hd
/-- No days are as many as the cells. -/
theorem Inv.lt {W : Int} {X : List Int} {a : Int} {i : Nat} {d q : List Int} (h : Inv W X a i d q) {n : Int} (h0 : 0 ≤ n) (h1 : n < X.length) (hX : 0 < X.length) : at' d n < X.length := by
  by_cases c : 0 ≤ at' d n
  · obtain ⟨k, hk, e⟩ := mem_ix (h.known n h0 h1 c)
    have := h.bnd k hk
    have := h.short
    rw [e] at *
    omega
  · omega
theorem Inv.goes_lt {W H : Int} {X : List Int} {a : Int} (hL : isLand W H X = true) (hX : 0 < X.length) : ∀ (k i : Nat) (d q : List Int), Inv W X a i d q → X.length - i = k → ∃ d', IsDist W X a d' ∧ ∀ n : Int, 0 ≤ n → n < X.length → at' d' n < X.length
  | k, i, d, q, h, hk => by
    by_cases hi : i < q.length
    · obtain ⟨d', q', h3, hi', hq', _, hall⟩ := h.some_near hL (near W (q.getD i 0) X) d q hi (fun n hn => hn)
      have h4 := h3.next hi' (by rw [hq']; exact hall)
      have := h4.ile
      have := h4.short
      match k, hk with
      | 0, hk => exact absurd hk (by omega)
      | k + 1, hk => exact Inv.goes_lt hL hX k (i + 1) d' q' h4 (by omega)
    · have : i = q.length := by have := h.ile; omega
      subst this
      exact ⟨d, h.dist, fun n h0 h1 => h.lt h0 h1 hX⟩
theorem dist_lt {W H : Int} {X : List Int} {a : Int} (hL : isLand W H X = true) (h0 : 0 ≤ a) (h1 : a < X.length) {n : Int} (n0 : 0 ≤ n) (n1 : n < X.length) : at' (distL W X a) n < X.length := by
  obtain ⟨d, hd, hb⟩ := Inv.goes_lt hL (by omega) _ 0 _ _ (Inv.start (W := W) h0 h1) rfl
  rw [hd.eq]; exact hb n n0 n1

/-- The days up to D; -1 beyond. -/
def cut (D : Int) (L : List Int) : List Int := L.map (fun x => if x ≤ D then x else -1)
theorem cut_at {D : Int} {L : List Int} {n : Int} (h0 : 0 ≤ n) (h1 : n < L.length) : at' (cut D L) n = if at' L n ≤ D then at' L n else -1 := by
  unfold at' cut
  have : n.toNat < L.length := by omega
  simp [this]
theorem cut_all {D : Int} {L : List Int} (h : ∀ n : Int, 0 ≤ n → n < L.length → at' L n ≤ D) : cut D L = L := by
  refine List.ext_getElem (by simp [cut]) fun i h1 h2 => ?_
  have := h i (by omega) (by omega)
  simp only [at', Int.toNat_natCast] at this
  simp only [cut, List.getElem_map]
  rw [if_pos (by simpa [h2] using this)]
theorem list_at {X Y : List Int} (h : X.length = Y.length) (he : ∀ n : Int, 0 ≤ n → n < Y.length → at' X n = at' Y n) : X = Y := by
  refine List.ext_getElem h fun i h1 h2 => ?_
  have := he i (by omega) (by omega)
  simpa [at', h1, h2] using this
/-- A search that ended at its queue's end, no day beyond D. -/
theorem Inv.all {W : Int} {X : List Int} {a D : Int} {i : Nat} {d q : List Int} (h : Inv W X a i d q) (hi : ¬ i < q.length) (hc : ∀ n ∈ q, at' d n ≤ D) (hD : 0 ≤ D) : d = cut D (distL W X a) := by
  have e : i = q.length := by have := h.ile; omega
  subst e
  rw [h.dist.eq]
  refine (cut_all fun n h0 h1 => ?_).symm
  by_cases c : 0 ≤ at' d n
  · exact hc n (h.known n h0 (by rw [← h.len]; exact h1) c)
  · omega
/-- A search that stopped at the first cell that is D days far. -/
theorem Inv.stop {W H : Int} {X : List Int} {a D : Int} {i : Nat} {d q : List Int} (h : Inv W X a i d q) (hL : isLand W H X = true) (hi : i < q.length) (hc : ∀ n ∈ q, at' d n ≤ D) (hs : D ≤ at' d (q.getD i 0)) : d = cut D (distL W X a) := by
  have ha := h.inq a h.aq
  have hX := dist_is hL ha.1 ha.2.1
  obtain ⟨e, he⟩ : ∃ e, e = distL W X a := ⟨_, rfl⟩
  rw [← he] at hX ⊢
  have up : ∀ (k : Nat) (n : Int), 0 ≤ n → n < X.length → at' d n = k → 0 ≤ at' e n ∧ at' e n ≤ k := by
    intro k
    induction k with
    | zero =>
      intro n h0 h1 hk
      by_cases hn : n = a
      · subst hn; rw [hX.src]; omega
      · obtain ⟨m, m0, m1, m2, _, m4⟩ := h.pre n h0 h1 hn (by omega)
        omega
    | succ k ih =>
      intro n h0 h1 hk
      by_cases hn : n = a
      · subst hn; rw [hX.src]; omega
      · obtain ⟨m, m0, m1, m2, m3, m4⟩ := h.pre n h0 h1 hn (by omega)
        obtain ⟨i1, i2⟩ := ih m m0 m1 (by omega)
        obtain ⟨j1, j2⟩ := hX.nxt m m0 m1 i1 n m3
        omega
  have down : ∀ (k : Nat) (n : Int), 0 ≤ n → n < X.length → at' e n = k → (k : Int) ≤ D → 0 ≤ at' d n ∧ at' d n ≤ k := by
    intro k
    induction k with
    | zero =>
      intro n h0 h1 hk _
      by_cases hn : n = a
      · subst hn; rw [h.src]; omega
      · obtain ⟨m, m0, m1, m2, _, m4⟩ := hX.pre n h0 h1 hn (by omega)
        omega
    | succ k ih =>
      intro n h0 h1 hk hkD
      by_cases hn : n = a
      · subst hn; rw [h.src]; omega
      · obtain ⟨m, m0, m1, m2, m3, m4⟩ := hX.pre n h0 h1 hn (by omega)
        obtain ⟨i1, i2⟩ := ih m m0 m1 (by omega) (by omega)
        obtain ⟨j, hj, ej⟩ := mem_ix (h.known m m0 m1 i1)
        have hji : j < i := by
          by_cases c : j < i
          · exact c
          · have := h.mono i j (by omega) hj
            rw [ej] at this
            omega
        have := h.done j hji n (by rw [ej]; exact m3)
        rw [ej] at this
        omega
  refine list_at (by rw [h.len]; simp [cut, hX.len]) fun n n0 n1 => ?_
  have n2 : n < X.length := by simpa [cut, hX.len] using n1
  rw [cut_at n0 (by rw [hX.len]; exact n2)]
  have l := h.low n n0 n2
  have l' := hX.low n n0 n2
  by_cases c : 0 ≤ at' d n
  · obtain ⟨k, hk⟩ : ∃ k : Nat, at' d n = k := ⟨(at' d n).toNat, by omega⟩
    obtain ⟨u1, u2⟩ := up k n n0 n2 hk
    have := hc n (h.known n n0 n2 c)
    obtain ⟨k', hk'⟩ : ∃ k : Nat, at' e n = k := ⟨(at' e n).toNat, by omega⟩
    obtain ⟨v1, v2⟩ := down k' n n0 n2 hk' (by omega)
    rw [if_pos (by omega)]
    omega
  · by_cases c' : 0 ≤ at' e n ∧ at' e n ≤ D
    · obtain ⟨k', hk'⟩ : ∃ k : Nat, at' e n = k := ⟨(at' e n).toNat, by omega⟩
      obtain ⟨v1, v2⟩ := down k' n n0 n2 hk' (by omega)
      omega
    · split <;> omega
end Go.Proofs.YtbibkjponadipaaDoor.Bfs
