/- The program's grid of squares: a land inside a border of rock. Plain definitions and facts. -/
import Derived.Test.YtbibkjponadipaaDoorBfs
namespace Go.Proofs.YtbibkjponadipaaDoor.Gr
open Go.RowKit Kit Rw Ld

/-- The square of a cell, the cell of a square, whether a square is one of the first len cells'. -/
def sq (p n : Nat) : Nat := (n / p + 1) * 10 + n % p + 1
def cl (p s : Nat) : Nat := (s / 10 - 1) * p + (s % 10 - 1)
def inb (p len s : Nat) : Bool := decide (10 ≤ s ∧ 1 ≤ s % 10 ∧ s % 10 ≤ p ∧ cl p s < len)
def gridTo (p : Nat) (X : List Int) : Nat → List Int
  | 0 => List.replicate 100 2
  | j + 1 => (gridTo p X j).set (sq p j) (X.getD j 0)
/-- What the squares hold. -/
def grid (p : Nat) (X : List Int) : List Int := gridTo p X X.length
theorem gridTo_len (p : Nat) (X : List Int) : ∀ j, (gridTo p X j).length = 100
  | 0 => by simp [gridTo]
  | j + 1 => by simp [gridTo, gridTo_len p X j]
theorem grid_len (p : Nat) (X : List Int) : (grid p X).length = 100 := gridTo_len _ _ _
theorem gridTo_in {p : Nat} {X : List Int} (hX : ∀ k ∈ X, 0 ≤ k ∧ k ≤ 2) : ∀ j, j ≤ X.length → ∀ k ∈ gridTo p X j, 0 ≤ k ∧ k ≤ 2
  | 0, _, k, hk => by simp [gridTo] at hk; omega
  | j + 1, hj, k, hk => by
    rcases List.mem_or_eq_of_mem_set hk with h | h
    · exact gridTo_in hX j (by omega) k h
    · rw [h]; exact hX _ (mem_getD (by omega))
theorem cases8 {p : Nat} (h : 1 ≤ p ∧ p ≤ 8) : p = 1 ∨ p = 2 ∨ p = 3 ∨ p = 4 ∨ p = 5 ∨ p = 6 ∨ p = 7 ∨ p = 8 := by omega
theorem sq_eq {p : Nat} (hp : 1 ≤ p ∧ p ≤ 8) (n s : Nat) : (sq p n = s) ↔ (10 ≤ s ∧ 1 ≤ s % 10 ∧ s % 10 ≤ p ∧ cl p s = n) := by
  unfold sq cl
  rcases cases8 hp with rfl | rfl | rfl | rfl | rfl | rfl | rfl | rfl <;> omega
theorem sq_lt {p h n : Nat} (hp : 1 ≤ p ∧ p ≤ 8) (hh : h ≤ 8) (hn : n < p * h) : 11 ≤ sq p n ∧ sq p n ≤ 88 := by
  unfold sq
  rcases cases8 hp with rfl | rfl | rfl | rfl | rfl | rfl | rfl | rfl <;> omega
theorem cl_sq {p : Nat} (hp : 1 ≤ p ∧ p ≤ 8) (n : Nat) : cl p (sq p n) = n := ((sq_eq hp n _).1 rfl).2.2.2
theorem sq_cl {p len s : Nat} (hp : 1 ≤ p ∧ p ≤ 8) (h : inb p len s = true) : sq p (cl p s) = s := by
  simp only [inb, decide_eq_true_eq] at h
  exact (sq_eq hp _ _).2 ⟨h.1, h.2.1, h.2.2.1, rfl⟩
theorem inb_sq {p len n : Nat} (hp : 1 ≤ p ∧ p ≤ 8) (hn : n < len) : inb p len (sq p n) = true := by
  have := (sq_eq hp n _).1 rfl
  simp only [inb, decide_eq_true_eq]
  exact ⟨this.1, this.2.1, this.2.2.1, by rw [this.2.2.2]; exact hn⟩
theorem sq_inj {p m n : Nat} (hp : 1 ≤ p ∧ p ≤ 8) (h : sq p m = sq p n) : m = n := by
  rw [← cl_sq hp m, h, cl_sq hp]
theorem gridTo_at {p h : Nat} {X : List Int} (hp : 1 ≤ p ∧ p ≤ 8) (hh : h ≤ 8) : ∀ j, j ≤ p * h → ∀ s, s < 100 → (gridTo p X j).getD s 0 = if inb p j s = true then X.getD (cl p s) 0 else 2
  | 0, _, s, hs => by
    have : inb p 0 s = false := by simp [inb]
    rw [this]
    show (List.replicate 100 (2 : Int)).getD s 0 = _
    rw [List.getD_eq_getElem?_getD, List.getElem?_replicate, if_pos hs]; rfl
  | j + 1, hj, s, hs => by
    have ih := gridTo_at hp hh j (by omega) s hs (X := X)
    have hsq := sq_lt hp hh (show j < p * h by omega)
    show ((gridTo p X j).set (sq p j) (X.getD j 0)).getD s 0 = _
    rw [List.getD_eq_getElem?_getD, List.getElem?_set]
    by_cases e : sq p j = s
    · have e2 := (sq_eq hp j s).1 e
      have : inb p (j + 1) s = true := by simp only [inb, decide_eq_true_eq]; omega
      rw [if_pos e, if_pos (by rw [gridTo_len]; omega), if_pos this, e2.2.2.2]
      rfl
    · rw [if_neg e, ← List.getD_eq_getElem?_getD, ih]
      have : inb p (j + 1) s = inb p j s := by
        simp only [inb, decide_eq_decide]
        have : ¬ (10 ≤ s ∧ 1 ≤ s % 10 ∧ s % 10 ≤ p ∧ cl p s = j) := fun h => e ((sq_eq hp j s).2 h)
        omega
      rw [this]
theorem grid_at {p h : Nat} {X : List Int} (hp : 1 ≤ p ∧ p ≤ 8) (hh : h ≤ 8) (hL : X.length = p * h) {s : Nat} (hs : s < 100) : (grid p X).getD s 0 = if inb p X.length s = true then X.getD (cl p s) 0 else 2 :=
  gridTo_at hp hh _ (by omega) s hs

/-- The four squares beside one, in the program's order. -/
theorem up_in {p h n len : Nat} (hp : 1 ≤ p ∧ p ≤ 8) (hh : h ≤ 8) (hl : len = p * h) (hn : n < len) : (inb p len (sq p n - 10) = decide (p ≤ n)) ∧ (p ≤ n → cl p (sq p n - 10) = n - p) := by
  unfold inb cl sq
  subst hl
  rcases cases8 hp with rfl | rfl | rfl | rfl | rfl | rfl | rfl | rfl <;> exact ⟨by rw [decide_eq_decide]; omega, by omega⟩
theorem left_in {p h n len : Nat} (hp : 1 ≤ p ∧ p ≤ 8) (hh : h ≤ 8) (hl : len = p * h) (hn : n < len) : (inb p len (sq p n - 1) = decide (0 < n % p)) ∧ (0 < n % p → cl p (sq p n - 1) = n - 1) := by
  unfold inb cl sq
  subst hl
  rcases cases8 hp with rfl | rfl | rfl | rfl | rfl | rfl | rfl | rfl <;> exact ⟨by rw [decide_eq_decide]; omega, by omega⟩
theorem right_in' {p h n len : Nat} (hp : 1 ≤ p ∧ p ≤ 8) (hh : h ≤ 8) (hl : len = p * h) (hn : n < len) : (inb p len (sq p n + 1) = decide (n % p + 1 < p)) ∧ (n % p + 1 < p → cl p (sq p n + 1) = n + 1) := by
  unfold inb cl sq
  subst hl
  rcases cases8 hp with rfl | rfl | rfl | rfl | rfl | rfl | rfl | rfl <;> exact ⟨by rw [decide_eq_decide]; omega, by omega⟩
theorem down_in {p h n len : Nat} (hp : 1 ≤ p ∧ p ≤ 8) (hh : h ≤ 8) (hl : len = p * h) (hn : n < len) : (inb p len (sq p n + 10) = decide (n + p < len)) ∧ (n + p < len → cl p (sq p n + 10) = n + p) := by
  unfold inb cl sq
  subst hl
  rcases cases8 hp with rfl | rfl | rfl | rfl | rfl | rfl | rfl | rfl <;> exact ⟨by rw [decide_eq_decide]; omega, by omega⟩

/-- Where a side's square is open. -/
def opn (g : List Int) (s : Nat) : Bool := decide (g.getD s 0 ≠ 2)
def side1 (g : List Int) (t : Nat) : List Nat := if opn g t = true then [t] else []
def nsq (g : List Int) (s : Nat) : List Nat := side1 g (s - 10) ++ side1 g (s - 1) ++ side1 g (s + 1) ++ side1 g (s + 10)
theorem opn_grid {p h : Nat} {X : List Int} (hp : 1 ≤ p ∧ p ≤ 8) (hh : h ≤ 8) (hL : X.length = p * h) {s : Nat} (hs : s < 100) : opn (grid p X) s = true ↔ (inb p X.length s = true ∧ X.getD (cl p s) 0 ≠ 2) := by
  unfold opn
  rw [decide_eq_true_eq, grid_at hp hh hL hs]
  split
  · rename_i h; simp [h]
  · rename_i h; simp [h]
theorem nsq_near {p h n : Nat} {X : List Int} (hp : 1 ≤ p ∧ p ≤ 8) (hh : h ≤ 8) (hL : X.length = p * h) (hn : n < X.length) :
    (nsq (grid p X) (sq p n)).map (fun t => ((cl p t : Nat) : Int)) = near p n X := by
  have hsq := sq_lt hp hh (show n < p * h by omega)
  have u := up_in hp hh hL hn
  have l := left_in hp hh hL hn
  have r := right_in' hp hh hL hn
  have d := down_in hp hh hL hn
  have e1 : (side1 (grid p X) (sq p n - 10)).map (fun t => ((cl p t : Nat) : Int)) = n1 p n X := by
    rw [n1_nat]; unfold side1
    have := opn_grid (X := X) hp hh hL (s := sq p n - 10) (by omega)
    rw [u.1, decide_eq_true_eq] at this
    by_cases c : p ≤ n
    · rw [u.2 c] at this
      by_cases c2 : X.getD (n - p) 0 ≠ 2
      · rw [if_pos (this.2 ⟨c, c2⟩), if_pos (by rw [decide_eq_true_eq]; exact ⟨by omega, c2⟩)]
        simp only [List.map_cons, List.map_nil, u.2 c]; congr 1; omega
      · rw [if_neg (fun hc => c2 (this.1 hc).2), if_neg (by rw [decide_eq_true_eq]; exact fun hc => c2 hc.2)]; rfl
    · rw [if_neg (fun hc => c (this.1 hc).1), if_neg (by rw [decide_eq_true_eq]; exact fun hc => c (by omega))]; rfl
  have e2 : (side1 (grid p X) (sq p n - 1)).map (fun t => ((cl p t : Nat) : Int)) = n2 p n X := by
    rw [n2_nat]; unfold side1
    have := opn_grid (X := X) hp hh hL (s := sq p n - 1) (by omega)
    rw [l.1, decide_eq_true_eq] at this
    have hc0 : ((0 : Int) < (n : Int) % (p : Int)) ↔ 0 < n % p := by omega
    by_cases c : 0 < n % p
    · rw [l.2 c] at this
      by_cases c2 : X.getD (n - 1) 0 ≠ 2
      · rw [if_pos (this.2 ⟨c, c2⟩), if_pos (by rw [decide_eq_true_eq]; exact ⟨hc0.2 c, c2⟩)]
        have : n ≠ 0 := fun h => by subst h; simp at c
        simp only [List.map_cons, List.map_nil, l.2 c]; congr 1; omega
      · rw [if_neg (fun hc => c2 (this.1 hc).2), if_neg (by rw [decide_eq_true_eq]; exact fun hc => c2 hc.2)]; rfl
    · rw [if_neg (fun hc => c (this.1 hc).1), if_neg (by rw [decide_eq_true_eq]; exact fun hc => c (hc0.1 hc.1))]; rfl
  have e3 : (side1 (grid p X) (sq p n + 1)).map (fun t => ((cl p t : Nat) : Int)) = n3 p n X := by
    rw [n3_nat]; unfold side1
    have := opn_grid (X := X) hp hh hL (s := sq p n + 1) (by omega)
    rw [r.1, decide_eq_true_eq] at this
    have hc0 : ((n : Int) % (p : Int) < (p : Int) - 1) ↔ n % p + 1 < p := by omega
    by_cases c : n % p + 1 < p
    · rw [r.2 c] at this
      by_cases c2 : X.getD (n + 1) 0 ≠ 2
      · rw [if_pos (this.2 ⟨c, c2⟩), if_pos (by rw [decide_eq_true_eq]; exact ⟨hc0.2 c, c2⟩)]
        simp only [List.map_cons, List.map_nil, r.2 c]; congr 1
      · rw [if_neg (fun hc => c2 (this.1 hc).2), if_neg (by rw [decide_eq_true_eq]; exact fun hc => c2 hc.2)]; rfl
    · rw [if_neg (fun hc => c (this.1 hc).1), if_neg (by rw [decide_eq_true_eq]; exact fun hc => c (hc0.1 hc.1))]; rfl
  have e4 : (side1 (grid p X) (sq p n + 10)).map (fun t => ((cl p t : Nat) : Int)) = n4 p n X := by
    rw [n4_nat]; unfold side1
    have := opn_grid (X := X) hp hh hL (s := sq p n + 10) (by omega)
    rw [d.1, decide_eq_true_eq] at this
    by_cases c : n + p < X.length
    · rw [d.2 c] at this
      by_cases c2 : X.getD (n + p) 0 ≠ 2
      · rw [if_pos (this.2 ⟨c, c2⟩), if_pos (by rw [decide_eq_true_eq]; exact ⟨by omega, c2⟩)]
        simp only [List.map_cons, List.map_nil, d.2 c]; congr 1
      · rw [if_neg (fun hc => c2 (this.1 hc).2), if_neg (by rw [decide_eq_true_eq]; exact fun hc => c2 hc.2)]; rfl
    · rw [if_neg (fun hc => c (this.1 hc).1), if_neg (by rw [decide_eq_true_eq]; exact fun hc => c (by omega))]; rfl
  simp only [nsq, near, List.map_append, e1, e2, e3, e4]
theorem nsq_len (g : List Int) (s : Nat) : (nsq g s).length ≤ 4 := by
  have h : ∀ t, (side1 g t).length ≤ 1 := fun t => by unfold side1; split <;> simp
  have := h (s - 10); have := h (s - 1); have := h (s + 1); have := h (s + 10)
  simp only [nsq, List.length_append]; omega
/-- What lies beside a cell's square and is open is a cell's square. -/
theorem nsq_mem {p h n t : Nat} {X : List Int} (hp : 1 ≤ p ∧ p ≤ 8) (hh : h ≤ 8) (hL : X.length = p * h) (hn : n < X.length) (ht : t ∈ nsq (grid p X) (sq p n)) : inb p X.length t = true := by
  have hsq := sq_lt hp hh (show n < p * h by omega)
  have hs : ∀ u, u < 100 → t ∈ side1 (grid p X) u → inb p X.length t = true := fun u hu h => by
    unfold side1 at h
    split at h
    · rename_i c; simp at h; subst h; exact ((opn_grid hp hh hL hu).1 c).1
    · simp at h
  simp only [nsq, List.mem_append] at ht
  rcases ht with ((ht | ht) | ht) | ht
  · exact hs _ (by omega) ht
  · exact hs _ (by omega) ht
  · exact hs _ (by omega) ht
  · exact hs _ (by omega) ht
end Go.Proofs.YtbibkjponadipaaDoor.Gr
