/- Plain facts on stocks: no program. -/
import Derived.Test.YtinpnedijmmpgaaRow3
namespace Go.Proofs.Ytinpnedijmmpgaa.Sto
open Go.RowKit Kit Rw Rg

def okSto (m : I3) : Bool := decide (1 ≤ m.x0 ∧ m.x0 ≤ 20) && (decide (0 ≤ m.x1 ∧ m.x1 ≤ 1000) && decide (0 ≤ m.x2 ∧ m.x2 ≤ m.x1))
/-- The first j stocks are valid, and ascend. -/
def upTo (L : List I3) (j : Nat) : Prop := ∀ i, i < j → okSto (L.getD i zI3) = true ∧ (0 < i → (L.getD (i - 1) zI3).x0 < (L.getD i zI3).x0)
instance (L : List I3) (j : Nat) : Decidable (upTo L j) := by unfold upTo; infer_instance
def areSto (L : List I3) : Bool := decide (upTo L L.length)
theorem upTo_zero (L : List I3) : upTo L 0 := fun i h => absurd h (Nat.not_lt_zero _)
theorem upTo_next {L : List I3} {j : Nat} (h : upTo L j) (h1 : okSto (L.getD j zI3) = true) (h2 : 0 < j → (L.getD (j - 1) zI3).x0 < (L.getD j zI3).x0) : upTo L (j + 1) := fun i hi => by
  by_cases h' : i < j
  · exact h i h'
  · obtain rfl : i = j := by omega
    exact ⟨h1, h2⟩
theorem sto_yes {L : List I3} (h2 : upTo L L.length) : areSto L = true := decide_eq_true h2
theorem sto_bad {L : List I3} {j : Nat} (hj : j < L.length) (h : okSto (L.getD j zI3) = false ∨ (0 < j ∧ ¬ (L.getD (j - 1) zI3).x0 < (L.getD j zI3).x0)) : areSto L = false := by
  have : ¬ upTo L L.length := fun hu => by
    have := hu j hj
    rcases h with h | ⟨h0, h⟩
    · rw [this.1] at h; cases h
    · exact h (this.2 h0)
  exact decide_eq_false this
theorem sto_up {L : List I3} (h : areSto L = true) : upTo L L.length := of_decide_eq_true h
theorem ok_of {m : I3} (h : okSto m = true) : (1 ≤ m.x0 ∧ m.x0 ≤ 20) ∧ (0 ≤ m.x1 ∧ m.x1 ≤ 1000) ∧ (0 ≤ m.x2 ∧ m.x2 ≤ m.x1) := by
  unfold okSto at h; simp only [Bool.and_eq_true, decide_eq_true_eq] at h; exact ⟨h.1, h.2.1, h.2.2⟩
theorem sto_at {L : List I3} (h : areSto L = true) {j : Nat} (hj : j < L.length) : (1 ≤ (L.getD j zI3).x0 ∧ (L.getD j zI3).x0 ≤ 20) ∧ (0 ≤ (L.getD j zI3).x1 ∧ (L.getD j zI3).x1 ≤ 1000) ∧ (0 ≤ (L.getD j zI3).x2 ∧ (L.getD j zI3).x2 ≤ (L.getD j zI3).x1) :=
  ok_of (sto_up h j hj).1
/-- The last one before the first j. -/
def before (L : List I3) : Nat → Int
  | 0 => 0
  | j + 1 => (L.getD j zI3).x0
/-- Where a thing is. -/
def place : List I3 → Int → Nat → Int
  | [], _, _ => -1
  | y :: t, x, k => if y.x0 = x then (k : Int) else place t x (k + 1)
theorem place_hit : ∀ {h : List I3} {x : Int} {k j : Nat}, j < h.length → (h.getD j zI3).x0 = x → (∀ m, m < j → (h.getD m zI3).x0 ≠ x) → place h x k = ((k + j : Nat) : Int)
  | [], _, _, _, h, _, _ => by simp at h
  | y :: t, x, k, 0, _, e, _ => by simp at e; simp [place, e]
  | y :: t, x, k, j + 1, hj, e, hm => by
    have h0 := hm 0 (by omega)
    simp at h0 hj
    unfold place
    rw [if_neg h0, place_hit (j := j) hj (by simpa using e) (fun m hm' => by have := hm (m + 1) (by omega); simpa using this)]
    congr 1; omega
theorem place_miss : ∀ {h : List I3} {x : Int} {k : Nat}, (∀ m, m < h.length → (h.getD m zI3).x0 ≠ x) → place h x k = -1
  | [], _, _, _ => rfl
  | y :: t, x, k, hm => by
    have h0 := hm 0 (by simp)
    simp at h0
    unfold place
    rw [if_neg h0]
    exact place_miss (fun m hm' => by have := hm (m + 1) (by simpa using hm'); simpa using this)
theorem place_of : ∀ (h : List I3) (x : Int) (k : Nat), place h x k = -1 ∨ ∃ j, j < h.length ∧ (h.getD j zI3).x0 = x ∧ place h x k = ((k + j : Nat) : Int)
  | [], _, _ => .inl rfl
  | y :: t, x, k => by
    unfold place
    by_cases e : y.x0 = x
    · rw [if_pos e]; exact .inr ⟨0, by simp, by simpa using e, by simp⟩
    · rw [if_neg e]
      rcases place_of t x (k + 1) with h1 | ⟨j, hj, hx, hp⟩
      · exact .inl h1
      · exact .inr ⟨j + 1, by simpa using hj, by simpa using hx, by rw [hp]; congr 1; omega⟩
def find (L : List I3) (t : Int) : Int := if areSto L = true then place L t 0 else -1
theorem find_of (L : List I3) (t : Int) : find L t = -1 ∨ ∃ j : Nat, j < L.length ∧ areSto L = true ∧ (L.getD j zI3).x0 = t ∧ find L t = j ∧ place L t 0 = j := by
  unfold find
  by_cases h : areSto L = true
  · rw [if_pos h]
    rcases place_of L t 0 with h1 | ⟨j, hj, hx, hp⟩
    · exact .inl h1
    · rw [Nat.zero_add] at hp; exact .inr ⟨j, hj, h, hx, hp, hp⟩
  · rw [if_neg h]; exact .inl rfl
/-- The stock of a thing: a zero one, if there is none. -/
def stock (L : List I3) (t : Int) : I3 := if 0 ≤ find L t then L.getD (find L t).toNat zI3 else zI3
theorem stock_no {L : List I3} {t : Int} (h : find L t = -1) : stock L t = zI3 := by unfold stock; rw [h]; rfl
theorem stock_yes {L : List I3} {t : Int} {j : Nat} (h : find L t = j) : stock L t = L.getD j zI3 := by
  unfold stock; rw [h, if_pos (Int.natCast_nonneg j)]; simp
theorem stock_bd (L : List I3) (t : Int) : (0 ≤ (stock L t).x1 ∧ (stock L t).x1 ≤ 1000) ∧ 0 ≤ (stock L t).x2 ∧ (stock L t).x2 ≤ (stock L t).x1 := by
  rcases find_of L t with h | ⟨j, hj, ha, _, hf, _⟩
  · rw [stock_no h]; decide
  · rw [stock_yes hf]; exact ⟨(sto_at ha hj).2.1, (sto_at ha hj).2.2⟩
def hasIn (L : List I3) (t : Int) : Int := (stock L t).x1 - (stock L t).x2
def lendOk (L : List I3) (t n : Int) : Bool := decide (1 ≤ n ∧ n ≤ hasIn L t)
def backOk (L : List I3) (t n : Int) : Bool := decide (1 ≤ n ∧ n ≤ (stock L t).x2)
def put (L : List I3) (t : Int) (x : I3) : List I3 := L.set (find L t).toNat x
def lend (L : List I3) (t n : Int) : List I3 := if lendOk L t n = true then put L t ⟨(stock L t).x0, (stock L t).x1, (stock L t).x2 + n⟩ else L
def back (L : List I3) (t n : Int) : List I3 := if backOk L t n = true then put L t ⟨(stock L t).x0, (stock L t).x1, (stock L t).x2 - n⟩ else L
def lose (L : List I3) (t n : Int) : List I3 := if backOk L t n = true then put L t ⟨(stock L t).x0, (stock L t).x1 - n, (stock L t).x2 - n⟩ else L
theorem put_len (L : List I3) (t : Int) (x : I3) : (put L t x).length = L.length := by simp [put]
theorem lend_len (L : List I3) (t n : Int) : (lend L t n).length = L.length := by unfold lend; split <;> simp [put]
theorem back_len (L : List I3) (t n : Int) : (back L t n).length = L.length := by unfold back; split <;> simp [put]
theorem lose_len (L : List I3) (t n : Int) : (lose L t n).length = L.length := by unfold lose; split <;> simp [put]
def outTo (L : List I3) : Nat → Int
  | 0 => 0
  | j + 1 => wrap64 (outTo L j + (L.getD j zI3).x2)
def allOut (L : List I3) : Int := if areSto L = true then outTo L L.length else 0
end Go.Proofs.Ytinpnedijmmpgaa.Sto
