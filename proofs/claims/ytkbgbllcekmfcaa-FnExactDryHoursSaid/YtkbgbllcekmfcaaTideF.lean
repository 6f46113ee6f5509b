/- Tides, as plain functions on numbers. -/
import Derived.Test.YtkbgbllcekmfcaaTwo
namespace Go.Proofs.Ytkbgbllcekmfcaa.Tid
open Go.RowKit

def isTide (h w : Int) : Bool := decide (0 ≤ h ∧ h ≤ 11) && decide (0 ≤ w ∧ w ≤ 5)
def since (h w n : Int) : Int := (n - h + w) % 12
def isWet (h w n : Int) : Bool := decide (since h w n < 2 * w + 1)
def dryOk (h w n : Int) : Bool := isTide h w && decide (0 ≤ n ∧ n ≤ 100000)
def isDry (h w n : Int) : Bool := dryOk h w n && !isWet h w n
def nextDry (h w n : Int) : Int := if dryOk h w n = true then (if isWet h w n = true then n + (2 * w + 1 - since h w n) else n) else -1
/-- Dry at an hour and at the next k ones. -/
def dryFor (h w n : Int) : Nat → Bool
  | 0 => true
  | k + 1 => dryFor h w n k && isDry h w (n + k)
def longOk (l : Int) : Bool := decide (0 ≤ l ∧ l ≤ 100)
def canCross (h w n l : Int) : Bool := longOk l && dryFor h w n (l.toNat + 1)
def firstOf (f : Int → Bool) (n : Int) : Nat → Int
  | 0 => -1
  | k + 1 => if f n = true then n else firstOf f (n + 1) k
def startOk (n : Int) : Bool := decide (0 ≤ n ∧ n ≤ 90000)
def nextCross (h w n l : Int) : Int := if startOk n = true then firstOf (fun x => canCross h w x l) n 13 else -1
def dryHours (h w : Int) : Int := if isTide h w = true then 11 - 2 * w else 0

theorem tide_yes {h w : Int} (e : isTide h w = true) : (0 ≤ h ∧ h ≤ 11) ∧ 0 ≤ w ∧ w ≤ 5 := by simpa [isTide] using e
theorem tide_mk {h w : Int} (e : (0 ≤ h ∧ h ≤ 11) ∧ 0 ≤ w ∧ w ≤ 5) : isTide h w = true := by simpa [isTide] using e
theorem dryOk_yes {h w n : Int} (e : dryOk h w n = true) : isTide h w = true ∧ 0 ≤ n ∧ n ≤ 100000 := by simpa [dryOk] using e
theorem dryOk_mk {h w n : Int} (e : isTide h w = true) (h0 : 0 ≤ n) (h1 : n ≤ 100000) : dryOk h w n = true := by simp [dryOk, e, h0, h1]
theorem isDry_no {h w n : Int} (e : dryOk h w n = false) : isDry h w n = false := by unfold isDry; rw [e]; rfl
theorem isDry_of {h w n : Int} (e : dryOk h w n = true) : isDry h w n = !isWet h w n := by unfold isDry; rw [e]; rfl
theorem isDry_ok {h w n : Int} (e : isDry h w n = true) : dryOk h w n = true := by
  cases hd : dryOk h w n
  · rw [isDry_no hd] at e; cases e
  · rfl
theorem since_range (h w n : Int) : 0 ≤ since h w n ∧ since h w n < 12 := by unfold since; omega
theorem since_next (h w n : Int) : since h w (n + 1) = if since h w n = 11 then 0 else since h w n + 1 := by unfold since; split <;> omega
theorem next_range {h w n : Int} (e : dryOk h w n = true) : n ≤ nextDry h w n ∧ nextDry h w n ≤ n + 11 ∧ isWet h w (nextDry h w n) = false := by
  have ht := tide_yes (dryOk_yes e).1
  have hr := since_range h w n
  unfold nextDry
  rw [if_pos e]
  split
  · rename_i hw
    have hw : since h w n < 2 * w + 1 := by simpa [isWet] using hw
    refine ⟨by omega, by omega, ?_⟩
    unfold isWet
    rw [decide_eq_false_iff_not]
    unfold since at *
    omega
  · rename_i hw
    exact ⟨by omega, by omega, by simpa using hw⟩
/-- No hour before the next dry one is dry. -/
theorem next_first {h w n k : Int} (e : dryOk h w n = true) (h0 : n ≤ k) (h1 : k < nextDry h w n) : isWet h w k = true := by
  have ht := tide_yes (dryOk_yes e).1
  have hr := since_range h w n
  unfold nextDry at h1
  rw [if_pos e] at h1
  split at h1
  · rename_i hw
    have hw : since h w n < 2 * w + 1 := by simpa [isWet] using hw
    unfold isWet
    rw [decide_eq_true_iff]
    unfold since at *
    omega
  · omega
theorem firstOf_some {f : Int → Bool} : ∀ (k : Nat) (n m : Int), n ≤ m → m < n + k → f m = true → (∀ x, n ≤ x → x < m → f x = false) → firstOf f n k = m := by
  intro k
  induction k with
  | zero => intro n m h0 h1; omega
  | succ k ih =>
    intro n m h0 h1 hm hx
    show (if f n = true then n else firstOf f (n + 1) k) = m
    by_cases hn : n = m
    · subst hn; rw [if_pos hm]
    · have hf := hx n (by omega) (by omega)
      rw [if_neg (by rw [hf]; decide)]
      exact ih (n + 1) m (by omega) (by omega) hm (fun x h2 h3 => hx x (by omega) h3)
theorem nextDry_first {h w n : Int} (e : dryOk h w n = true) : firstOf (fun x => !isWet h w x) n 13 = nextDry h w n := by
  obtain ⟨h0, h1, h2⟩ := next_range e
  exact firstOf_some 13 n _ h0 (by omega) (by rw [h2]; rfl) (fun x h3 h4 => by rw [next_first e h3 h4]; rfl)
/-- Where the search stands behind i hours for which nothing holds. -/
def missed (f : Int → Bool) (n : Int) (i : Nat) : Prop := ∀ x, n ≤ x → x < n + i → f x = false
theorem missed_0 (f : Int → Bool) (n : Int) : missed f n 0 := fun x h0 h1 => by omega
theorem missed_next {f : Int → Bool} {n : Int} {i : Nat} (h : missed f n i) (hf : f (n + i) = false) : missed f n (i + 1) := fun x h0 h1 => by
  by_cases hx : x = n + i
  · rw [hx]; exact hf
  · exact h x h0 (by omega)
theorem missed_hit {f : Int → Bool} {n : Int} {i k : Nat} (h : missed f n i) (hi : i < k) (hf : f (n + i) = true) : firstOf f n k = n + i := firstOf_some k n _ (by omega) (by omega) hf h
theorem missed_all {f : Int → Bool} : ∀ {k : Nat} {n : Int}, missed f n k → firstOf f n k = -1
  | 0, _, _ => rfl
  | k + 1, n, h => by
    show (if f n = true then n else firstOf f (n + 1) k) = -1
    rw [if_neg (by rw [h n (by omega) (by omega)]; decide)]
    exact missed_all (k := k) fun x h0 h1 => h x (by omega) (by omega)
theorem firstOf_range {f : Int → Bool} : ∀ (k : Nat) (n : Int), firstOf f n k = -1 ∨ (n ≤ firstOf f n k ∧ firstOf f n k < n + k ∧ f (firstOf f n k) = true)
  | 0, _ => .inl rfl
  | k + 1, n => by
    by_cases h : f n = true
    · have e : firstOf f n (k + 1) = n := by show (if f n = true then n else firstOf f (n + 1) k) = n; rw [if_pos h]
      rw [e]; exact .inr ⟨by omega, by omega, h⟩
    · have e : firstOf f n (k + 1) = firstOf f (n + 1) k := by show (if f n = true then n else firstOf f (n + 1) k) = _; rw [if_neg h]
      rw [e]
      rcases firstOf_range (f := f) k (n + 1) with h1 | ⟨h1, h2, h3⟩
      · exact .inl h1
      · exact .inr ⟨by omega, by omega, h3⟩
theorem dryFor_at {h w n : Int} : ∀ {k : Nat}, dryFor h w n k = true → ∀ i : Nat, i < k → isDry h w (n + i) = true
  | 0, _, i, hi => by omega
  | k + 1, e, i, hi => by
    have e : dryFor h w n k = true ∧ isDry h w (n + k) = true := by simpa [dryFor] using e
    by_cases hik : i = k
    · rw [hik]; exact e.2
    · exact dryFor_at e.1 i (by omega)
theorem dryFor_no {h w n : Int} : ∀ {k : Nat} {i : Nat}, i < k → isDry h w (n + i) = false → dryFor h w n k = false
  | 0, i, hi, _ => by omega
  | k + 1, i, hi, e => by
    show (dryFor h w n k && isDry h w (n + k)) = false
    by_cases hik : i = k
    · rw [← hik, e, Bool.and_false]
    · rw [dryFor_no (k := k) (i := i) (by omega) e, Bool.false_and]
theorem dryFor_next {h w n : Int} {k : Nat} (e : dryFor h w n k = true) (hd : isDry h w (n + k) = true) : dryFor h w n (k + 1) = true := by
  show (dryFor h w n k && isDry h w (n + k)) = true
  rw [e, hd]; rfl
theorem cross_yes {h w n l : Int} (e : canCross h w n l = true) : (0 ≤ l ∧ l ≤ 100) ∧ dryFor h w n (l.toNat + 1) = true := by simpa [canCross, longOk] using e
end Go.Proofs.Ytkbgbllcekmfcaa.Tid
