/- Relays, as plain functions on numbers. -/
import Derived.Test.YtnjlgnbhjhfohaaTwo
namespace Go.Proofs.Ytnjlgnbhjhfohaa.Rel
open Go.RowKit

def ok (l n : Int) : Bool := decide (0 ≤ l ∧ l ≤ 10000) && decide (1 ≤ n ∧ n ≤ 100)
def outDays (l n : Int) : Int := if ok l n = true then l / (2 * n) else 0
def spareOk (l n d : Int) : Bool := ok l n && decide (0 ≤ d ∧ d ≤ 1000)
def spareAt (l n d : Int) : Int := if spareOk l n d = true then (if l - 2 * n * d < 0 then -1 else l - 2 * n * d) else -1
def tripsOk (l n d f : Int) : Bool := spareOk l n d && decide (0 ≤ f ∧ f ≤ 10000)
def tripsFor (l n d f : Int) : Int :=
  if tripsOk l n d f = true ∧ 0 ≤ spareAt l n d ∧ (0 < spareAt l n d ∨ f = 0) then (if f = 0 then 0 else (f + spareAt l n d - 1) / spareAt l n d) else -1
def eatenOk (n d : Int) : Bool := decide (1 ≤ n ∧ n ≤ 100) && decide (0 ≤ d ∧ d ≤ 1000)
def eaten (n d : Int) : Int := if eatenOk n d = true then n * d else 0

theorem ok_yes {l n : Int} (h : ok l n = true) : (0 ≤ l ∧ l ≤ 10000) ∧ 1 ≤ n ∧ n ≤ 100 := by simpa [ok] using h
theorem ok_mk {l n : Int} (h : (0 ≤ l ∧ l ≤ 10000) ∧ 1 ≤ n ∧ n ≤ 100) : ok l n = true := by simpa [ok] using h
theorem spareOk_yes {l n d : Int} (h : spareOk l n d = true) : ok l n = true ∧ 0 ≤ d ∧ d ≤ 1000 := by simpa [spareOk] using h
theorem spareOk_mk {l n d : Int} (h : ok l n = true) (h0 : 0 ≤ d) (h1 : d ≤ 1000) : spareOk l n d = true := by simp [spareOk, h, h0, h1]
theorem tripsOk_yes {l n d f : Int} (h : tripsOk l n d f = true) : spareOk l n d = true ∧ 0 ≤ f ∧ f ≤ 10000 := by simpa [tripsOk] using h
theorem eatenOk_yes {n d : Int} (h : eatenOk n d = true) : (1 ≤ n ∧ n ≤ 100) ∧ 0 ≤ d ∧ d ≤ 1000 := by simpa [eatenOk] using h
theorem prod_bd {n d : Int} (hn : 1 ≤ n ∧ n ≤ 100) (hd : 0 ≤ d ∧ d ≤ 1000) : 0 ≤ n * d ∧ n * d ≤ 100000 := by
  refine ⟨Int.mul_nonneg (by omega) hd.1, ?_⟩
  calc n * d ≤ 100 * 1000 := Int.mul_le_mul hn.2 hd.2 hd.1 (by omega)
  _ = 100000 := by decide
theorem prod2 (n d : Int) : 2 * n * d = 2 * (n * d) := Int.mul_assoc 2 n d
theorem eaten_nonneg (n d : Int) : 0 ≤ eaten n d := by
  unfold eaten
  split
  · rename_i h
    have := eatenOk_yes h
    exact (prod_bd this.1 this.2).1
  · omega
theorem spare_low (l n d : Int) : -1 ≤ spareAt l n d := by
  unfold spareAt; split
  · split <;> omega
  · omega
theorem spare_eq {l n d : Int} (h : spareOk l n d = true) (h0 : 0 ≤ l - 2 * n * d) : spareAt l n d = l - 2 * n * d := by
  unfold spareAt; rw [if_pos h, if_neg (by omega)]
theorem spare_neg {l n d : Int} (h : l - 2 * n * d < 0) : spareAt l n d = -1 := by
  unfold spareAt; rw [if_pos h]; split <;> rfl
theorem spare_no {l n d : Int} (h : ¬ spareOk l n d = true) : spareAt l n d = -1 := by unfold spareAt; rw [if_neg h]
theorem spare_nonneg {l n d : Int} (h : 0 ≤ spareAt l n d) : spareOk l n d = true ∧ 0 ≤ l - 2 * n * d ∧ spareAt l n d = l - 2 * n * d := by
  by_cases h1 : spareOk l n d = true
  · by_cases h2 : l - 2 * n * d < 0
    · rw [spare_neg h2] at h; omega
    · exact ⟨h1, by omega, spare_eq h1 (by omega)⟩
  · rw [spare_no h1] at h; omega
theorem spare_high (l n d : Int) : spareAt l n d ≤ 10000 := by
  by_cases h : 0 ≤ spareAt l n d
  · obtain ⟨h1, h2, h3⟩ := spare_nonneg h
    obtain ⟨h4, h5⟩ := spareOk_yes h1
    have h6 := ok_yes h4
    have := (prod_bd h6.2 h5).1
    rw [prod2] at h3
    omega
  · omega
theorem out_range (l n : Int) : 0 ≤ outDays l n ∧ outDays l n ≤ 5000 := by
  unfold outDays
  split
  · rename_i h
    have h := ok_yes h
    refine ⟨Int.ediv_nonneg (by omega) (by omega), ?_⟩
    have h1 : l / (2 * n) * 2 ≤ l := by
      have h2 := Int.ediv_mul_le l (show 2 * n ≠ 0 by omega)
      have h3 : 0 ≤ l / (2 * n) := Int.ediv_nonneg (by omega) (by omega)
      have h4 : l / (2 * n) * 2 ≤ l / (2 * n) * (2 * n) := Int.mul_le_mul_of_nonneg_left (by omega) h3
      omega
    omega
  · omega
/-- Out days are the most days of which one can come back. -/
theorem out_spare {l n : Int} (h : ok l n = true) : (outDays l n ≤ 1000 → 0 ≤ spareAt l n (outDays l n)) ∧ (outDays l n < 1000 → spareAt l n (outDays l n + 1) < 0) := by
  have hk := ok_yes h
  have hr := out_range l n
  have e : outDays l n = l / (2 * n) := by unfold outDays; rw [if_pos h]
  have h1 := Int.ediv_mul_le l (show 2 * n ≠ 0 by omega)
  have h2 := Int.lt_ediv_add_one_mul_self l (show 0 < 2 * n by omega)
  rw [← e, Int.mul_comm] at h1 h2
  refine ⟨fun hd => ?_, fun hd => ?_⟩
  · rw [spare_eq (spareOk_mk h hr.1 hd) (by omega)]; omega
  · rw [spare_neg (by omega)]; omega
theorem trips_nonneg {l n d f : Int} (h : tripsFor l n d f ≠ -1) : (0 ≤ f ∧ f ≤ 10000) ∧ 0 ≤ spareAt l n d ∧ (0 < spareAt l n d ∨ f = 0) ∧ tripsFor l n d f = if f = 0 then 0 else (f + spareAt l n d - 1) / spareAt l n d := by
  by_cases h1 : tripsOk l n d f = true ∧ 0 ≤ spareAt l n d ∧ (0 < spareAt l n d ∨ f = 0)
  · exact ⟨(tripsOk_yes h1.1).2, h1.2.1, h1.2.2, by unfold tripsFor; rw [if_pos h1]⟩
  · exact absurd (by unfold tripsFor; rw [if_neg h1]) h
theorem trips_range (l n d f : Int) : -1 ≤ tripsFor l n d f ∧ tripsFor l n d f ≤ 20000 := by
  by_cases h : tripsFor l n d f = -1
  · omega
  · obtain ⟨h1, h2, h3, h4⟩ := trips_nonneg h
    rw [h4]
    split
    · omega
    · rename_i hf
      have hs : 0 < spareAt l n d := by rcases h3 with h3 | h3; exact h3; exact absurd h3 hf
      have hh := spare_high l n d
      refine ⟨by have := Int.ediv_nonneg (show 0 ≤ f + spareAt l n d - 1 by omega) (show 0 ≤ spareAt l n d by omega); omega, ?_⟩
      exact Int.le_trans (Int.ediv_le_self _ (by omega)) (by omega)
/-- The trips bring enough, and one trip less would not. -/
theorem trips_enough {l n d f : Int} (h : 0 < tripsFor l n d f) : f ≤ tripsFor l n d f * spareAt l n d ∧ (tripsFor l n d f - 1) * spareAt l n d < f := by
  obtain ⟨h1, h2, h3, h4⟩ := trips_nonneg (l := l) (n := n) (d := d) (f := f) (by omega)
  by_cases hf : f = 0
  · rw [if_pos hf] at h4; omega
  have hs : 0 < spareAt l n d := by rcases h3 with h3 | h3; exact h3; exact absurd h3 hf
  rw [if_neg hf] at h4
  obtain ⟨s, hse⟩ : ∃ s, s = spareAt l n d := ⟨_, rfl⟩
  rw [← hse] at h4 hs ⊢
  have h5 := Int.ediv_mul_le (f + s - 1) (show s ≠ 0 by omega)
  have h6 := Int.lt_ediv_add_one_mul_self (f + s - 1) hs
  rw [← h4] at h5 h6
  rw [Int.sub_mul]
  rw [Int.add_mul] at h6
  omega
theorem trips_zero {l n d f : Int} (h : tripsFor l n d f = 0) : f = 0 := by
  obtain ⟨h1, h2, h3, h4⟩ := trips_nonneg (l := l) (n := n) (d := d) (f := f) (by omega)
  by_cases hf : f = 0
  · exact hf
  · rw [if_neg hf] at h4
    have hs : 0 < spareAt l n d := by rcases h3 with h3 | h3; exact h3; exact absurd h3 hf
    rw [h] at h4
    have h6 := Int.lt_ediv_add_one_mul_self (f + spareAt l n d - 1) hs
    rw [← h4] at h6
    omega

/-- d days out are possible with a depot e days out. -/
def works (l n k d e : Int) : Prop :=
  0 ≤ spareAt l n e ∧ n * e ≤ k * spareAt l n e ∧ n * (d - e) + (if 0 < n * e - (k * spareAt l n e - n * e) then n * e - (k * spareAt l n e - n * e) else 0) ≤ l - n * (d - e)
instance (l n k d e : Int) : Decidable (works l n k d e) := by unfold works; infer_instance
def farOk (l n k : Int) : Bool := decide (0 ≤ k ∧ k ≤ 20) && (decide (0 ≤ l ∧ l ≤ 1000) && decide (1 ≤ n ∧ n ≤ 100))
theorem farOk_yes {l n k : Int} (h : farOk l n k = true) : (0 ≤ k ∧ k ≤ 20) ∧ (0 ≤ l ∧ l ≤ 1000) ∧ 1 ≤ n ∧ n ≤ 100 := by simpa [farOk] using h
theorem farOk_mk {l n k : Int} (h : (0 ≤ k ∧ k ≤ 20) ∧ (0 ≤ l ∧ l ≤ 1000) ∧ 1 ≤ n ∧ n ≤ 100) : farOk l n k = true := by simpa [farOk] using h
/-- The farthest that one gets by a depot. -/
def FarP (l n k x : Int) : Prop := (0 ≤ x ∧ x ≤ l / n ∧ ∃ e, 0 ≤ e ∧ e ≤ x ∧ works l n k x e) ∧ ∀ d e, 0 ≤ e → e ≤ d → d ≤ l / n → works l n k d e → d ≤ x
theorem FarP.same {l n k x y : Int} (h : FarP l n k x) (g : FarP l n k y) : x = y := by
  obtain ⟨⟨h0, h1, e, h2, h3, h4⟩, h5⟩ := h
  obtain ⟨⟨g0, g1, f, g2, g3, g4⟩, g5⟩ := g
  have a := h5 y f g2 g3 g1 g4
  have b := g5 x e h2 h3 h1 h4
  omega
open Classical in
noncomputable def farBy (l n k : Int) : Int := if farOk l n k = true then (if h : ∃ x, FarP l n k x then Classical.choose h else 0) else -1
theorem farBy_eq {l n k x : Int} (ho : farOk l n k = true) (h : FarP l n k x) : farBy l n k = x := by
  unfold farBy
  rw [if_pos ho, dif_pos ⟨x, h⟩]
  exact (Classical.choose_spec (⟨x, h⟩ : ∃ x, FarP l n k x)).same h
theorem farBy_no {l n k : Int} (ho : ¬ farOk l n k = true) : farBy l n k = -1 := by unfold farBy; rw [if_neg ho]
end Go.Proofs.Ytnjlgnbhjhfohaa.Rel
