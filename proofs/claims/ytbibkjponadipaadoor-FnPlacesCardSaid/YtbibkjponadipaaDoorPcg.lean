/- The places of a land that are a step away, and those within some days: plain facts. -/
import Derived.Test.YtbibkjponadipaaDoorPcb
import Derived.Test.YtbibkjponadipaaDoorWayH
namespace Go.Proofs.YtbibkjponadipaaDoor.Pc
open Go.RowKit Kit Rw Ld Bfs Wf

/-- The words that have a land's ground. -/
structure Gnd (W : Int) (X : List Int) (op lm rm : Nat) : Prop where
  opl : op < 2 ^ 64
  lml : lm < 2 ^ 64
  rml : rm < 2 ^ 64
  opb : ∀ i, i < 64 → (op.testBit i = true ↔ i < X.length ∧ X.getD i 0 ≠ 2)
  lmb : ∀ i, i < 64 → (lm.testBit i = true ↔ i < X.length ∧ (i : Int) % W = 0)
  rmb : ∀ i, i < 64 → (rm.testBit i = true ↔ i < X.length ∧ (i : Int) % W = W - 1)
def stepW (W : Nat) (op lm rm p : Nat) : Nat :=
  op &&& ((((p ||| andN p lm / 2 ^ 1) ||| (andN p rm * 2 ^ 1 % 18446744073709551616)) ||| p / 2 ^ W) ||| (p * 2 ^ W % 18446744073709551616))
theorem stepW_lt {W op lm rm p : Nat} (h : op < 2 ^ 64) : stepW W op lm rm p < 2 ^ 64 := Nat.lt_of_le_of_lt Nat.and_le_left h
theorem step_bit {W H op lm rm p i : Nat} {X : List Int} (hL : isLand W H X = true) (hg : Gnd W X op lm rm) (hp : p < 2 ^ 64) (hin : ∀ j, j < 64 → p.testBit j = true → j < X.length) (hi : i < 64) :
    (stepW W op lm rm p).testBit i = true ↔ i < X.length ∧ X.getD i 0 ≠ 2 ∧ (p.testBit i = true ∨ ∃ j : Nat, j < X.length ∧ p.testBit j = true ∧ (i : Int) ∈ near W j X) := by
  obtain ⟨hW, hH, hLen, _⟩ := isLand_of hL
  have h64 : X.length ≤ 64 := by have := area hW hH; omega
  unfold stepW
  rw [Nat.testBit_and, Nat.testBit_or, Nat.testBit_or, Nat.testBit_or, Nat.testBit_or, shr_bit, shr_bit, shl_bit, shl_bit]
  simp only [Bool.and_eq_true, Bool.or_eq_true, decide_eq_true_eq]
  rw [hg.opb i hi]
  have a1 : (andN p lm).testBit (1 + i) = true ↔ p.testBit (1 + i) = true ∧ 1 + i < X.length ∧ ¬ ((1 + i : Nat) : Int) % W = 0 := by
    by_cases h : 1 + i < 64
    · rw [andN_bit hg.lml h]
      have hb := hg.lmb (1 + i) h
      simp only [Bool.and_eq_true, Bool.not_eq_true', ← Bool.not_eq_true, hb]
      constructor
      · rintro ⟨h1, h2⟩
        have h3 := hin _ h h1
        exact ⟨h1, h3, fun h4 => h2 ⟨h3, h4⟩⟩
      · rintro ⟨h1, h2, h3⟩
        exact ⟨h1, fun h4 => h3 h4.2⟩
    · rw [bit_out (andN_lt hp) (by omega)]
      simp; omega
  have a2 : (andN p rm).testBit (i - 1) = true ↔ p.testBit (i - 1) = true ∧ ¬ ((i - 1 : Nat) : Int) % W = W - 1 := by
    rw [andN_bit hg.rml (by omega)]
    have hb := hg.rmb (i - 1) (by omega)
    simp only [Bool.and_eq_true, Bool.not_eq_true', ← Bool.not_eq_true, hb]
    constructor
    · rintro ⟨h1, h2⟩
      exact ⟨h1, fun h4 => h2 ⟨hin _ (by omega) h1, h4⟩⟩
    · rintro ⟨h1, h2⟩
      exact ⟨h1, fun h4 => h2 h4.2⟩
  rw [a1, a2]
  constructor
  · rintro ⟨⟨h1, h2⟩, (((h | h) | h) | h) | h⟩
    · exact ⟨h1, h2, .inl h⟩
    · obtain ⟨b1, b2, b3⟩ := h
      refine ⟨h1, h2, .inr ⟨1 + i, b2, b1, near_mk (by simpa using h2) (.inr (.inl ⟨?_, by omega⟩))⟩⟩
      have := Int.emod_nonneg ((1 + i : Nat) : Int) (show (W : Int) ≠ 0 by omega)
      omega
    · obtain ⟨_, b0, b1, b2⟩ := h
      refine ⟨h1, h2, .inr ⟨i - 1, by omega, b1, near_mk (by simpa using h2) (.inr (.inr (.inl ⟨?_, by omega⟩)))⟩⟩
      have := Int.emod_lt_of_pos ((i - 1 : Nat) : Int) (show (0 : Int) < W by omega)
      omega
    · have h3 : W + i < 64 := by
        by_cases h4 : W + i < 64
        · exact h4
        · rw [bit_out hp (by omega)] at h; cases h
      exact ⟨h1, h2, .inr ⟨W + i, hin _ h3 h, h, near_mk (by simpa using h2) (.inl ⟨by omega, by omega⟩)⟩⟩
    · obtain ⟨_, b0, b1⟩ := h
      exact ⟨h1, h2, .inr ⟨i - W, by omega, b1, near_mk (by simpa using h2) (.inr (.inr (.inr ⟨by omega, by omega⟩)))⟩⟩
  · rintro ⟨h1, h2, h⟩
    refine ⟨⟨h1, h2⟩, ?_⟩
    rcases h with h | ⟨j, hj, hb, hn⟩
    · exact .inl (.inl (.inl (.inl h)))
    · obtain ⟨_, hw⟩ := near_ways hn
      rcases hw with ⟨c1, c2⟩ | ⟨c1, c2⟩ | ⟨c1, c2⟩ | ⟨c1, c2⟩
      · have e : W + i = j := by omega
        exact .inl (.inr (by rw [e]; exact hb))
      · have e : 1 + i = j := by omega
        exact .inl (.inl (.inl (.inr (by rw [e]; exact ⟨hb, hj, by omega⟩))))
      · have e : i - 1 = j := by omega
        exact .inl (.inl (.inr ⟨hi, by omega, by rw [e]; exact ⟨hb, by omega⟩⟩))
      · have e : i - W = j := by omega
        exact .inr ⟨hi, by omega, by rw [e]; exact hb⟩

/-- Within so many days of one of some cells. -/
def Within (W H : Int) (X F : List Int) (s : Nat) (i : Nat) : Prop := ∃ f ∈ F, 0 ≤ daysOf W H X f i ∧ daysOf W H X f i ≤ s
theorem days_at {W H : Int} {X : List Int} {f i : Int} (h : 0 ≤ daysOf W H X f i) : isOpen W H X f = true ∧ isOpen W H X i = true ∧ daysOf W H X f i = at' (distL W X f) i := by
  unfold daysOf at h ⊢
  split
  · rename_i h1; exact ⟨h1.1, h1.2, rfl⟩
  · rename_i h1; rw [if_neg h1] at h; omega
theorem within_zero {W H : Int} {X F : List Int} {i : Nat} : Within W H X F 0 i ↔ (i : Int) ∈ F ∧ isOpen W H X i = true := by
  constructor
  · rintro ⟨f, hf, h0, h1⟩
    obtain ⟨o1, o2, e⟩ := days_at h0
    obtain ⟨p, q, n, rfl, rfl, rfl, hn, hL, _, _⟩ := open_nat o1
    obtain ⟨_, _, m, _, _, e2, hm, _⟩ := open_nat o2
    have D := dist_is hL (a := (n : Int)) (by omega) (by omega)
    by_cases hh : (i : Int) = n
    · rw [hh]; exact ⟨hf, o1⟩
    · obtain ⟨m', _, _, m3, _, m5⟩ := D.pre i (by omega) (by omega) hh (by omega)
      omega
  · rintro ⟨hf, ho⟩
    refine ⟨_, hf, ?_⟩
    obtain ⟨p, q, n, rfl, rfl, e, hn, hL, _, _⟩ := open_nat ho
    unfold daysOf
    rw [if_pos ⟨ho, ho⟩, (dist_is hL (a := (i : Int)) (by omega) (by omega)).src]
    omega
theorem within_next {W H : Int} {X F : List Int} {s i : Nat} : Within W H X F (s + 1) i ↔ i < X.length ∧ X.getD i 0 ≠ 2 ∧ (Within W H X F s i ∨ ∃ j : Nat, j < X.length ∧ Within W H X F s j ∧ (i : Int) ∈ near W j X) := by
  constructor
  · rintro ⟨f, hf, h0, h1⟩
    obtain ⟨o1, o2, e⟩ := days_at h0
    have hop := (isOpen_of o2).2
    obtain ⟨p, q, n, rfl, rfl, rfl, hn, hL, _, _⟩ := open_nat o1
    obtain ⟨_, _, m, _, _, e2, hm, _⟩ := open_nat o2
    have hil : i < X.length := by omega
    refine ⟨hil, by simpa using hop, ?_⟩
    by_cases hs : daysOf p q X n i ≤ s
    · exact .inl ⟨n, hf, h0, hs⟩
    · have D := dist_is hL (a := (n : Int)) (by omega) (by omega)
      have hne : (i : Int) ≠ n := fun hh => by rw [e, hh, D.src] at hs; omega
      obtain ⟨m', m0, m1, m3, m4, m5⟩ := D.pre i (by omega) (by omega) hne (by omega)
      refine .inr ⟨m'.toNat, by omega, ⟨n, hf, ?_⟩, by rw [show ((m'.toNat : Nat) : Int) = m' by omega]; exact m4⟩
      have ho' := dist_open o1 m0 m1 m3
      rw [show ((m'.toNat : Nat) : Int) = m' by omega]
      have e3 : daysOf p q X n m' = at' (distL p X n) m' := by unfold daysOf; rw [if_pos ⟨o1, ho'⟩]
      rw [e3]
      omega
  · rintro ⟨hi, hx, h⟩
    rcases h with ⟨f, hf, h0, h1⟩ | ⟨j, hj, ⟨f, hf, h0, h1⟩, hn⟩
    · exact ⟨f, hf, h0, by omega⟩
    · obtain ⟨o1, o2, e⟩ := days_at h0
      obtain ⟨p, q, n, rfl, rfl, rfl, hnn, hL, _, _⟩ := open_nat o1
      have D := dist_is hL (a := (n : Int)) (by omega) (by omega)
      have hh := D.nxt j (by omega) (by omega) (by omega) i hn
      have ho' := dist_open o1 (n := (i : Int)) (by omega) (by omega) hh.1
      have e3 : daysOf p q X n i = at' (distL p X n) i := by unfold daysOf; rw [if_pos ⟨o1, ho'⟩]
      exact ⟨n, hf, by rw [e3]; omega, by rw [e3]; omega⟩
def stepN (W op lm rm : Nat) : Nat → Nat → Nat
  | 0, p => p
  | s + 1, p => stepW W op lm rm (stepN W op lm rm s p)
theorem stepN_stop {W op lm rm p s : Nat} (h : stepN W op lm rm (s + 1) p = stepN W op lm rm s p) : ∀ k, stepN W op lm rm (s + k) p = stepN W op lm rm s p
  | 0 => rfl
  | k + 1 => by
    have ih := stepN_stop h k
    show stepW W op lm rm (stepN W op lm rm (s + k) p) = _
    rw [ih]; exact h
theorem within_len {W H : Int} {X F : List Int} {s i : Nat} (h : Within W H X F s i) : i < X.length ∧ isOpen W H X i = true := by
  obtain ⟨f, hf, h0, h1⟩ := h
  obtain ⟨o1, o2, e⟩ := days_at h0
  obtain ⟨_, _, m, _, _, e2, hm, _⟩ := open_nat o2
  exact ⟨by omega, o2⟩
/-- Step by step one comes to what is within so many days. -/
theorem stepN_bit {W H op lm rm p : Nat} {X F : List Int} (hL : isLand W H X = true) (hg : Gnd W X op lm rm) (hp : p < 2 ^ 64) (h0 : ∀ i, i < 64 → (p.testBit i = true ↔ Within W H X F 0 i)) :
    ∀ s : Nat, stepN W op lm rm s p < 2 ^ 64 ∧ ∀ i, i < 64 → ((stepN W op lm rm s p).testBit i = true ↔ Within W H X F s i)
  | 0 => ⟨hp, h0⟩
  | s + 1 => by
    obtain ⟨h1, h2⟩ := stepN_bit hL hg hp h0 s
    have h64 : X.length ≤ 64 := by
      obtain ⟨hW, hH, hLen, _⟩ := isLand_of hL
      have := area hW hH; omega
    refine ⟨stepW_lt hg.opl, fun i hi => ?_⟩
    show (stepW W op lm rm (stepN W op lm rm s p)).testBit i = true ↔ _
    rw [step_bit hL hg h1 (fun j hj hb => (within_len ((h2 j hj).1 hb)).1) hi, within_next, h2 i hi]
    constructor
    · rintro ⟨a, b, c⟩
      refine ⟨a, b, ?_⟩
      rcases c with c | ⟨j, c1, c2, c3⟩
      · exact .inl c
      · exact .inr ⟨j, c1, (h2 j (by omega)).1 c2, c3⟩
    · rintro ⟨a, b, c⟩
      refine ⟨a, b, ?_⟩
      rcases c with c | ⟨j, c1, c2, c3⟩
      · exact .inl c
      · exact .inr ⟨j, c1, (h2 j (by omega)).2 c2, c3⟩
end Go.Proofs.YtbibkjponadipaaDoor.Pc
