/- Words as sets of places: plain facts. -/
import Derived.Test.YtbibkjponadipaaDoorMBase
import Derived.Laws.Bits64b
import Derived.Lib.TrailingZeros
namespace Go.Proofs.YtbibkjponadipaaDoor.Pc
/-- The places of a word, in ascending order. -/
def els (p : Nat) : List Int := ((List.range 64).filter (fun i => p.testBit i)).map (fun n : Nat => (n : Int))
theorem els_zero : els 0 = [] := by
  unfold els
  rw [List.filter_eq_nil_iff.2 (by intro a _; simp)]; rfl
theorem low_bits (k m : Nat) (i : Nat) : (2 ^ k * (2 * m + 1)).testBit i = if i < k then false else if i = k then true else m.testBit (i - (k + 1)) := by
  rw [Nat.testBit_two_pow_mul]
  by_cases h : i < k
  · rw [if_pos h]; simp; intro h'; omega
  · by_cases h2 : i = k
    · subst h2; simp
    · rw [if_neg h, if_neg h2]
      obtain ⟨t, rfl⟩ : ∃ t, i = k + 1 + t := ⟨i - (k + 1), by omega⟩
      rw [show k + 1 + t - k = t + 1 by omega, Nat.testBit_succ, show (2 * m + 1) / 2 = m by omega, show k + 1 + t - (k + 1) = t by omega]
      simp; omega
theorem low_pred (k m : Nat) (i : Nat) : (2 ^ k * (2 * m + 1) - 1).testBit i = if i < k then true else if i = k then false else m.testBit (i - (k + 1)) := by
  have hp : 0 < 2 ^ k := Nat.two_pow_pos k
  have e : 2 ^ k * (2 * m + 1) - 1 = 2 ^ k * (2 * m) + (2 ^ k - 1) := by
    rw [Nat.mul_add, Nat.mul_one]; omega
  rw [e, Nat.testBit_two_pow_mul_add _ (by omega)]
  by_cases h : i < k
  · simp [h]
  · by_cases h2 : i = k
    · subst h2; simp
    · rw [if_neg h, if_neg h, if_neg h2]
      obtain ⟨t, rfl⟩ : ∃ t, i = k + 1 + t := ⟨i - (k + 1), by omega⟩
      rw [show k + 1 + t - k = t + 1 by omega, Nat.testBit_succ, show (2 * m) / 2 = m by omega, show k + 1 + t - (k + 1) = t by omega]
theorem low_rest (k m : Nat) (i : Nat) : (2 ^ k * (2 * m + 1) &&& (2 ^ k * (2 * m + 1) - 1)).testBit i = if i < k + 1 then false else m.testBit (i - (k + 1)) := by
  rw [Nat.testBit_and, low_bits, low_pred]
  by_cases h : i < k
  · simp [h]; omega
  · by_cases h2 : i = k
    · subst h2; simp
    · rw [if_neg h, if_neg h, if_neg h2, if_neg h2, if_neg (by omega)]; simp
theorem range_at {k : Nat} (hk : k < 64) : List.range 64 = List.range k ++ k :: List.range' (k + 1) (63 - k) := by
  rw [List.range_eq_range', List.range_eq_range']
  rw [show (k :: List.range' (k + 1) (63 - k)) = List.range' k (64 - k) by rw [show 64 - k = (63 - k) + 1 by omega, List.range'_succ]]
  have h := @List.range'_append 0 k (64 - k) 1
  simp only [Nat.zero_add, Nat.one_mul] at h
  rw [h, show k + (64 - k) = 64 by omega]
/-- The lowest place, and the rest. -/
theorem els_low {x : Nat} (h0 : x ≠ 0) (hx : x < 2 ^ 64) : els x = (Go.Lib.ctz 64 x : Int) :: els (x &&& (x - 1)) ∧ Go.Lib.ctz 64 x < 64 := by
  obtain ⟨m, hm, hk⟩ := Go.Lib.ctzFrom_spec 64 x (by omega) hx
  have hc : Go.Lib.ctz 64 x = Go.Lib.ctzFrom 64 x := by unfold Go.Lib.ctz; rw [if_neg h0]
  rw [hc]
  generalize Go.Lib.ctzFrom 64 x = k at *
  refine ⟨?_, hk⟩
  subst hm
  unfold els
  rw [range_at hk, List.filter_append, List.filter_append, List.filter_cons, List.filter_cons]
  have e1 : (List.range k).filter (fun i => (2 ^ k * (2 * m + 1)).testBit i) = [] := by
    rw [List.filter_eq_nil_iff]; intro a ha; rw [List.mem_range] at ha; rw [low_bits, if_pos ha]; simp
  have e2 : (List.range k).filter (fun i => (2 ^ k * (2 * m + 1) &&& (2 ^ k * (2 * m + 1) - 1)).testBit i) = [] := by
    rw [List.filter_eq_nil_iff]; intro a ha; rw [List.mem_range] at ha; rw [low_rest, if_pos (by omega)]; simp
  have e3 : (List.range' (k + 1) (63 - k)).filter (fun i => (2 ^ k * (2 * m + 1)).testBit i) = (List.range' (k + 1) (63 - k)).filter (fun i => (2 ^ k * (2 * m + 1) &&& (2 ^ k * (2 * m + 1) - 1)).testBit i) := by
    apply List.filter_congr
    intro a ha
    rw [List.mem_range'_1] at ha
    rw [low_bits, low_rest, if_neg (by omega), if_neg (by omega), if_neg (by omega)]
  rw [e1, e2, e3, low_bits, low_rest]
  simp
theorem rest_lt {x : Nat} (h0 : x ≠ 0) : (x &&& (x - 1)) < x := Nat.lt_of_le_of_lt Nat.and_le_right (by omega)
theorem rest_two {x : Nat} (hx : x < 2 ^ 64) : (x &&& (x - 1)) < 2 ^ 64 := Nat.lt_of_le_of_lt Nat.and_le_left hx
theorem els_len (p : Nat) : (els p).length ≤ 64 := by
  unfold els; rw [List.length_map]; exact Nat.le_trans (List.length_filter_le _ _) (by simp)
/-- Two words with the same places below 64 are one; a list of places by a test. -/
theorem els_by {p : Nat} {f : Nat → Bool} (h : ∀ i, i < 64 → p.testBit i = f i) : els p = ((List.range 64).filter f).map (fun n : Nat => (n : Int)) := by
  unfold els
  rw [List.filter_congr (fun a ha => h a (List.mem_range.1 ha))]
theorem with_bit (p n i : Nat) : (p ||| 2 ^ n).testBit i = (p.testBit i || decide (n = i)) := by
  rw [Nat.testBit_or, Nat.testBit_two_pow]
theorem with_lt {p n : Nat} (hp : p < 2 ^ 64) (hn : n < 64) : p ||| 2 ^ n < 2 ^ 64 := Nat.or_lt_two_pow hp (Nat.pow_lt_pow_right (by decide) hn)
theorem wrap64 (n : Nat) : Go.IntKind.u64.wrap (n : Int) = ((n % 18446744073709551616 : Nat) : Int) := by rw [Go.IntKind.wrap_u64]; omega
theorem shr_eq (x n : Nat) : (x : Int) / 2 ^ n = ((x / 2 ^ n : Nat) : Int) := by
  rw [Int.natCast_ediv, Int.natCast_pow]; rfl
theorem shl_eq (x n : Nat) : Go.IntKind.u64.wrap ((x : Int) * 2 ^ n) = ((x * 2 ^ n % 18446744073709551616 : Nat) : Int) := by
  rw [show (x : Int) * 2 ^ n = ((x * 2 ^ n : Nat) : Int) by rw [Int.natCast_mul, Int.natCast_pow]; rfl, wrap64]
theorem shl_bit (x n i : Nat) : (x * 2 ^ n % 18446744073709551616).testBit i = (decide (i < 64) && (decide (n ≤ i) && x.testBit (i - n))) := by
  rw [show (18446744073709551616 : Nat) = 2 ^ 64 by rfl, Nat.testBit_mod_two_pow, Nat.mul_comm, Nat.testBit_two_pow_mul]
theorem shl_lt (x n : Nat) : x * 2 ^ n % 18446744073709551616 < 2 ^ 64 := Nat.mod_lt _ (by decide)
theorem shr_lt {x : Nat} (n : Nat) (h : x < 2 ^ 64) : x / 2 ^ n < 2 ^ 64 := Nat.lt_of_le_of_lt (Nat.div_le_self _ _) h
theorem shr_bit (x n i : Nat) : (x / 2 ^ n).testBit i = x.testBit (n + i) := by
  rw [Nat.testBit_div_two_pow, Nat.add_comm]
/-- What of a is not of b. -/
def andN (a b : Nat) : Nat := a &&& (2 ^ 64 - (b + 1))
theorem andN_bit {a b i : Nat} (hb : b < 2 ^ 64) (hi : i < 64) : (andN a b).testBit i = (a.testBit i && !b.testBit i) := by
  unfold andN
  rw [Nat.testBit_and, Nat.testBit_two_pow_sub_succ hb]
  simp [hi]
theorem andN_lt {a b : Nat} (ha : a < 2 ^ 64) : andN a b < 2 ^ 64 := Nat.lt_of_le_of_lt Nat.and_le_left ha
theorem bits_andN (a b : Nat) (ha : a < 18446744073709551616) (hb : b < 18446744073709551616) :
    Go.bits .andNot .u64 (a : Int) (b : Int) = ((andN a b : Nat) : Int) := by
  have hx : andN a b < 2 ^ 64 := andN_lt (by omega)
  have h1 : (BitVec.ofInt 64 (a : Int)).toNat = a := by
    rw [BitVec.ofInt_natCast, BitVec.toNat_ofNat]; exact Nat.mod_eq_of_lt (by omega)
  have h2 : (BitVec.ofInt 64 (b : Int)).toNat = b := by
    rw [BitVec.ofInt_natCast, BitVec.toNat_ofNat]; exact Nat.mod_eq_of_lt (by omega)
  show Go.IntKind.u64.wrap ((BitVec.ofInt 64 (a : Int) &&& ~~~ BitVec.ofInt 64 (b : Int)).toNat : Int) = _
  rw [BitVec.toNat_and, BitVec.toNat_not, h1, h2, Go.IntKind.wrap_u64]
  have e : a &&& (2 ^ 64 - 1 - b) = andN a b := by unfold andN; rw [show 2 ^ 64 - 1 - b = 2 ^ 64 - (b + 1) by omega]
  rw [e]
  omega
theorem bit_out {x i : Nat} (hx : x < 2 ^ 64) (hi : 64 ≤ i) : x.testBit i = false :=
  Nat.testBit_lt_two_pow (Nat.lt_of_lt_of_le hx (Nat.pow_le_pow_right (by decide) hi))
/-- Two words with the same places are one. -/
theorem word_eq {x y : Nat} (hx : x < 2 ^ 64) (hy : y < 2 ^ 64) (h : ∀ i, i < 64 → x.testBit i = y.testBit i) : x = y := by
  refine Nat.eq_of_testBit_eq fun i => ?_
  by_cases hi : i < 64
  · exact h i hi
  · rw [bit_out hx (by omega), bit_out hy (by omega)]
end Go.Proofs.YtbibkjponadipaaDoor.Pc
