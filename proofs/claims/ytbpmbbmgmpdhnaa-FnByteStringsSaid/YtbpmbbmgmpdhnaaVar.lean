/- Plain facts on varints: how a number is cut into groups of seven bits, and how it is read back. No model of memory. -/
import Derived.Test.YtbpmbbmgmpdhnaaRow
namespace Go.Proofs.Ytbpmbbmgmpdhnaa.Var
open Go.RowKit Kit Rw

/-- The varint of a number. -/
def enc (n : Nat) : List Int := if n > 127 then ((n % 128 + 128 : Nat) : Int) :: enc (n / 128) else [(n : Int)]
termination_by n
decreasing_by omega

theorem enc_more {n : Nat} (h : n > 127) : enc n = ((n % 128 + 128 : Nat) : Int) :: enc (n / 128) := by rw [enc, if_pos h]
theorem enc_last {n : Nat} (h : ¬ n > 127) : enc n = [(n : Int)] := by rw [enc, if_neg h]
theorem enc_wf (n : Nat) : ∀ x ∈ enc n, (Lit.int .u8 x).wf = true := by
  induction n using Nat.strongRecOn with
  | _ n ih =>
    intro x hx
    by_cases h : n > 127
    · rw [enc_more h, List.mem_cons] at hx
      rcases hx with rfl | hx
      · exact u8_mk (by omega)
      · exact ih _ (by omega) x hx
    · rw [enc_last h, List.mem_singleton] at hx
      subst hx
      exact u8_mk (by omega)
theorem enc_len : ∀ (j n : Nat), n < 128 ^ (j + 1) → 1 ≤ (enc n).length ∧ (enc n).length ≤ j + 1
  | 0, n, h => by rw [enc_last (by omega)]; simp
  | j + 1, n, h => by
    by_cases hm : n > 127
    · have := enc_len j (n / 128) (by rw [Nat.pow_succ] at h; omega)
      rw [enc_more hm]; simp only [List.length_cons]; omega
    · rw [enc_last hm]; simp
/-- What a number that may lie outside the range is written as. -/
def encI (n : Int) : List Int := if 0 ≤ n ∧ n ≤ 1000000000000 then enc n.toNat else []
theorem encI_len (n : Int) : (encI n).length ≤ 6 := by
  unfold encI; split
  · have := enc_len 5 n.toNat (by omega); omega
  · simp
theorem encI_wf (n : Int) : ∀ x ∈ encI n, (Lit.int .u8 x).wf = true := by
  unfold encI; split
  · exact enc_wf _
  · simp

/-- The reader: from group k on, with n gathered so far; what it answers: the number, and how many groups it took. -/
def rdk : List Int → Nat → Int → Option (Int × Nat)
  | [], _, _ => none
  | x :: R, k, n =>
    if k < 6 then
      if x < 128 then (if (x = 0 ∧ 0 < k) ∨ n + x * 128 ^ k > 1000000000000 then none else some (n + x * 128 ^ k, k + 1))
      else rdk R (k + 1) (n + (x - 128) * 128 ^ k)
    else none
theorem rdk_end (n : Int) (R : List Int) {k : Nat} (hk : 6 ≤ k) : rdk R k n = none := by
  cases R with
  | nil => rfl
  | cons x R => rw [rdk, if_neg (by omega)]
theorem rdk_nil (n : Int) (k : Nat) : rdk [] k n = none := rfl

/-- What is read from a number's varint. -/
theorem rdk_enc : ∀ (f m k : Nat) (a : Int) (R : List Int), m < 128 ^ f → k + f ≤ 6 → (0 < k → 0 < m) → 0 < f → a + (m : Int) * 128 ^ k ≤ 1000000000000 →
    rdk (enc m ++ R) k a = some (a + (m : Int) * 128 ^ k, k + (enc m).length)
  | 0, m, k, a, R, h, hk, hp, hf, hle => by omega
  | f + 1, m, k, a, R, h, hk, hp, hf, hle => by
    by_cases hm : m > 127
    · rw [enc_more hm, List.cons_append, rdk, if_pos (by omega), if_neg (by omega)]
      have hf0 : 0 < f := by
        cases f with
        | zero => simp at h; omega
        | succ f => omega
      have e : a + ((((m % 128 + 128 : Nat) : Int)) - 128) * 128 ^ k + ((m / 128 : Nat) : Int) * 128 ^ (k + 1) = a + (m : Int) * 128 ^ k := by
        have hd : (m : Int) = 128 * ((m / 128 : Nat) : Int) + ((m % 128 : Nat) : Int) := by omega
        have h1 : (((m % 128 + 128 : Nat) : Int)) - 128 = ((m % 128 : Nat) : Int) := by omega
        rw [h1, Int.pow_succ]
        generalize ((m / 128 : Nat) : Int) = q at *
        generalize ((m % 128 : Nat) : Int) = r at *
        generalize (128 : Int) ^ k = p at *
        rw [hd, Int.add_mul, ← Int.mul_assoc q p 128, Int.mul_comm (q * p) 128, Int.mul_assoc 128 q p]
        omega
      rw [rdk_enc f (m / 128) (k + 1) _ R (by rw [Nat.pow_succ] at h; omega) (by omega) (by omega) hf0 (by rw [e]; exact hle), e]
      simp only [List.length_cons]
      congr 2
      omega
    · rw [enc_last hm, List.singleton_append, rdk, if_pos (by omega), if_pos (by omega), if_neg (by
        rintro (⟨h1, h2⟩ | h1)
        · have := hp h2; omega
        · omega)]
      simp

/-- What has been read is the varint of its number. -/
theorem enc_rdk : ∀ (f k : Nat) (a : Int) (R : List Int) (n : Int) (j : Nat), k + f = 6 → (∀ x ∈ R, 0 ≤ x ∧ x ≤ 255) → rdk R k a = some (n, j) →
    ∃ m : Nat, n = a + (m : Int) * 128 ^ k ∧ n ≤ 1000000000000 ∧ (0 < k → 0 < m) ∧ j = k + (enc m).length ∧ j ≤ k + R.length ∧ enc m = R.take (j - k)
  | 0, k, a, R, n, j, hk, hR, h => by rw [rdk_end a R (by omega)] at h; cases h
  | f + 1, k, a, [], n, j, hk, hR, h => by cases h
  | f + 1, k, a, x :: R, n, j, hk, hR, h => by
    have hx := hR x (by simp)
    rw [rdk, if_pos (by omega)] at h
    by_cases hx1 : x < 128
    · rw [if_pos hx1] at h
      split at h
      · cases h
      · rename_i hno
        injection h with h
        injection h with h1 h2
        refine ⟨x.toNat, ?_, ?_, ?_, ?_, ?_, ?_⟩
        · rw [← h1, Int.toNat_of_nonneg hx.1]
        · rw [← h1]; exact Int.not_lt.1 (fun hh => hno (.inr hh))
        · intro hk0
          have : x ≠ 0 := fun hh => hno (.inl ⟨hh, hk0⟩)
          omega
        · rw [enc_last (by omega)]; simp [← h2]
        · simp only [List.length_cons]; omega
        · rw [enc_last (by omega), ← h2, show k + 1 - k = 1 by omega, Int.toNat_of_nonneg hx.1]; simp
    · rw [if_neg hx1] at h
      obtain ⟨m, e1, e2, e3, e4, e5, e6⟩ := enc_rdk f (k + 1) _ R n j (by omega) (fun y hy => hR y (by simp [hy])) h
      have hm := e3 (by omega)
      have hd : (x - 128).toNat < 128 := by omega
      have hb : (128 * m + (x - 128).toNat) / 128 = m := by omega
      have hr : (128 * m + (x - 128).toNat) % 128 = (x - 128).toNat := by omega
      have he : enc (128 * m + (x - 128).toNat) = x :: enc m := by
        rw [enc_more (by omega), hb, hr]
        congr 1
        omega
      refine ⟨128 * m + (x - 128).toNat, ?_, e2, fun _ => by omega, ?_, ?_, ?_⟩
      · rw [e1, Int.pow_succ]
        have : ((128 * m + (x - 128).toNat : Nat) : Int) = 128 * (m : Int) + (x - 128) := by omega
        rw [this]
        generalize (128 : Int) ^ k = p
        rw [Int.add_mul, ← Int.mul_assoc (m : Int) p 128, Int.mul_comm ((m : Int) * p) 128, Int.mul_assoc 128 (m : Int) p]
        omega
      · rw [he, e4]; simp only [List.length_cons]; omega
      · simp only [List.length_cons]; omega
      · rw [he, show j - k = (j - (k + 1)) + 1 by omega, List.take_succ_cons, e6]

/-- What ReadUvarint answers: the number, the offset behind it, whether there is one. -/
def rd (L : List Int) (at' : Int) : Int × Int × Bool :=
  if 0 ≤ at' ∧ at' ≤ L.length then
    match rdk (L.drop at'.toNat) 0 0 with
    | some (n, j) => (n, at' + j, true)
    | none => (0, 0, false)
  else (0, 0, false)

theorem and_127 (x : Int) (h0 : 0 ≤ x) (h1 : x ≤ 9223372036854775807) : bits .and .i64 x 127 = x % 128 := by
  show IntKind.i64.wrap ((BitVec.ofInt 64 x &&& BitVec.ofInt 64 127).toNat : Int) = _
  have h : (BitVec.ofInt 64 x &&& BitVec.ofInt 64 127).toNat = x.toNat % 128 := by
    rw [BitVec.toNat_and, BitVec.toNat_ofInt, BitVec.toNat_ofInt]
    have h2 : ((127 : Int) % ((2 ^ 64 : Nat) : Int)).toNat = 2 ^ 7 - 1 := by decide
    rw [h2, Nat.and_two_pow_sub_one_eq_mod]
    have h3 : (x % ((2 ^ 64 : Nat) : Int)).toNat = x.toNat := by
      congr 1
      exact Int.emod_eq_of_lt h0 (by omega)
    rw [h3]
  rw [h, IntKind.wrap_i64]
  omega
/-- 'or' of two numbers whose bits don't meet adds them. -/
theorem or_add (a b : Int) (i : Nat) (ha0 : 0 ≤ a) (ha1 : a < 2 ^ i) (hb0 : 0 ≤ b) (hb1 : a + b ≤ 9223372036854775807) (hd : (2 ^ i : Int) ∣ b) : bits .or .i64 a b = a + b := by
  show IntKind.i64.wrap ((BitVec.ofInt 64 a ||| BitVec.ofInt 64 b).toNat : Int) = _
  obtain ⟨q, rfl⟩ := hd
  have hp : (0 : Int) < 2 ^ i := Int.pow_pos (by decide)
  have hq0 : 0 ≤ q := by
    apply Int.not_lt.1
    intro hq
    have := Int.mul_neg_of_pos_of_neg hp hq
    omega
  obtain ⟨c, rfl⟩ : ∃ c : Nat, q = c := ⟨q.toNat, by omega⟩
  obtain ⟨d, rfl⟩ : ∃ d : Nat, a = d := ⟨a.toNat, by omega⟩
  have ec : ((2 : Int) ^ i * (c : Int)) = ((2 ^ i * c : Nat) : Int) := by push_cast; rfl
  rw [ec] at hb0 hb1 ⊢
  have hd1 : d < 2 ^ i := by
    have : ((d : Nat) : Int) < ((2 ^ i : Nat) : Int) := by push_cast; exact ha1
    omega
  generalize hN : 2 ^ i * c = N at *
  have h : (BitVec.ofInt 64 (d : Int) ||| BitVec.ofInt 64 (N : Int)).toNat = d + N := by
    rw [BitVec.toNat_or, BitVec.toNat_ofInt, BitVec.toNat_ofInt]
    have h3 : ((d : Int) % ((2 ^ 64 : Nat) : Int)).toNat = d := by
      rw [Int.emod_eq_of_lt (by omega) (by omega)]; omega
    have h4 : ((N : Int) % ((2 ^ 64 : Nat) : Int)).toNat = N := by
      rw [Int.emod_eq_of_lt (by omega) (by omega)]; omega
    rw [h3, h4, ← hN, Nat.or_comm, ← Nat.two_pow_add_eq_or_of_lt hd1]
    omega
  rw [h, IntKind.wrap_i64]
  omega
theorem or_128 (x : Int) (h0 : 0 ≤ x) (h1 : x < 128) : bits .or .i64 x 128 = x + 128 := or_add x 128 7 h0 (by simpa using h1) (by decide) (by omega) ⟨1, by decide⟩

/-- One more group of seven bits. -/
theorem or_group (r y : Int) (k : Nat) (hk : k ≤ 5) (hr : 0 ≤ r ∧ r < 128 ^ k) (hy : 0 ≤ y ∧ y < 128) :
    bits .or .i64 r (wrap64 (y * 2 ^ (7 * k))) = r + y * 128 ^ k ∧ 0 ≤ r + y * 128 ^ k ∧ r + y * 128 ^ k < 128 ^ (k + 1) := by
  have key : ∀ (i : Nat) (p : Int), (2 : Int) ^ i = p → 0 < p → p ≤ 34359738368 → (0 ≤ r ∧ r < p) → bits .or .i64 r (wrap64 (y * p)) = r + y * p ∧ 0 ≤ r + y * p ∧ r + y * p < p * 128 := by
    intro i p hp h0 h1 hr
    have hb : 0 ≤ y * p ∧ y * p ≤ 127 * p := ⟨Int.mul_nonneg hy.1 (by omega), Int.mul_le_mul_of_nonneg_right (by omega) (by omega)⟩
    have hw : wrap64 (y * p) = y * p := Go.IntWalk.wrap64_in _ (by omega)
    rw [hw]
    refine ⟨or_add r (y * p) i hr.1 (by rw [hp]; exact hr.2) hb.1 (by omega) ⟨y, by rw [hp, Int.mul_comm]⟩, by omega, by omega⟩
  obtain rfl | rfl | rfl | rfl | rfl | rfl : k = 0 ∨ k = 1 ∨ k = 2 ∨ k = 3 ∨ k = 4 ∨ k = 5 := by omega
  · exact key 0 1 (by decide) (by decide) (by decide) hr
  · exact key 7 128 (by decide) (by decide) (by decide) hr
  · exact key 14 16384 (by decide) (by decide) (by decide) hr
  · exact key 21 2097152 (by decide) (by decide) (by decide) hr
  · exact key 28 268435456 (by decide) (by decide) (by decide) hr
  · exact key 35 34359738368 (by decide) (by decide) (by decide) hr

theorem drop_cons {L : List Int} {i : Nat} (h : i < L.length) : L.drop i = L.getD i 0 :: L.drop (i + 1) := by
  rw [List.drop_eq_getElem_cons h]
  simp [h]
theorem rdk_more {L : List Int} {m k : Nat} {r x : Int} (h : m + k < L.length) (hk : k < 6) (hx : x = L.getD (m + k) 0) (hx1 : 128 ≤ x) (hx2 : x ≤ 255) :
    rdk (L.drop (m + k)) k r = rdk (L.drop (m + (k + 1))) (k + 1) (r + x % 128 * 128 ^ k) := by
  rw [drop_cons h, ← hx, rdk, if_pos hk, if_neg (by omega), show x % 128 = x - 128 by omega]
  rfl
theorem rdk_last {L : List Int} {m k : Nat} {r x : Int} (h : m + k < L.length) (hk : k < 6) (hx : x = L.getD (m + k) 0) (hx1 : 0 ≤ x) (hx2 : x < 128) :
    rdk (L.drop (m + k)) k r = if (x = 0 ∧ 0 < k) ∨ r + x % 128 * 128 ^ k > 1000000000000 then none else some (r + x % 128 * 128 ^ k, k + 1) := by
  rw [drop_cons h, ← hx, rdk, if_pos hk, if_pos hx2, show x % 128 = x by omega]
theorem rdk_out {L : List Int} {m k : Nat} {r : Int} (h : k = 6 ∨ L.length ≤ m + k) : rdk (L.drop (m + k)) k r = none := by
  rcases h with rfl | h
  · exact rdk_end _ _ (Nat.le_refl _)
  · rw [List.drop_eq_nil_of_le h]; rfl
theorem rd_some {L : List Int} {m : Nat} {n : Int} {j : Nat} (hm : m ≤ L.length) (h : rdk (L.drop m) 0 0 = some (n, j)) : rd L m = (n, (m : Int) + j, true) := by
  unfold rd
  rw [if_pos (by omega), Int.toNat_natCast, h]
theorem rd_none {L : List Int} {m : Nat} (hm : m ≤ L.length) (h : rdk (L.drop m) 0 0 = none) : rd L m = (0, 0, false) := by
  unfold rd
  rw [if_pos (by omega), Int.toNat_natCast, h]
theorem rd_out {L : List Int} {n : Int} (h : ¬ (0 ≤ n ∧ n ≤ (L.length : Int))) : rd L n = (0, 0, false) := by
  unfold rd
  rw [if_neg h]
end Go.Proofs.Ytbpmbbmgmpdhnaa.Var
