/- Plain facts on decimal numerals and on what a parse of one must answer: no model. -/
import Derived.Lib.ItoaNum
import Derived.Lib.AtoiAll
import Derived.Lib.AtoiAllCases
namespace Go.Proofs.YtfkaohgbjiphbaaDoor.Num
open Go.Lib

/-- The number that a row of digits spells. -/
def val (l : List UInt8) : Nat := l.foldl (fun a c => 10 * a + (c.toNat - 48)) 0
theorem val_snoc (l : List UInt8) (c : UInt8) : val (l ++ [c]) = 10 * val l + (c.toNat - 48) := by simp [val]
theorem digit_toNat {d : Nat} (h : d < 10) : (UInt8.ofNat (48 + d)).toNat = 48 + d := UInt8.toNat_ofNat_of_lt' (show 48 + d < 256 by omega)
theorem val_digits (m : Nat) : val (decDigits m) = m := by
  induction m using Nat.strongRecOn with
  | _ m ih =>
    by_cases h : m < 10
    · rw [decDigits_one h]; simp only [val, List.foldl_cons, List.foldl_nil]; rw [digit_toNat h]; omega
    · rw [decDigits, dif_neg h, val_snoc, ih (m / 10) (by omega), digit_toNat (by omega)]; omega
theorem digits_inj {m n : Nat} (h : decDigits m = decDigits n) : m = n := by rw [← val_digits m, h, val_digits n]
theorem digits_all (m : Nat) : ∀ c ∈ decDigits m, 48 ≤ c.toNat ∧ c.toNat ≤ 57 := by
  induction m using Nat.strongRecOn with
  | _ m ih =>
    intro c hc
    by_cases h : m < 10
    · rw [decDigits_one h] at hc; simp only [List.mem_singleton] at hc; subst hc; rw [digit_toNat h]; omega
    · rw [decDigits, dif_neg h, List.mem_append] at hc
      rcases hc with hc | hc
      · exact ih (m / 10) (by omega) c hc
      · simp only [List.mem_singleton] at hc; subst hc; rw [digit_toNat (by omega)]; omega
theorem nDigits_le : ∀ (k m : Nat), m < 10 ^ (k + 1) → nDigits m ≤ k + 1 := by
  intro k
  induction k with
  | zero => intro m h; rw [nDigits, dif_pos (by omega)]; omega
  | succ k ih =>
    intro m h
    by_cases hz : m < 10
    · rw [nDigits, dif_pos hz]; omega
    · rw [nDigits, dif_neg hz]
      have := ih (m / 10) (by rw [Nat.pow_succ] at h; omega)
      omega
theorem digits_len {m : Nat} (h : m ≤ 1000000000000) : 1 ≤ (decDigits m).length ∧ (decDigits m).length ≤ 13 := by
  rw [decDigits_length]
  refine ⟨?_, nDigits_le 12 m (by omega)⟩
  rw [nDigits]; split <;> omega
theorem parse_digits (m : Nat) (hm : m < 18446744073709551616) : ∀ r, parseUint10 0 (decDigits m ++ r) = parseUint10 m r := by
  induction m using Nat.strongRecOn with
  | _ m ih =>
    intro r
    by_cases h : m < 10
    · rw [decDigits_one h, List.singleton_append, parseUint10, digit_toNat h, if_pos (by omega), if_neg (by omega), if_neg (by omega)]
      congr 1; omega
    · rw [decDigits, dif_neg h, List.append_assoc, ih (m / 10) (by omega) (by omega), List.singleton_append, parseUint10, digit_toNat (by omega), if_pos (by omega), if_neg (by omega), if_neg (by omega)]
      congr 1; omega
theorem atoi_digits {m : Nat} (h : m ≤ 1000000000000) : atoiAll (decDigits m) = .ok (m : Int) := by
  cases hd : decDigits m with
  | nil => have := (digits_len h).1; rw [hd] at this; simp at this
  | cons c r =>
    have hc := digits_all m c (by rw [hd]; simp)
    rw [atoiAll_plain c r (by omega) (by omega), parseMag, if_neg (by simp), ← hd]
    have e := parse_digits m (by omega) []
    rw [List.append_nil] at e
    rw [e]
    simp only [parseUint10, signless]
    rw [if_neg (by omega)]

/-- What ParseInt answers at these bytes: 'v', 'b'. -/
def PRes (l : List UInt8) (v : Int) (b : Bool) : Prop :=
  (b = true ∧ ∃ m : Nat, m ≤ 1000000000000 ∧ decDigits m = l ∧ v = (m : Int)) ∨ (b = false ∧ v = 0 ∧ ∀ m : Nat, m ≤ 1000000000000 → decDigits m ≠ l)
theorem pres_one {l : List UInt8} {v v' : Int} {b b' : Bool} (h : PRes l v b) (h' : PRes l v' b') : v = v' ∧ b = b' := by
  rcases h with ⟨rfl, m, hm, rfl, rfl⟩ | ⟨rfl, rfl, hn⟩ <;> rcases h' with ⟨rfl, m', hm', e', rfl⟩ | ⟨rfl, rfl, hn'⟩
  · exact ⟨by rw [digits_inj e'], rfl⟩
  · exact absurd rfl (hn' m hm)
  · exact absurd e' (hn m' hm')
  · exact ⟨rfl, rfl⟩
theorem pres_yes {l : List UInt8} {m : Nat} (hm : m ≤ 1000000000000) (h : decDigits m = l) : PRes l m true := .inl ⟨rfl, m, hm, h, rfl⟩
theorem pres_no {l : List UInt8} (h : ∀ m : Nat, m ≤ 1000000000000 → decDigits m ≠ l) : PRes l 0 false := .inr ⟨rfl, rfl, h⟩
/-- A row that is too short or too long, or holds another byte, or spells another number, is no numeral. -/
theorem no_len {l : List UInt8} (h : ¬ (1 ≤ l.length ∧ l.length ≤ 13)) : PRes l 0 false := pres_no fun _ hm e => h (e ▸ digits_len hm)
theorem no_byte {l : List UInt8} {k : Nat} (hk : k < l.length) (h : ¬ (48 ≤ l[k].toNat ∧ l[k].toNat ≤ 57)) : PRes l 0 false :=
  pres_no fun m _ e => h (digits_all m _ (by rw [e]; exact List.getElem_mem hk))
theorem no_val {l : List UInt8} (h : 1000000000000 < val l) : PRes l 0 false := pres_no fun m hm e => by rw [← e, val_digits] at h; omega
theorem no_form {l : List UInt8} (h : decDigits (val l) ≠ l) : PRes l 0 false := pres_no fun m _ e => h (by rw [← e, val_digits])
/-- What strconv makes of it decides too. -/
theorem no_atoi {l : List UInt8} (h : ∀ v, atoiAll l ≠ .ok v) : PRes l 0 false := pres_no fun m hm e => h m (by rw [← e]; exact atoi_digits hm)
theorem no_atoi_range {l : List UInt8} {v : Int} (h : atoiAll l = .ok v) (hv : ¬ (0 ≤ v ∧ v ≤ 1000000000000)) : PRes l 0 false :=
  pres_no fun m hm e => by rw [← e, atoi_digits hm] at h; injection h with h; omega
theorem no_atoi_form {l : List UInt8} {m : Nat} (h : atoiAll l = .ok (m : Int)) (hf : decDigits m ≠ l) : PRes l 0 false :=
  pres_no fun n hn e => by rw [← e, atoi_digits hn] at h; injection h with h; exact hf (by rw [← e]; congr 1; omega)
theorem val_step {l : List UInt8} {c : UInt8} {k : Nat} (h : val l < 10 ^ k) (hc : c.toNat ≤ 57) : val (l ++ [c]) < 10 ^ (k + 1) := by
  rw [val_snoc, Nat.pow_succ]; omega
end Go.Proofs.YtfkaohgbjiphbaaDoor.Num
