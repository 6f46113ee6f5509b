/- Plain facts on signs and sums: no program. -/
import Derived.Test.YtinpnedijmmpgaaMBase
import Derived.Test.YtinpnedijmmpgaaMBase
namespace Go.Proofs.Ytinpnedijmmpgaa.Sig
open Go.RowKit Kit Rw

/-- What is added up over the first j numbers. -/
def addTo (f : Nat → Int → Int → Int) (s : Int) (L : List Int) : Nat → Int
  | 0 => s
  | j + 1 => f j (addTo f s L j) (L.getD j 0)
def longOne (_ : Nat) (n x : Int) : Int := if x = 2 then wrap64 (n + 1) else n
def longs (L : List Int) : Int := addTo longOne 0 L L.length
def timeOf (x : Int) : Int := if x = 1 then 1 else if x = 2 then 3 else 0
def timeOne (_ : Nat) (n x : Int) : Int := wrap64 (n + timeOf x)
def pauses (n : Nat) : Int := if (0 : Int) < (n : Int) - 1 then (n : Int) - 1 else 0
def signTime (L : List Int) : Int := addTo timeOne (pauses L.length) L L.length
def capped (x : Int) : Int := if (-10000 : Int) < (if x < 10000 then x else 10000) then (if x < 10000 then x else 10000) else -10000
def sumOne (_ : Nat) (n x : Int) : Int := wrap64 (n + capped x)
def sumOf (L : List Int) : Int := addTo sumOne 0 L L.length
def atOne (B : List Int) (j : Nat) (n x : Int) : Int := if decide ((j : Int) ∈ B) = true then wrap64 (n + x) else n
def sumAt (L B : List Int) : Int := addTo (atOne B) 0 L L.length
def gapOne (B : List Int) (j : Nat) (n x : Int) : Int := if decide ((j : Int) ∈ B) = true then wrap64 (n + x) else wrap64 (n - x)
def gapTo (L B : List Int) : Int := addTo (gapOne B) 0 L L.length
def allOne (_ : Nat) (n x : Int) : Int := wrap64 (n + x)
def allOf (L : List Int) : Int := addTo allOne 0 L L.length
/-- What is not negative of a number and its opposite, as ints have it. -/
def absW (n : Int) : Int := if n < 0 then wrap64 (-n) else n
def gap (L B : List Int) : Int := absW (gapTo L B)
theorem wrap_in {a : Int} (h : -9223372036854775808 ≤ a ∧ a ≤ 9223372036854775807) : wrap64 a = a := by
  simp only [wrap64]; omega
theorem wrap_bd (a : Int) : -9223372036854775808 ≤ wrap64 a ∧ wrap64 a ≤ 9223372036854775807 := by
  simp only [wrap64]; omega
theorem wrap_ex (a : Int) : ∃ k : Int, wrap64 a = a + k * 18446744073709551616 := by
  refine ⟨-((a + 9223372036854775808) / 18446744073709551616), ?_⟩
  simp only [wrap64]; omega
theorem wrap_eq {a b : Int} (k : Int) (h : a = b + k * 18446744073709551616) : wrap64 a = wrap64 b := by
  subst h
  simp only [wrap64]; omega
theorem gap_step_out (p a x : Int) : wrap64 (p - wrap64 (wrap64 (a + x) - p)) = wrap64 (wrap64 (p - wrap64 (a - p)) - x) := by
  obtain ⟨k1, h1⟩ := wrap_ex (a + x)
  rw [h1]
  obtain ⟨k2, h2⟩ := wrap_ex (a + x + k1 * 18446744073709551616 - p)
  rw [h2]
  obtain ⟨k3, h3⟩ := wrap_ex (a - p)
  rw [h3]
  obtain ⟨k4, h4⟩ := wrap_ex (p - (a - p + k3 * 18446744073709551616))
  rw [h4]
  exact wrap_eq (k3 - k1 - k2 - k4) (by omega)
theorem gap_step_in (p a x : Int) : wrap64 (wrap64 (p + x) - wrap64 (wrap64 (a + x) - wrap64 (p + x))) = wrap64 (wrap64 (p - wrap64 (a - p)) + x) := by
  obtain ⟨k0, h0⟩ := wrap_ex (p + x)
  rw [h0]
  obtain ⟨k1, h1⟩ := wrap_ex (a + x)
  rw [h1]
  obtain ⟨k2, h2⟩ := wrap_ex (a + x + k1 * 18446744073709551616 - (p + x + k0 * 18446744073709551616))
  rw [h2]
  obtain ⟨k3, h3⟩ := wrap_ex (a - p)
  rw [h3]
  obtain ⟨k4, h4⟩ := wrap_ex (p - (a - p + k3 * 18446744073709551616))
  rw [h4]
  exact wrap_eq (2 * k0 + k3 - k1 - k2 - k4) (by omega)
theorem gap_twice (L B : List Int) : ∀ j, wrap64 (addTo (atOne B) 0 L j - wrap64 (addTo allOne 0 L j - addTo (atOne B) 0 L j)) = addTo (gapOne B) 0 L j
  | 0 => by simp [addTo, wrap64]
  | j + 1 => by
    have ih := gap_twice L B j
    simp only [addTo, atOne, allOne, gapOne]
    rw [← ih]
    cases decide ((j : Int) ∈ B)
    · simp only [Bool.false_eq_true, if_false]
      exact gap_step_out _ _ _
    · simp only [if_true]
      exact gap_step_in _ _ _
theorem gap_two (L B : List Int) : wrap64 (sumAt L B - wrap64 (allOf L - sumAt L B)) = gapTo L B := gap_twice L B L.length
theorem gapTo_bd (L B : List Int) : -9223372036854775808 ≤ gapTo L B ∧ gapTo L B ≤ 9223372036854775807 := by rw [← gap_two]; exact wrap_bd _
/-- A flash that is turned. -/
def flip (L : List Int) (i : Int) : List Int := if (0 ≤ i ∧ i ≤ (L.length : Int) - 1) ∧ (1 ≤ L.getD i.toNat 0 ∧ L.getD i.toNat 0 ≤ 2) then L.set i.toNat (3 - L.getD i.toNat 0) else L
theorem flip_len (L : List Int) (i : Int) : (flip L i).length = L.length := by unfold flip; split <;> simp
end Go.Proofs.Ytinpnedijmmpgaa.Sig
