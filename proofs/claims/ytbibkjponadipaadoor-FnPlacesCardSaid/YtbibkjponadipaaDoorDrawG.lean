/- How rows of the call's own and a cursor live beside one another. -/
import Derived.Test.YtbibkjponadipaaDoorNew
import Derived.Test.YtbibkjponadipaaDoorMBase
namespace Go.Proofs.YtbibkjponadipaaDoor.Draw
open Go.RowKit Kit Rw

/-- A call that writes one old block, then writes rows of its own. -/
theorem grown_mix {w w1 w2 : World} {r s : Option Nat} (h : w.grownBy w1 r) (k : w1.grownBy w2 s) (hs : ∀ c, s = some c → w.heap.size ≤ c) : w.grownBy w2 r :=
  ⟨k.os.trans h.os, k.tape.trans h.tape, k.output.trans h.output, Nat.le_trans h.size k.size, fun i hi hn => (k.block i (Nat.lt_of_lt_of_le hi h.size) (fun e => by have := hs i e.symm; omega)).trans (h.block i hi hn)⟩

theorem own_cur {k : IntKind} {E : TypeId} {w w' : World} {base c : Nat} {v : Value} {L : List Int} (h : Own k E w base v L) (hc : c < base) (hg : w.grownBy w' (some c)) : Own k E w' base v L :=
  h.kept hg (by
    cases hv : v.ownBlock with
    | none => exact .inl rfl
    | some d => have := h.lt d hv; exact .inr (by simp; omega))

theorem new_grown {w w' : World} (h : Below w.heap.size w w') {c : Nat} (hc : w.heap.size ≤ c) {w2 : World} (h2 : w'.grownBy w2 (some c)) : w.grownBy w2 none :=
  below_grown (h.grown h2 h.size (fun k hk => by injection hk with hk; omega))
end Go.Proofs.YtbibkjponadipaaDoor.Draw
