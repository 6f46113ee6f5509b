/- Contracts of the draws' cursor: each returns a number within its bounds and writes nothing old but the cursor's own block. The draw of a yes or no. A new cursor over the bytes that came in. How rows of the call's own and a cursor live beside one another. Results that lie in a block: a struct of one-cell fields, alone and ahead of others. No condition. Contract of the laws' test of the input's length. -/
import Derived.Test.YtinpnedijmmpgaaMBase
import Derived.Deep.QuietTactic
import Derived.BigQuiet
import Derived.Lib.Hide
import Derived.Laws.Rows
namespace Go.Proofs.Ytinpnedijmmpgaa.Draw
open Go.RowKit Kit

theorem and_255 (x : Int) : 0 ≤ bits .and .i64 x 255 ∧ bits .and .i64 x 255 ≤ 255 := by
  show 0 ≤ IntKind.i64.wrap ((BitVec.ofInt 64 x &&& BitVec.ofInt 64 255).toNat : Int) ∧ IntKind.i64.wrap ((BitVec.ofInt 64 x &&& BitVec.ofInt 64 255).toNat : Int) ≤ 255
  have h : (BitVec.ofInt 64 x &&& BitVec.ofInt 64 255).toNat ≤ 255 := by
    rw [BitVec.toNat_and]
    exact Nat.and_le_right
  rw [IntKind.wrap_i64]
  omega

/-- A draw below n: nought where n is not above nought. -/
def BelowP (n x : Int) : Prop := (0 < n → 0 ≤ x ∧ x < n) ∧ (n ≤ 0 → x = 0)
theorem list_cells (w : World) (vs : List Value) (T : TypeId) (j : Nat) (hj : j < vs.length) : (w.alloc (.cells vs.toArray T)).cell? ⟨w.heap.size, j, none⟩ = some (vs.getD j undef) := by
  rw [World.cell?_alloc_new]
  simp [hj]

end Go.Proofs.Ytinpnedijmmpgaa.Draw

namespace Go.Proofs.Ytinpnedijmmpgaa.Draw
open Go.RowKit Kit

end Go.Proofs.Ytinpnedijmmpgaa.Draw

namespace Go.Proofs.Ytinpnedijmmpgaa.Draw
open Go.RowKit Kit

def I64 (x : Int) : Prop := -9223372036854775808 ≤ x ∧ x ≤ 9223372036854775807
theorem I64.wf {x : Int} (h : I64 x) : (Lit.int .i64 x).wf = true := by
  obtain ⟨h0, h1⟩ := h
  have hmin : IntKind.i64.min = -9223372036854775808 := rfl
  have hmax : IntKind.i64.max = 9223372036854775807 := rfl
  simp only [Lit.wf, Bool.and_eq_true, decide_eq_true_eq]; omega

end Go.Proofs.Ytinpnedijmmpgaa.Draw

namespace Go.Proofs.Ytinpnedijmmpgaa.Draw
open Go.RowKit Kit Rw

/-- A call that writes one old block, then writes rows of its own. -/
theorem grown_mix {w w1 w2 : World} {r s : Option Nat} (h : w.grownBy w1 r) (k : w1.grownBy w2 s) (hs : ∀ c, s = some c → w.heap.size ≤ c) : w.grownBy w2 r :=
  ⟨k.os.trans h.os, k.tape.trans h.tape, k.output.trans h.output, Nat.le_trans h.size k.size, fun i hi hn => (k.block i (Nat.lt_of_lt_of_le hi h.size) (fun e => by have := hs i e.symm; omega)).trans (h.block i hi hn)⟩

theorem own_cur {k : IntKind} {E : TypeId} {w w' : World} {base c : Nat} {v : Value} {L : List Int} (h : Own k E w base v L) (hc : c < base) (hg : w.grownBy w' (some c)) : Own k E w' base v L :=
  h.kept hg (by
    cases hv : v.ownBlock with
    | none => exact .inl rfl
    | some d => have := h.lt d hv; exact .inr (by simp; omega))

theorem new_grown {w w' : World} (h : Below w.heap.size w w') {c : Nat} (hc : w.heap.size ≤ c) {w2 : World} (h2 : w'.grownBy w2 (some c)) : w.grownBy w2 none :=
  below_grown (h.grown h2 h.size (fun k hk => by injection hk with hk; omega))
end Go.Proofs.Ytinpnedijmmpgaa.Draw

namespace Go.Proofs.Ytinpnedijmmpgaa.Rw
open Go.RowKit Kit

section
variable {P : Program} {fn : Func} {R : Ending → World → Prop} {a : Act} {w : World} {p u v : Tmp} {ty t : TypeId} {g : Nat} {cs : Array Value} {d : TypeDesc}
theorem ret_box (h : fn.results = #[.cell p ty]) (hp : a.tmps.getD p undef = .pointer (some ⟨g, 0, none⟩)) (hg : Box w g cs t)
    (hu : P.underlying ty = some d) (hd : (match d with | .struct _ | .array _ _ => true | _ => false) = true) (hi : (P.info? ty).map (·.size) = some cs.size)
    (hf : a.defers = []) (hR : R (.returned (.agg cs)) w) : bodyPost P fn R .ret a w := by
  refine bodyPost_ret (v := .agg cs) ?_ hf hR
  have hp' : a.tmps[p]?.getD undef = .pointer (some ⟨g, 0, none⟩) := by simpa using hp
  simp [results, h, hp', asAddr, run_loadVar_row w g t ty cs (0, 0) d hg hu hd hi]
theorem ret_box1 (h : fn.results = #[.cell p ty, .tmp u]) (hp : a.tmps.getD p undef = .pointer (some ⟨g, 0, none⟩)) (hg : Box w g cs t)
    (hu : P.underlying ty = some d) (hd : (match d with | .struct _ | .array _ _ => true | _ => false) = true) (hi : (P.info? ty).map (·.size) = some cs.size)
    (hf : a.defers = []) (hR : R (.returned (.tuple #[.agg cs, a.tmps.getD u undef])) w) : bodyPost P fn R .ret a w := by
  refine bodyPost_ret (v := .tuple #[.agg cs, a.tmps.getD u undef]) ?_ hf hR
  have hp' : a.tmps[p]?.getD undef = .pointer (some ⟨g, 0, none⟩) := by simpa using hp
  simp [results, h, hp', asAddr, run_loadVar_row w g t ty cs (0, 0) d hg hu hd hi]
theorem ret_box2 (h : fn.results = #[.cell p ty, .tmp u, .tmp v]) (hp : a.tmps.getD p undef = .pointer (some ⟨g, 0, none⟩)) (hg : Box w g cs t)
    (hu : P.underlying ty = some d) (hd : (match d with | .struct _ | .array _ _ => true | _ => false) = true) (hi : (P.info? ty).map (·.size) = some cs.size)
    (hf : a.defers = []) (hR : R (.returned (.tuple #[.agg cs, a.tmps.getD u undef, a.tmps.getD v undef])) w) : bodyPost P fn R .ret a w := by
  refine bodyPost_ret (v := .tuple #[.agg cs, a.tmps.getD u undef, a.tmps.getD v undef]) ?_ hf hR
  have hp' : a.tmps[p]?.getD undef = .pointer (some ⟨g, 0, none⟩) := by simpa using hp
  simp [results, h, hp', asAddr, run_loadVar_row w g t ty cs (0, 0) d hg hu hd hi]
end
end Go.Proofs.Ytinpnedijmmpgaa.Rw

namespace Go.Proofs.Ytinpnedijmmpgaa.Same
open Go.RowKit Kit Rw

end Go.Proofs.Ytinpnedijmmpgaa.Same
