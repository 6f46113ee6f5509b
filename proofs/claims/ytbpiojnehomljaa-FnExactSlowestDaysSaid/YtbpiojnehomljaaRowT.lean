/- 'make([]E, n)' at a step of a region that draws its order. No condition. -/
import Derived.Test.YtbpiojnehomljaaRowE
import Derived.Deep.RegionHeld3
namespace Go.Proofs.Ytbpiojnehomljaa.Rg
open Go.RowKit Kit Rw
theorem step_makeG {α : Type} {e : Enc α} {P : Program} (w : World) {ops : Array Oper} {o : Oper} {a : Act} {K : Act → World → Prop} {Q : Exit → Act → World → Prop} {Z : Prop}
    (hg : o.guard = none) (l c : Operand) (t : TypeId) (hop : o.op = Op.makeSlice t l c)
    (base : Nat) (E : TypeId) (i : TypeInfo) (z : Value) (bytes : Nat) (h1 : P.underlying t = some (.slice E)) (h2 : P.info? E = some i) (h3 : i.zero = some z) (h4 : i.size = e.size) (h5 : i.bytes = bytes)
    (hz : z.cells.toList = e.cells e.dflt) (hok : e.ok e.dflt)
    (kl kc : IntKind) (L C : Int) (n : Nat) (hl : a.eval l = .int kl L) (hc : a.eval c = .int kc C) (hL : L = (n : Int)) (hC : C = (n : Int)) (b2 : bytes * n ≤ 281474976710656) (b3 : n ≤ maxLen) (b4 : base ≤ w.heap.size)
    (hK : ∀ w', OwnG e E w' base (.slice (some ⟨w.heap.size, 0, none⟩) n n) (List.replicate n e.dflt) → w.grownBy w' none → K (a.put o.dst (.slice (some ⟨w.heap.size, 0, none⟩) n n)) w') :
    if Region.wanted o (yielded ops a.tmps) = true then Oper.wp P o a w K Q else Z := by
  have hw : Region.wanted o (yielded ops a.tmps) = true := by simp [Region.wanted, hg]
  rw [if_pos hw]
  obtain ⟨w', hrun, r1, r2⟩ := run_make_full (P := P) w base t E i z e.size h1 h2 h3 h4 kl kc n (by rw [h5]; exact b2) b3 b4
  subst hL
  subst hC
  unfold Oper.wp
  simp [execOp, hop, hl, hc, hrun, Result.andThen]
  refine hK w' ⟨?_, ?_⟩ r2
  · rw [List.length_replicate, ← flat_replicate e z.cells hz]; exact r1
  · intro x hx
    rw [List.eq_of_mem_replicate hx]; exact hok
end Go.Proofs.Ytbpiojnehomljaa.Rg
