/- Maps from ints to pointers that a call makes: what they answer at each key. No condition. -/
import Derived.Test.YtfcjbkagofccdaaMBase
import Derived.Maps.OwnOps
import Derived.Maps.OwnSet
namespace Go.Proofs.Ytfcjbkagofccdaa.Mq
open Go.RowKit Kit Rw Go.Maps

theorem kInt : Keyed Try.prog 3 := int_keyed Try.underlying3
theorem zPtr (w : World) : (zeroValue 97).run Try.prog w = .ok (.pointer none) w := by kernel_rfl
def kl (k : Int) : Lit := .int .i64 k
theorem kl_ne {a b : Int} (h : a ≠ b) : kl a ≠ kl b := fun e => by unfold kl at e; injection e with _ e; exact h e
/-- A pointer to a block's beginning, or to nothing. -/
def ptr : Option Nat → Value
  | none => .pointer none
  | some g => .pointer (some ⟨g, 0, none⟩)
def pD : Option Nat → DataW Unit
  | none => .lit (.int .i64 (-1))
  | some g => .lit (.int .i64 g)
theorem pD_inj {a b : Option Nat} (h : pD a = pD b) : a = b := by
  cases a <;> cases b <;> simp only [pD, DataW.lit.injEq, Lit.int.injEq, true_and] at h
  · rfl
  · omega
  · omega
  · congr 1; omega
/-- How a pointer is read as a datum: by its block's number. -/
def ptrR (v : Value) : Option (DataW Unit × List MemPlace) :=
  match v with
  | .pointer none => some (pD none, [])
  | .pointer (some ⟨g, 0, none⟩) => some (pD (some g), [])
  | _ => none
theorem ptrR_mk (o : Option Nat) : ptrR (ptr o) = some (pD o, []) := by cases o <;> rfl
theorem ptrR_inv {v : Value} {z : DataW Unit × List MemPlace} (h : ptrR v = some z) : ∃ o, v = ptr o ∧ z.1 = pD o := by
  unfold ptrR at h
  split at h
  · cases h; exact ⟨none, rfl, rfl⟩
  · cases h; exact ⟨some _, rfl, rfl⟩
  · cases h
/-- Block b is a map of at most n pointers that holds f. -/
def IsP (w : World) (b n : Nat) (f : Int → Option Nat) : Prop :=
  ∃ D : DataW Unit, w.ownsMap Try.prog 3 ptrR b n D ∧ ∀ k, D.atKey (kl k) (pD none) = pD (f k)
def upd (f : Int → Option Nat) (k : Int) (g : Nat) : Int → Option Nat := fun x => if x = k then some g else f x
section
variable {w w' : World} {b n : Nat} {f : Int → Option Nat}
theorem IsP.lt (h : IsP w b n f) : b < w.heap.size := by obtain ⟨D, h, _⟩ := h; exact h.lt
theorem IsP.kept {row : Option Nat} (h : IsP w b n f) (hg : w.grownBy w' row) (hne : some b ≠ row) : IsP w' b n f := by obtain ⟨D, h, k⟩ := h; exact ⟨D, h.kept hg hne, k⟩
theorem IsP.grown (h : IsP w b n f) (hg : w.grownBy w' none) : IsP w' b n f := h.kept hg (by simp)
theorem IsP.mono {m : Nat} (h : IsP w b n f) (hn : n ≤ m) : IsP w b m f := by obtain ⟨D, h, k⟩ := h; exact ⟨D, h.mono hn, k⟩
theorem isP_made (w : World) : IsP (w.alloc (.map #[] 0)) w.heap.size 0 (fun _ => none) := ⟨.map [], World.ownsMap_made _ _ _ _, fun k => rfl⟩
end
/-- 'make(map[int]*T, n)'. -/
theorem run_make_hint {t : TypeId} (ht : Try.prog.underlying t = some (.map 3 97)) (w : World) (k : IntKind) (n : Int) : (Instr.makeMap t (some (.int k n))).run Try.prog w = .ok (.map (some w.heap.size)) (w.alloc (.map #[] 0)) := by
  simp [Instr.makeMap, run_underlying ht, asInt, asIntOf, Result.andThen]
section
variable {ops : Array Oper} {rest : List Oper} {o : Oper} {a : Act} {Q : Exit → Act → World → Prop}
/-- 'm[k]'. -/
theorem wpP_lookup (w : World) (hg : o.guard = none) (m x : Operand) (t : TypeId) (hop : o.op = Op.lookup t m x false) (ht : Try.prog.underlying t = some (.map 3 97)) (b n : Nat) (f : Int → Option Nat)
    (hm : a.eval m = .map (some b)) (hown : IsP w b n f) (k : Int) (hk : (Lit.int .i64 k).wf = true) (hx : a.eval x = .int .i64 k)
    (hK : wpList Try.prog ops Q rest (a.put o.dst (ptr (f k))) w) : wpList Try.prog ops Q (o :: rest) a w := by
  obtain ⟨D, h, hf⟩ := hown
  refine wpList_plain hg fun K' hK' => ?_
  obtain ⟨v, ps, hrun, hv⟩ := h.lookup kInt ht (zPtr w) (zd := pD none) (zp := []) (ptrR_mk none) (keyOf_int_mk Try.underlying3 hk)
  obtain ⟨c, rfl, hc⟩ := ptrR_inv hv
  have hc : f k = c := pD_inj ((hf k).symm.trans hc)
  rw [hc] at hK
  unfold Oper.wp
  simp [execOp, hop, hm, hx, hrun, Result.andThen]
  exact hK' _ _ hK
/-- 'm[k] = p'. -/
theorem wpP_store (w : World) (hg : o.guard = none) (m x v : Operand) (t : TypeId) (hop : o.op = Op.mapUpdate t m x v) (ht : Try.prog.underlying t = some (.map 3 97)) (b n : Nat) (f : Int → Option Nat)
    (hm : a.eval m = .map (some b)) (hown : IsP w b n f) (hn : n < 1000000000) (k : Int) (hk : (Lit.int .i64 k).wf = true) (hx : a.eval x = .int .i64 k) (g : Nat) (hv : a.eval v = .pointer (some ⟨g, 0, none⟩))
    (hK : ∀ w', IsP w' b (n + 1) (upd f k g) → w.grownBy w' (some b) → wpList Try.prog ops Q rest (a.put o.dst undef) w') : wpList Try.prog ops Q (o :: rest) a w := by
  obtain ⟨D, h, hf⟩ := hown
  refine wpList_mapUpdate_own w hg m x v t hop 3 97 kInt ht _ b n D hm h (by unfold maxLen; omega) _ _ (kl k) hx hv (keyOf_int_mk Try.underlying3 hk) (pD (some g)) [] (ptrR_mk (some g)) (fun w' h1 h2 => hK w' ⟨_, h1, fun y => ?_⟩ h2)
  unfold upd
  by_cases hy : y = k
  · subst hy
    rw [if_pos rfl]
    exact atKey_put_same (k := kl y) h.isMap trivial _ _
  · rw [if_neg hy]
    exact (atKey_put_other (kl_ne hy) _ _).trans (hf y)
end
end Go.Proofs.Ytfcjbkagofccdaa.Mq
