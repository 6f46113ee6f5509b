/- Maps from ints to bools that a call makes, as sets: what they answer at each key. No condition. -/
import Derived.Test.YtbibkjponadipaaDoorMBase
import Derived.Maps.OwnOps
import Derived.Maps.OwnSet
namespace Go.Proofs.YtbibkjponadipaaDoor.Mb
open Go.RowKit Kit Rw Go.Maps

theorem kInt : Keyed Tryd.prog 3 := int_keyed Tryd.underlying3
theorem zBool (w : World) : (zeroValue 4).run Tryd.prog w = .ok (.bool false) w := by kernel_rfl
def kl (k : Int) : Lit := .int .i64 k
def bD (b : Bool) : DataW Unit := .lit (.bool b)
theorem kl_ne {a b : Int} (h : a ≠ b) : kl a ≠ kl b := fun e => by unfold kl at e; injection e with _ e; exact h e
theorem bD_inj {a b : Bool} (h : bD a = bD b) : a = b := by unfold bD at h; injection h with h; injection h
/-- Block b is a map of at most n bools that answers yes at the members of L alone. -/
def IsS (w : World) (b n : Nat) (L : List Int) : Prop :=
  ∃ D : DataW Unit, w.ownsMap Tryd.prog 3 (plainElem Tryd.prog 4) b n D ∧ ∀ k, D.atKey (kl k) (bD false) = bD (decide (k ∈ L))
section
variable {w w' : World} {b n : Nat} {L : List Int}
theorem IsS.lt (h : IsS w b n L) : b < w.heap.size := by obtain ⟨D, h, _⟩ := h; exact h.lt
theorem IsS.kept {row : Option Nat} (h : IsS w b n L) (hg : w.grownBy w' row) (hne : some b ≠ row) : IsS w' b n L := by obtain ⟨D, h, k⟩ := h; exact ⟨D, h.kept hg hne, k⟩
theorem IsS.grown (h : IsS w b n L) (hg : w.grownBy w' none) : IsS w' b n L := h.kept hg (by simp)
theorem isS_made (w : World) : IsS (w.alloc (.map #[] 0)) w.heap.size 0 [] := ⟨.map [], World.ownsMap_made _ _ _ _, fun k => by simp; rfl⟩
end
set_option maxRecDepth 20000 in
/-- 'make(map[int]bool, n)'. -/
theorem run_make_hint {t : TypeId} (ht : Tryd.prog.underlying t = some (.map 3 4)) (w : World) (k : IntKind) (n : Int) : (Instr.makeMap t (some (.int k n))).run Tryd.prog w = .ok (.map (some w.heap.size)) (w.alloc (.map #[] 0)) := by
  simp [Instr.makeMap, run_underlying ht, asInt, asIntOf, Result.andThen]
set_option maxRecDepth 20000 in
theorem bool_inv {v : Value} {z : DataW Unit × List MemPlace} (h : plainElem Tryd.prog 4 v = some z) : ∃ c, v = .bool c ∧ z.1 = bD c := by
  unfold plainElem at h
  rw [Tryd.underlying4] at h
  cases v <;> simp at h
  subst h
  exact ⟨_, rfl, rfl⟩
section
variable {ops : Array Oper} {rest : List Oper} {o : Oper} {a : Act} {Q : Exit → Act → World → Prop}
/-- 'm[k]'. -/
theorem wpS_lookup (w : World) (hg : o.guard = none) (m x : Operand) (t : TypeId) (hop : o.op = Op.lookup t m x false) (ht : Tryd.prog.underlying t = some (.map 3 4)) (b n : Nat) (L : List Int)
    (hm : a.eval m = .map (some b)) (hown : IsS w b n L) (k : Int) (hk : (Lit.int .i64 k).wf = true) (hx : a.eval x = .int .i64 k)
    (hK : wpList Tryd.prog ops Q rest (a.put o.dst (.bool (decide (k ∈ L)))) w) : wpList Tryd.prog ops Q (o :: rest) a w := by
  obtain ⟨D, h, hf⟩ := hown
  refine wpList_plain hg fun K' hK' => ?_
  obtain ⟨v, ps, hrun, hv⟩ := h.lookup kInt ht (zBool w) (plainElem_bool Tryd.underlying4 false) (keyOf_int_mk Tryd.underlying3 hk)
  obtain ⟨c, rfl, hc⟩ := bool_inv hv
  have hc : decide (k ∈ L) = c := bD_inj ((hf k).symm.trans hc)
  rw [hc] at hK
  unfold Oper.wp
  simp [execOp, hop, hm, hx, hrun, Result.andThen]
  exact hK' _ _ hK
/-- 'm[k] = true'. -/
theorem wpS_store (w : World) (hg : o.guard = none) (m x v : Operand) (t : TypeId) (hop : o.op = Op.mapUpdate t m x v) (ht : Tryd.prog.underlying t = some (.map 3 4)) (b n : Nat) (L : List Int)
    (hm : a.eval m = .map (some b)) (hown : IsS w b n L) (hn : n < 1000000000) (k : Int) (hk : (Lit.int .i64 k).wf = true) (hx : a.eval x = .int .i64 k) (hv : a.eval v = .bool true)
    (hK : ∀ w', IsS w' b (n + 1) (L ++ [k]) → w.grownBy w' (some b) → wpList Tryd.prog ops Q rest (a.put o.dst undef) w') : wpList Tryd.prog ops Q (o :: rest) a w := by
  obtain ⟨D, h, hf⟩ := hown
  refine wpList_mapUpdate_own w hg m x v t hop 3 4 kInt ht _ b n D hm h (by unfold maxLen; omega) _ _ (kl k) hx hv (keyOf_int_mk Tryd.underlying3 hk) (bD true) [] (plainElem_bool Tryd.underlying4 true) (fun w' h1 h2 => hK w' ⟨_, h1, fun y => ?_⟩ h2)
  by_cases hy : y = k
  · subst hy
    rw [atKey_put_same (k := kl y) h.isMap trivial]
    exact congrArg bD (by simp)
  · rw [atKey_put_other (kl_ne hy), hf y]
    exact congrArg bD (by simp [hy])
/-- 'delete(m, k)'. -/
theorem wpS_delete (w : World) (hg : o.guard = none) (m x : Operand) (t k' : TypeId) (hop : o.op = Op.call { callee := Callee.builtin Builtin.delete, args := #[m, x], argTypes := #[t, k'] }) (hk' : k' = 3) (ht : Tryd.prog.underlying t = some (.map 3 4)) (b n : Nat) (L M : List Int)
    (hm : a.eval m = .map (some b)) (hown : IsS w b n L) (k : Int) (hk : (Lit.int .i64 k).wf = true) (hx : a.eval x = .int .i64 k) (hM : ∀ y, y ∈ M ↔ (y ∈ L ∧ y ≠ k))
    (hK : ∀ w', IsS w' b n M → w.grownBy w' (some b) → wpList Tryd.prog ops Q rest (a.put o.dst (.tuple #[])) w') : wpList Tryd.prog ops Q (o :: rest) a w := by
  subst hk'
  obtain ⟨D, h, hf⟩ := hown
  refine wpList_delete_own w hg m x t 3 hop 4 kInt ht _ b n D hm h _ (kl k) hx (keyOf_int_mk Tryd.underlying3 hk) (fun w' h1 h2 => hK w' ⟨_, h1, fun y => ?_⟩ h2.grown)
  by_cases hy : y = k
  · subst hy
    rw [atKey_del_same _]
    exact congrArg bD (by symm; rw [decide_eq_false_iff_not, hM]; exact fun h => h.2 rfl)
  · rw [atKey_del_other (kl_ne hy) _, hf y]
    exact congrArg bD (by rw [Bool.eq_iff_iff]; simp [hM, hy])
end
end Go.Proofs.YtbibkjponadipaaDoor.Mb
