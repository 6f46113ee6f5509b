/- Maps from ints to ints that a call makes: what they answer at each key. No condition. -/
import Derived.Test.YtlfhaanpfjfmcaaMBase
import Derived.Maps.OwnOps
import Derived.Maps.OwnSet
namespace Go.Proofs.Ytlfhaanpfjfmcaa.Mp
open Go.RowKit Kit Rw Go.Maps

theorem kInt : Keyed Try.prog 3 := int_keyed Try.underlying3
theorem zInt (w : World) : (zeroValue 3).run Try.prog w = .ok (.int .i64 0) w := by kernel_rfl
def kl (k : Int) : Lit := .int .i64 k
def iD (n : Int) : DataW Unit := .lit (.int .i64 n)
/-- Block b is a map of at most n ints that holds f. -/
def IsM (w : World) (b n : Nat) (f : Int → Option Int) : Prop :=
  ∃ D : DataW Unit, w.ownsMap Try.prog 3 (plainElem Try.prog 3) b n D ∧ ∀ k, has D (kl k) = (f k).isSome ∧ D.atKey (kl k) (iD 0) = iD ((f k).getD 0)
def upd (f : Int → Option Int) (k v : Int) : Int → Option Int := fun x => if x = k then some v else f x
def del (f : Int → Option Int) (k : Int) : Int → Option Int := fun x => if x = k then none else f x
def non : Int → Option Int := fun _ => none
theorem kl_ne {a b : Int} (h : a ≠ b) : kl a ≠ kl b := fun e => by unfold kl at e; injection e with _ e; exact h e
theorem iD_inj {a b : Int} (h : iD a = iD b) : a = b := by unfold iD at h; injection h with h; injection h
section
variable {w w' : World} {b n : Nat} {f : Int → Option Int}
theorem IsM.lt (h : IsM w b n f) : b < w.heap.size := by obtain ⟨D, h, _⟩ := h; exact h.lt
theorem IsM.kept {row : Option Nat} (h : IsM w b n f) (hg : w.grownBy w' row) (hne : some b ≠ row) : IsM w' b n f := by obtain ⟨D, h, k⟩ := h; exact ⟨D, h.kept hg hne, k⟩
theorem IsM.grown (h : IsM w b n f) (hg : w.grownBy w' none) : IsM w' b n f := h.kept hg (by simp)
theorem IsM.mono {m : Nat} (h : IsM w b n f) (hn : n ≤ m) : IsM w b m f := by obtain ⟨D, h, k⟩ := h; exact ⟨D, h.mono hn, k⟩
theorem isM_made (w : World) : IsM (w.alloc (.map #[] 0)) w.heap.size 0 non := ⟨.map [], World.ownsMap_made _ _ _ _, fun k => ⟨rfl, rfl⟩⟩
end
/-- 'make(map[int]int, n)'. -/
theorem run_make_hint {t : TypeId} (ht : Try.prog.underlying t = some (.map 3 3)) (w : World) (k : IntKind) (n : Int) : (Instr.makeMap t (some (.int k n))).run Try.prog w = .ok (.map (some w.heap.size)) (w.alloc (.map #[] 0)) := by
  simp [Instr.makeMap, run_underlying ht, asInt, asIntOf, Result.andThen]
section
variable {ops : Array Oper} {rest : List Oper} {o : Oper} {a : Act} {Q : Exit → Act → World → Prop}
/-- 'm[k]'. -/
theorem wpM_lookup (w : World) (hg : o.guard = none) (m x : Operand) (t : TypeId) (hop : o.op = Op.lookup t m x false) (ht : Try.prog.underlying t = some (.map 3 3)) (b n : Nat) (f : Int → Option Int)
    (hm : a.eval m = .map (some b)) (hown : IsM w b n f) (k : Int) (hk : (Lit.int .i64 k).wf = true) (hx : a.eval x = .int .i64 k)
    (hK : (Lit.int .i64 ((f k).getD 0)).wf = true → wpList Try.prog ops Q rest (a.put o.dst (.int .i64 ((f k).getD 0))) w) : wpList Try.prog ops Q (o :: rest) a w := by
  obtain ⟨D, h, hf⟩ := hown
  refine wpList_lookup_own_int w hg m x t hop 3 3 .i64 kInt ht Try.underlying3 (zInt w) b n D hm h _ (kl k) hx (keyOf_int_mk Try.underlying3 hk) (fun c hat hwc => ?_)
  have hc : (f k).getD 0 = c := iD_inj ((hf k).2.symm.trans hat)
  rw [hc] at hK
  exact hK hwc
/-- 'v, ok := m[k]'. -/
theorem wpM_lookup_ok (w : World) (hg : o.guard = none) (m x : Operand) (t : TypeId) (hop : o.op = Op.lookup t m x true) (ht : Try.prog.underlying t = some (.map 3 3)) (b n : Nat) (f : Int → Option Int)
    (hm : a.eval m = .map (some b)) (hown : IsM w b n f) (k : Int) (hk : (Lit.int .i64 k).wf = true) (hx : a.eval x = .int .i64 k)
    (hK : (Lit.int .i64 ((f k).getD 0)).wf = true → wpList Try.prog ops Q rest (a.put o.dst (.tuple #[.int .i64 ((f k).getD 0), .bool (f k).isSome])) w) : wpList Try.prog ops Q (o :: rest) a w := by
  obtain ⟨D, h, hf⟩ := hown
  refine wpList_lookup_own_ok_int w hg m x t hop 3 3 .i64 kInt ht Try.underlying3 (zInt w) b n D hm h _ (kl k) hx (keyOf_int_mk Try.underlying3 hk) (fun c hat hwc => ?_)
  have hc : (f k).getD 0 = c := iD_inj ((hf k).2.symm.trans hat)
  rw [hc] at hK
  rw [(hf k).1]
  exact hK hwc
/-- 'm[k] = v'. -/
theorem wpM_store (w : World) (hg : o.guard = none) (m x v : Operand) (t : TypeId) (hop : o.op = Op.mapUpdate t m x v) (ht : Try.prog.underlying t = some (.map 3 3)) (b n : Nat) (f : Int → Option Int)
    (hm : a.eval m = .map (some b)) (hown : IsM w b n f) (hn : n < 1000000000) (k : Int) (hk : (Lit.int .i64 k).wf = true) (hx : a.eval x = .int .i64 k) (c : Int) (hc : (Lit.int .i64 c).wf = true) (hv : a.eval v = .int .i64 c)
    (hK : ∀ w', IsM w' b (n + 1) (upd f k c) → w.grownBy w' (some b) → wpList Try.prog ops Q rest (a.put o.dst undef) w') : wpList Try.prog ops Q (o :: rest) a w := by
  obtain ⟨D, h, hf⟩ := hown
  refine wpList_mapUpdate_own w hg m x v t hop 3 3 kInt ht _ b n D hm h (by unfold maxLen; omega) _ _ (kl k) hx hv (keyOf_int_mk Try.underlying3 hk) (iD c) [] (plainElem_int Try.underlying3 hc) (fun w' h1 h2 => hK w' ⟨_, h1, fun y => ?_⟩ h2)
  unfold upd
  by_cases hy : y = k
  · subst hy
    rw [if_pos rfl]
    exact ⟨has_put_same (k := kl y) h.isMap trivial _, atKey_put_same (k := kl y) h.isMap trivial _ _⟩
  · rw [if_neg hy]
    exact ⟨(has_put_other (kl_ne hy) _).trans (hf y).1, (atKey_put_other (kl_ne hy) _ _).trans (hf y).2⟩
/-- 'delete(m, k)'. -/
theorem wpM_delete (w : World) (hg : o.guard = none) (m x : Operand) (t k' : TypeId) (hop : o.op = Op.call { callee := Callee.builtin Builtin.delete, args := #[m, x], argTypes := #[t, k'] }) (hk' : k' = 3) (ht : Try.prog.underlying t = some (.map 3 3)) (b n : Nat) (f : Int → Option Int)
    (hm : a.eval m = .map (some b)) (hown : IsM w b n f) (k : Int) (hk : (Lit.int .i64 k).wf = true) (hx : a.eval x = .int .i64 k)
    (hK : ∀ w', IsM w' b n (del f k) → w.grownBy w' (some b) → wpList Try.prog ops Q rest (a.put o.dst (.tuple #[])) w') : wpList Try.prog ops Q (o :: rest) a w := by
  subst hk'
  obtain ⟨D, h, hf⟩ := hown
  refine wpList_delete_own w hg m x t 3 hop 3 kInt ht _ b n D hm h _ (kl k) hx (keyOf_int_mk Try.underlying3 hk) (fun w' h1 h2 => hK w' ⟨_, h1, fun y => ?_⟩ h2.grown)
  unfold del
  by_cases hy : y = k
  · subst hy
    rw [if_pos rfl]
    exact ⟨has_del_same, atKey_del_same _⟩
  · rw [if_neg hy]
    exact ⟨(has_del_other (kl_ne hy)).trans (hf y).1, (atKey_del_other (kl_ne hy) _).trans (hf y).2⟩
end
end Go.Proofs.Ytlfhaanpfjfmcaa.Mp
