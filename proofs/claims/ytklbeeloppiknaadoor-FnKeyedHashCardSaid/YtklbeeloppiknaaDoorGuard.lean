/- The append laws at an operation behind a guard that is met ('a || f(append(..))'). -/
import Derived.Test.YtklbeeloppiknaaDoorRow
namespace Go.Proofs.YtklbeeloppiknaaDoor.Rw
open Go.RowKit Kit

theorem wpList_wanted {P : Program} {ops : Array Oper} {Q : Exit → Act → World → Prop} {a : Act} {w : World} {rest : List Oper} {o : Oper} (hw : Region.wanted o (yielded ops a.tmps) = true)
    (h : ∀ K : Act → World → Prop, (∀ a w, wpList P ops Q rest a w → K a w) → o.wp P a w K Q) : wpList P ops Q (o :: rest) a w :=
  wpList_step fun K hK => by rw [if_pos hw]; exact h K hK

/-- 'append(v, u...)' behind a guard. -/
theorem wpList_append_sees_g {P : Program} (w : World) {ops : Array Oper} {rest : List Oper} {o : Oper} {a : Act} {Q : Exit → Act → World → Prop} (hw : Region.wanted o (yielded ops a.tmps) = true) (s x : Operand) (t : TypeId)
    (ho : o.op = .call { callee := .builtin .append, args := #[s, x], argTypes := #[t, t] })
    (base : Nat) (E : TypeId) (i : TypeInfo) (z : Value) (bytes : Nat) (ht : P.underlying t = some (.slice E)) (hi : P.info? E = some i) (hz : i.zero = some z)
    (hsize : i.size = 1) (hby : i.bytes = bytes) (hzs : z.cells.size = 1) (k : IntKind)
    (v : Value) (L : List Int) (hs : a.eval s = v) (hown : Own k E w base v L) (u : Value) (M : List Int) (hx : a.eval x = u) (hu : Sees k w u M)
    (h63 : L.length + M.length ≤ maxLen) (hbytes : (L.length + M.length) * bytes ≤ 140737488355328) (hbase : base ≤ w.heap.size)
    (h : ∀ v' w', Own k E w' base v' (L ++ M) → w.grownBy w' v.ownBlock → wpList P ops Q rest (a.put o.dst v') w') : wpList P ops Q (o :: rest) a w := by
  refine wpList_wanted hw fun K hK => ?_
  obtain ⟨ho1, hw1⟩ := hown
  have hwf := hu.wf
  obtain ⟨ad, cap, rfl, hlc, hcm, hnil, _, hcell⟩ := hu
  have hall : ∀ n ∈ L ++ M, (Lit.int k n).wf = true := fun n hn => by
    rcases List.mem_append.1 hn with h | h
    · exact hw1 n h
    · exact hwf n h
  cases ad with
  | none =>
    have hc := hnil rfl
    subst hc
    have hM : M = [] := List.eq_nil_of_length_eq_zero (by omega)
    subst hM
    have hrun := run_append_owned_none (P := P) (w := w) base t o.type E i 1 ht hi v L.length _ ho1
    unfold Oper.wp
    simp only [List.length_nil] at hx
    simp [execOp, ho, resolve, invoke, builtin, hs, hx, hrun, Result.andThen]
    exact hK _ _ (h v w ⟨by simpa using ho1, hall⟩ (World.grownBy.refl w _))
  | some ad =>
    refine wp_append_own w s x t ho base E i z 1 bytes ht hi hz hsize hby hzs (by decide) v L.length _ hs ho1 ad M.length cap (M.map (Value.int k)) hx (by simp) ?_ (ints_oneCell k M) h63 hbytes hbase ?_
    · intro j y hy
      rcases hcell with rfl | ⟨b, of, e, hc⟩
      · simp at hy
      · injection e with e
        subst e
        have hj : j < M.length := by
          by_cases hj : j < M.length
          · exact hj
          · simp [hj] at hy
        rw [getD_map hj] at hy
        injection hy with hy
        subst hy
        rw [add_plain]
        exact hc j hj
    · intro v' w' h1 h2 _
      exact hK _ _ (h v' w' ⟨by simpa using h1, hall⟩ h2)

/-- 'append(v, x)' behind a guard. -/
theorem wpList_append_one_g {P : Program} (w : World) {ops : Array Oper} {rest : List Oper} {o : Oper} {a : Act} {Q : Exit → Act → World → Prop} (hw : Region.wanted o (yielded ops a.tmps) = true) (s xo : Operand) (t : TypeId)
    (ho : o.op = .call { callee := .builtin .append, args := #[s, xo], argTypes := #[t, t] })
    (base : Nat) (E : TypeId) (i : TypeInfo) (z : Value) (bytes : Nat) (ht : P.underlying t = some (.slice E)) (hi : P.info? E = some i) (hz : i.zero = some z)
    (hsize : i.size = 1) (hby : i.bytes = bytes) (hzs : z.cells.size = 1) (k : IntKind)
    (v : Value) (L : List Int) (hs : a.eval s = v) (hown : Own k E w base v L) (x : Int) (hx : a.eval xo = .slice (some ⟨w.heap.size, 0, none⟩) 1 1) (hwf : (Lit.int k x).wf = true)
    (hl : L.length ≤ 10000000000000) (hb8 : bytes ≤ 8) (hbase : base ≤ w.heap.size)
    (h : ∀ v' w', Own k E w' base v' (L ++ [x]) → w.grownBy w' v.ownBlock → wpList P ops Q rest (a.put o.dst v') w') : wpList P ops Q (o :: rest) a (w.alloc (.cells #[.int k x] E (0, 0))) := by
  refine wpList_append_sees_g _ hw s xo t ho base E i z bytes ht hi hz hsize hby hzs k v L hs (hown.grown (World.grownBy_alloc _ _ _)) _ [x] hx (sees_one w x hwf) ?_ ?_ ?_ ?_
  · simp only [List.length_cons, List.length_nil]; unfold maxLen; omega
  · simp only [List.length_cons, List.length_nil]
    exact Nat.le_trans (Nat.mul_le_mul (show L.length + (0 + 1) ≤ 10000000000001 by omega) hb8) (by decide)
  · simp; omega
  · intro v' w' h1 h2
    exact h v' w' h1 (grownN_trans (World.grownBy_alloc _ _ _) h2)
end Go.Proofs.YtklbeeloppiknaaDoor.Rw
