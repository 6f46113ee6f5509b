/- 'append(v, x)' at a step of a region that draws its order, v a row of the call's own. -/
import Derived.Test.YtfccikhmcenanaaRow
import Derived.Deep.AppendLies
import Derived.Deep.RegionHeld3
namespace Go.Proofs.Ytfccikhmcenanaa.Rw
open Go.RowKit Kit

theorem step_append_one {P : Program} (w : World) {ops : Array Oper} {o : Oper} {a : Act} {K : Act → World → Prop} {Q : Exit → Act → World → Prop} {Z : Prop} (hgd : o.guard = none) (s xo : Operand) (t : TypeId)
    (ho : o.op = .call { callee := .builtin .append, args := #[s, xo], argTypes := #[t, t] })
    (base : Nat) (E : TypeId) (i : TypeInfo) (z : Value) (bytes : Nat) (ht : P.underlying t = some (.slice E)) (hi : P.info? E = some i) (hz : i.zero = some z)
    (hsize : i.size = 1) (hby : i.bytes = bytes) (hzs : z.cells.size = 1) (k : IntKind)
    (v : Value) (L : List Int) (hs : a.eval s = v) (hown : Own k E w base v L) (x : Int) (g : Nat) (hx : a.eval xo = .slice (some ⟨g, 0, none⟩) 1 1) (hc : w.cell? ⟨g, 0, none⟩ = some (.int k x)) (hwf : (Lit.int k x).wf = true)
    (hl : L.length ≤ 10000000000000) (hb8 : bytes ≤ 8) (hbase : base ≤ w.heap.size)
    (h : ∀ v' w', Own k E w' base v' (L ++ [x]) → w.grownBy w' v.ownBlock → K (a.put o.dst v') w') :
    if Region.wanted o (yielded ops a.tmps) = true then Oper.wp P o a w K Q else Z := by
  obtain ⟨ho1, hw1⟩ := hown
  refine step_append_lies w hgd s xo t ho base E i z 1 bytes ht hi hz hsize hby hzs (by decide) v L.length (L.map (Value.int k)) hs ho1 ⟨g, 0, none⟩ 1 1 [.int k x] hx rfl ?_ (by intro u hu; simp at hu; subst hu; rfl) (by decide) ?_ ?_ hbase _ rfl ?_
  · intro j u hu
    cases j with
    | zero => simp at hu; subst hu; exact hc
    | succ j => simp at hu
  · unfold maxLen; omega
  · exact Nat.le_trans (Nat.mul_le_mul (show L.length + 1 ≤ 10000000000001 by omega) hb8) (by decide)
  · intro g' cap w' h1 h2 _ _
    refine h _ w' ⟨by simpa using h1, ?_⟩ h2
    intro n hn
    rcases List.mem_append.1 hn with h | h
    · exact hw1 n h
    · simp at h; subst h; exact hwf

/-- 'append(v, x)', v a row of the call's own; and where the new row lies: where the old one lay, or in a new block. -/
theorem wpList_append_one_at {P : Program} (w : World) {ops : Array Oper} {rest : List Oper} {o : Oper} {a : Act} {Q : Exit → Act → World → Prop} (hgd : o.guard = none) (s xo : Operand) (t : TypeId)
    (ho : o.op = .call { callee := .builtin .append, args := #[s, xo], argTypes := #[t, t] })
    (base : Nat) (E : TypeId) (i : TypeInfo) (z : Value) (bytes : Nat) (ht : P.underlying t = some (.slice E)) (hi : P.info? E = some i) (hz : i.zero = some z)
    (hsize : i.size = 1) (hby : i.bytes = bytes) (hzs : z.cells.size = 1) (k : IntKind)
    (v : Value) (L : List Int) (hs : a.eval s = v) (hown : Own k E w base v L) (x : Int) (hx : a.eval xo = .slice (some ⟨w.heap.size, 0, none⟩) 1 1) (hwf : (Lit.int k x).wf = true)
    (hl : L.length ≤ 10000000000000) (hb8 : bytes ≤ 8) (hbase : base ≤ w.heap.size)
    (h : ∀ v' w', Own k E w' base v' (L ++ [x]) → w.grownBy w' v.ownBlock → (v'.ownBlock = v.ownBlock ∨ ∃ g, v'.ownBlock = some g ∧ w.heap.size ≤ g) → wpList P ops Q rest (a.put o.dst v') w') : wpList P ops Q (o :: rest) a (w.alloc (.cells #[.int k x] E (0, 0))) := by
  have hown2 := hown.grown (World.grownBy_alloc w (.cells #[.int k x] E (0, 0)) none)
  obtain ⟨ho1, hw1⟩ := hown2
  refine wpList_append_lies _ hgd s xo t ho base E i z 1 bytes ht hi hz hsize hby hzs (by decide) v L.length (L.map (Value.int k)) hs ho1 ⟨w.heap.size, 0, none⟩ 1 1 [.int k x] hx rfl ?_ (by intro u hu; simp at hu; subst hu; rfl) (by decide) ?_ ?_ ?_ _ rfl ?_
  · intro j u hu
    cases j with
    | zero => simp at hu; subst hu; rw [show (⟨w.heap.size, 0, none⟩ : Addr).add 0 = ⟨w.heap.size, 0, none⟩ by rw [add_plain]]; rw [World.cell?_alloc_new]; simp
    | succ j => simp at hu
  · unfold maxLen; omega
  · exact Nat.le_trans (Nat.mul_le_mul (show L.length + 1 ≤ 10000000000001 by omega) hb8) (by decide)
  · simp; omega
  · intro g' cap w' h1 h2 h3 _
    refine h _ w' ⟨by simpa using h1, ?_⟩ (grownN_trans (World.grownBy_alloc _ _ _) h2) ?_
    · intro n hn
      rcases List.mem_append.1 hn with h | h
      · exact hw1 n h
      · simp at h; subst h; exact hwf
    · rcases h3 with h3 | h3
      · exact .inl h3.symm
      · exact .inr ⟨g', rfl, by simp at h3; omega⟩
end Go.Proofs.Ytfccikhmcenanaa.Rw
