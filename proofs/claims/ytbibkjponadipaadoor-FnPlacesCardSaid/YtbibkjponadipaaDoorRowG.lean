/- Rows of whatever elements, so many cells each: what a slice value reads as in a world, what it owns, and how both go on. No condition. -/
import Derived.Test.YtbibkjponadipaaDoorMBase
namespace Go.Proofs.YtbibkjponadipaaDoor.Rg
open Go.RowKit Kit Rw

/-- How the elements of a type lie in memory. -/
structure Enc (α : Type) where
  size : Nat
  cells : α → List Value
  dflt : α
  ok : α → Prop
  pos : 0 < size
  len : ∀ x, (cells x).length = size
  one : ∀ x, ∀ v ∈ cells x, v.oneCell' = true
def flat {α : Type} (e : Enc α) (L : List α) : List Value := L.flatMap e.cells
section
variable {α : Type} {e : Enc α}
theorem flat_nil : flat e [] = [] := rfl
theorem flat_cons (x : α) (L : List α) : flat e (x :: L) = e.cells x ++ flat e L := rfl
theorem flat_app (L M : List α) : flat e (L ++ M) = flat e L ++ flat e M := by simp [flat]
theorem flat_len : ∀ L : List α, (flat e L).length = L.length * e.size
  | [] => by simp [flat]
  | x :: L => by rw [flat_cons, List.length_append, e.len, flat_len L, List.length_cons, Nat.succ_mul, Nat.add_comm]
theorem flat_at : ∀ {L : List α} {j i : Nat}, j < L.length → i < e.size → (flat e L)[j * e.size + i]? = (e.cells (L.getD j e.dflt))[i]?
  | [], j, i, hj, _ => by simp at hj
  | x :: L, 0, i, _, hi => by
    rw [flat_cons, Nat.zero_mul, Nat.zero_add, List.getElem?_append_left (by rw [e.len]; exact hi)]; rfl
  | x :: L, j + 1, i, hj, hi => by
    have h : (j + 1) * e.size + i = e.size + (j * e.size + i) := by rw [Nat.succ_mul]; omega
    rw [flat_cons, h, List.getElem?_append_right (by rw [e.len]; omega), e.len, show e.size + (j * e.size + i) - e.size = j * e.size + i by omega, flat_at (by simpa using hj) hi]
    rfl
theorem flat_one {L : List α} : ∀ v ∈ flat e L, v.oneCell' = true := fun v hv => by
  obtain ⟨x, _, h⟩ := List.mem_flatMap.1 hv
  exact e.one x v h
theorem flat_set : ∀ {L : List α} {j i : Nat} {v : Value} {x : α}, j < L.length → i < e.size → e.cells x = (e.cells (L.getD j e.dflt)).set i v → (flat e L).set (j * e.size + i) v = flat e (L.set j x)
  | [], j, i, v, x, hj, _, _ => by simp at hj
  | y :: L, 0, i, v, x, _, hi, h => by
    rw [flat_cons, Nat.zero_mul, Nat.zero_add, List.set_append, if_pos (by rw [e.len]; exact hi), List.set_cons_zero, flat_cons, h]; rfl
  | y :: L, j + 1, i, v, x, hj, hi, h => by
    have hs : (j + 1) * e.size + i = e.size + (j * e.size + i) := by rw [Nat.succ_mul]; omega
    rw [flat_cons, hs, List.set_append, if_neg (by rw [e.len]; omega), e.len, show e.size + (j * e.size + i) - e.size = j * e.size + i by omega, List.set_cons_succ, flat_cons]
    exact congrArg _ (flat_set (L := L) (j := j) (by simpa using hj) hi h)
theorem div_lt {j n s : Nat} (hs : 0 < s) (h : j < n * s) : j / s < n := (Nat.div_lt_iff_lt_mul hs).2 h
end

/-- 'v' is a slice value whose elements read in 'w' as L. -/
def SeesG {α : Type} (e : Enc α) (w : World) (v : Value) (L : List α) : Prop :=
  ∃ a cap, v = .slice a L.length cap ∧ L.length ≤ cap ∧ cap ≤ maxLen ∧ (a = none → cap = 0) ∧ (∀ x ∈ L, e.ok x) ∧
    (L = [] ∨ ∃ b o, a = some ⟨b, o, none⟩ ∧ ∀ j, j < L.length * e.size → w.cell? ⟨b, o + j, none⟩ = (flat e L)[j]?)
/-- 'v' owns a row of its own, in a block from 'base' on, that holds L. -/
def OwnG {α : Type} (e : Enc α) (E : TypeId) (w : World) (base : Nat) (v : Value) (L : List α) : Prop :=
  w.ownsRow base E e.size v L.length (flat e L) ∧ ∀ x ∈ L, e.ok x
section
variable {α : Type} {e : Enc α} {E : TypeId} {w w' : World} {base : Nat} {v : Value} {L : List α}
theorem OwnG.sees (h : OwnG e E w base v L) : SeesG e w v L := by
  obtain ⟨ho, hw⟩ := h
  have ho' := ho
  rcases ho.2 with ⟨rfl, hn⟩ | ⟨g, cap, cur, rfl, hb, hg, hnc, hcm, hcs, ht⟩
  · exact ⟨none, 0, by rw [hn], by omega, by unfold maxLen; omega, fun _ => rfl, hw, .inl (List.eq_nil_of_length_eq_zero hn)⟩
  · refine ⟨_, cap, rfl, hnc, hcm, fun h => by simp at h, hw, .inr ⟨g, 0, rfl, fun j hj => ?_⟩⟩
    rw [Nat.zero_add, ho'.cellAt j hj]
theorem SeesG.len (h : SeesG e w v L) : L.length ≤ 9223372036854775807 := by
  obtain ⟨a, cap, _, h1, h2, _⟩ := h
  unfold maxLen at h2; omega
theorem SeesG.ok (h : SeesG e w v L) : ∀ x ∈ L, e.ok x := by obtain ⟨_, _, _, _, _, _, h, _⟩ := h; exact h
theorem SeesG.kept {row : Option Nat} (h : SeesG e w v L) (hg : w.grownBy w' row) (hne : v.ownBlock = none ∨ v.ownBlock ≠ row) : SeesG e w' v L := by
  obtain ⟨a, cap, rfl, h1, h2, h3, h4, h5⟩ := h
  refine ⟨a, cap, rfl, h1, h2, h3, h4, ?_⟩
  rcases h5 with h5 | ⟨b, o, rfl, h6⟩
  · exact .inl h5
  · refine .inr ⟨b, o, rfl, fun j hj => ?_⟩
    have hlt : j < (flat e L).length := by rw [flat_len]; exact hj
    have hc := h6 j hj
    rw [List.getElem?_eq_getElem hlt] at hc ⊢
    exact hg.cell hc (by simpa [Value.ownBlock] using hne)
theorem SeesG.grown (h : SeesG e w v L) (hg : w.grownBy w' none) : SeesG e w' v L := h.kept hg (ne_none v)
theorem SeesG.below (h : SeesG e w v L) (hb : Below w.heap.size w w') : SeesG e w' v L := h.grown (below_grown hb)
theorem SeesG.shape (h : SeesG e w v L) : ∃ a n cap, v = .slice a n cap ∧ Hid (L.length = n) := by
  obtain ⟨a, cap, h, _⟩ := h
  exact ⟨a, _, cap, h, rfl⟩
theorem SeesG.caps {a : Option Addr} {n cap : Nat} (h : SeesG e w (.slice a n cap) L) : n ≤ cap ∧ cap ≤ maxLen := by
  obtain ⟨_, _, h, h1, h2, _⟩ := h
  injection h with e1 e2 e3
  omega
/-- One cell of one element. -/
theorem SeesG.at_row {a : Option Addr} {n cap : Nat} (h : SeesG e w (.slice a n cap) L) {j : Nat} (hj : j < L.length) : ∃ b o, a = some ⟨b, o, none⟩ ∧ b < w.heap.size ∧ ∀ i, i < e.size → w.cell? ⟨b, o + j * e.size + i, none⟩ = (e.cells (L.getD j e.dflt))[i]? := by
  obtain ⟨a', cap', e', _, _, _, _, hc⟩ := h
  injection e' with e1 e2 e3
  subst e1
  rcases hc with rfl | ⟨b, o, rfl, hc⟩
  · simp at hj
  · have hl : ∀ i, i < e.size → j * e.size + i < L.length * e.size := fun i hi => by
      have : (j + 1) * e.size ≤ L.length * e.size := Nat.mul_le_mul_right _ hj
      rw [Nat.succ_mul] at this; omega
    refine ⟨b, o, rfl, ?_, fun i hi => ?_⟩
    · have h0 := hc _ (hl 0 e.pos)
      have hlt : j * e.size + 0 < (flat e L).length := by rw [flat_len]; exact hl 0 e.pos
      rw [List.getElem?_eq_getElem hlt] at h0
      exact World.block_lt_of_cell? w _ h0
    · rw [Nat.add_assoc, hc _ (hl i hi), flat_at hj hi]
theorem SeesG.at' {b o n cap : Nat} (h : SeesG e w (.slice (some ⟨b, o, none⟩) n cap) L) {j : Nat} (hj : j < L.length) {i : Nat} (hi : i < e.size) : w.cell? ⟨b, o + j * e.size + i, none⟩ = (e.cells (L.getD j e.dflt))[i]? := by
  obtain ⟨b', o', e', _, hc⟩ := h.at_row hj
  injection e' with e'
  injection e' with e1 e2
  subst e1; subst e2
  exact hc i hi
theorem OwnG.kept {row : Option Nat} (h : OwnG e E w base v L) (hg : w.grownBy w' row) (hne : v.ownBlock = none ∨ v.ownBlock ≠ row) : OwnG e E w' base v L := ⟨h.1.kept hg hne, h.2⟩
theorem OwnG.grown (h : OwnG e E w base v L) (hg : w.grownBy w' none) : OwnG e E w' base v L := h.kept hg (ne_none v)
theorem OwnG.lt (h : OwnG e E w base v L) : ∀ c, v.ownBlock = some c → base ≤ c ∧ c < w.heap.size := h.1.lt
theorem OwnG.lower {b : Nat} (h : OwnG e E w base v L) (hb : b ≤ base) : OwnG e E w b v L := by
  obtain ⟨⟨h1, h2⟩, h3⟩ := h
  refine ⟨⟨h1, ?_⟩, h3⟩
  rcases h2 with h2 | ⟨g, cap, cur, hv, hg, r⟩
  · exact .inl h2
  · exact .inr ⟨g, cap, cur, hv, by omega, r⟩
theorem OwnG.off {b : Nat} (h : OwnG e E w base v L) (hb : b < base) : v.ownBlock ≠ some b := by
  intro e; have := h.lt b e; omega
theorem OwnG.off' {b : Nat} (h : OwnG e E w base v L) (hb : w.heap.size ≤ b) : v.ownBlock ≠ some b := by
  intro e; have := h.lt b e; omega
theorem OwnG.under {B : Nat} (h : OwnG e E w base v L) (hb : Below B w w') (hlt : ∀ c, v.ownBlock = some c → c < B) : OwnG e E w' base v L := by
  obtain ⟨⟨h1, h2⟩, h3⟩ := h
  refine ⟨⟨h1, ?_⟩, h3⟩
  rcases h2 with h2 | ⟨g, cap, cur, e, hg, hh, r⟩
  · exact .inl h2
  · subst e
    exact .inr ⟨g, cap, cur, rfl, hg, (hb.block g (hlt g rfl)).trans hh, r⟩
theorem ownG_nil : OwnG e E w base (.slice none 0 0) [] := ⟨World.ownsRow_nil _ _ _ _, by simp⟩
theorem ownG_empty (w : World) : OwnG e E (w.alloc (.cells #[] E (0, 0))) w.heap.size (.slice (some ⟨w.heap.size, 0, none⟩) 0 0) [] :=
  ⟨World.ownsRow_lit (size := e.size) w #[] 0 (Nat.le_refl _) (Nat.zero_le _) (by simp), by simp⟩
/-- One element that has just been written out. -/
theorem seesG_one (w : World) (x : α) (cs : Array Value) (hcs : cs.toList = e.cells x) (hx : e.ok x) : SeesG e (w.alloc (.cells cs E (0, 0))) (.slice (some ⟨w.heap.size, 0, none⟩) 1 1) [x] := by
  refine ⟨_, 1, rfl, by simp, by unfold maxLen; omega, (fun h => by cases h), (fun y hy => by simp at hy; subst hy; exact hx), .inr ⟨_, _, rfl, fun j hj => ?_⟩⟩
  rw [World.cell?_alloc_new, Nat.zero_add, flat_cons, flat_nil, List.append_nil, ← hcs]
  simp
/-- A field of an element is stored. -/
theorem OwnG.put {g n cap : Nat} (h : OwnG e E w base (.slice (some ⟨g, 0, none⟩) n cap) L) (hn : L.length = n) {j i : Nat} {u : Value} {x : α} (hj : j < L.length) (hi : i < e.size) (hx : e.cells x = (e.cells (L.getD j e.dflt)).set i u) (hok : e.ok x) :
    OwnG e E (w.setCell ⟨g, j * e.size + i, none⟩ u) base (.slice (some ⟨g, 0, none⟩) n cap) (L.set j x) ∧ w.grownBy (w.setCell ⟨g, j * e.size + i, none⟩ u) (some g) := by
  have ho := h.1
  rw [hn] at ho
  obtain ⟨h1, h2⟩ := ho.stored (j * e.size + i) u
  rw [flat_set hj hi hx] at h1
  refine ⟨⟨by rw [List.length_set, hn]; exact h1, fun y hy => ?_⟩, h2⟩
  rcases List.mem_or_eq_of_mem_set hy with hy | hy
  · exact h.2 y hy
  · rw [hy]; exact hok
end
/-- 'append(v, u...)', v a row of the call's own, u whatever reads as M. -/
theorem wpListG_append_sees {α : Type} {e : Enc α} {P : Program} (w : World) {ops : Array Oper} {rest : List Oper} {o : Oper} {a : Act} {Q : Exit → Act → World → Prop} (hgd : o.guard = none) (s x : Operand) (t : TypeId)
    (ho : o.op = .call { callee := .builtin .append, args := #[s, x], argTypes := #[t, t] })
    (base : Nat) (E : TypeId) (i : TypeInfo) (z : Value) (bytes : Nat) (ht : P.underlying t = some (.slice E)) (hi : P.info? E = some i) (hz : i.zero = some z)
    (hsize : i.size = e.size) (hby : i.bytes = bytes) (hzs : z.cells.size = e.size)
    (v : Value) (L : List α) (hs : a.eval s = v) (hown : OwnG e E w base v L) (u : Value) (M : List α) (hx : a.eval x = u) (hu : SeesG e w u M)
    (h63 : L.length + M.length ≤ maxLen) (hbytes : (L.length + M.length) * bytes ≤ 140737488355328) (hbase : base ≤ w.heap.size)
    (h : ∀ v' w', OwnG e E w' base v' (L ++ M) → w.grownBy w' v.ownBlock → wpList P ops Q rest (a.put o.dst v') w') : wpList P ops Q (o :: rest) a w := by
  obtain ⟨ho1, hw1⟩ := hown
  have hok := hu.ok
  obtain ⟨ad, cap, rfl, hlc, hcm, hnil, _, hcell⟩ := hu
  have hall : ∀ x ∈ L ++ M, e.ok x := fun x hx => by
    rcases List.mem_append.1 hx with h | h
    · exact hw1 x h
    · exact hok x h
  cases ad with
  | none =>
    have hc := hnil rfl
    subst hc
    have hM : M = [] := List.eq_nil_of_length_eq_zero (by omega)
    subst hM
    refine wpList_append_own_none hgd s x t ho base E i e.size ht hi v L.length _ hs ho1 (by simpa using hx) (h v w ⟨by simpa using ho1, hall⟩ (World.grownBy.refl w _))
  | some ad =>
    refine wpList_append_own w hgd s x t ho base E i z e.size bytes ht hi hz hsize hby hzs e.pos v L.length _ hs ho1 ad M.length cap (flat e M) hx (flat_len M) ?_ flat_one h63 hbytes hbase ?_
    · intro j y hy
      have hj : j < M.length * e.size := by rw [← flat_len]; exact (List.getElem?_eq_some_iff.1 hy).1
      rcases hcell with h0 | ⟨b, of, e', hc⟩
      · rw [h0] at hj; simp at hj
      · injection e' with e'
        subst e'
        rw [add_plain, hc j hj, hy]
    · intro v' w' h1 h2 _
      exact h v' w' ⟨by rw [List.length_append, flat_app]; exact h1, hall⟩ h2
/-- 'append(v, x)', v a row of the call's own; and where the new row lies: where the old one lay, or in a new block. -/
theorem wpListG_append_one {α : Type} {e : Enc α} {P : Program} (w : World) {ops : Array Oper} {rest : List Oper} {o : Oper} {a : Act} {Q : Exit → Act → World → Prop} (hgd : o.guard = none) (s xo : Operand) (t : TypeId)
    (ho : o.op = .call { callee := .builtin .append, args := #[s, xo], argTypes := #[t, t] })
    (base : Nat) (E : TypeId) (i : TypeInfo) (z : Value) (bytes : Nat) (ht : P.underlying t = some (.slice E)) (hi : P.info? E = some i) (hz : i.zero = some z)
    (hsize : i.size = e.size) (hby : i.bytes = bytes) (hzs : z.cells.size = e.size)
    (v : Value) (L : List α) (hs : a.eval s = v) (hown : OwnG e E w base v L) (x : α) (cs : Array Value) (hcs : cs.toList = e.cells x) (hx : a.eval xo = .slice (some ⟨w.heap.size, 0, none⟩) 1 1) (hok : e.ok x)
    (hl : L.length ≤ 1000000000) (hb : bytes ≤ 10000) (hbase : base ≤ w.heap.size)
    (h : ∀ v' w', OwnG e E w' base v' (L ++ [x]) → w.grownBy w' v.ownBlock → (v'.ownBlock = v.ownBlock ∨ ∃ g, v'.ownBlock = some g ∧ w.heap.size ≤ g) → wpList P ops Q rest (a.put o.dst v') w') : wpList P ops Q (o :: rest) a (w.alloc (.cells cs E (0, 0))) := by
  have hown2 := hown.grown (World.grownBy_alloc w (.cells cs E (0, 0)) none)
  obtain ⟨ho1, hw1⟩ := hown2
  have hlen : cs.size = e.size := by rw [← Array.length_toList, hcs, e.len]
  refine wpList_append_lies _ hgd s xo t ho base E i z e.size bytes ht hi hz hsize hby hzs e.pos v L.length _ hs ho1 ⟨w.heap.size, 0, none⟩ 1 1 (e.cells x) hx (by rw [e.len, Nat.one_mul]) ?_ (e.one x) (by decide) ?_ ?_ ?_ _ rfl ?_
  · intro j u hu
    rw [add_plain, Nat.zero_add, World.cell?_alloc_new, ← hu, ← hcs]
    simp
  · unfold maxLen; omega
  · exact Nat.le_trans (Nat.mul_le_mul (show L.length + 1 ≤ 1000000001 by omega) hb) (by decide)
  · simp; omega
  · intro g' cap w' h1 h2 h3 _
    refine h _ w' ⟨by rw [List.length_append, flat_app, flat_cons, flat_nil, List.append_nil]; exact h1, fun y hy => ?_⟩ (grownN_trans (World.grownBy_alloc _ _ _) h2) ?_
    · rcases List.mem_append.1 hy with hy | hy
      · exact hw1 y hy
      · simp at hy; subst hy; exact hok
    · rcases h3 with h3 | h3
      · exact .inl h3.symm
      · exact .inr ⟨g', rfl, by simp at h3; omega⟩
/-- Bools. -/
def encB : Enc Bool := ⟨1, fun b => [.bool b], false, fun _ => True, by decide, fun _ => rfl, fun _ v hv => by simp at hv; subst hv; rfl⟩
/-- ints. -/
def encI : Enc Int := ⟨1, fun n => [.int .i64 n], 0, fun n => (Lit.int .i64 n).wf = true, by decide, fun _ => rfl, fun _ v hv => by simp at hv; subst hv; rfl⟩
theorem SeesG.atB {w : World} {b o n cap : Nat} {L : List Bool} (h : SeesG encB w (.slice (some ⟨b, o, none⟩) n cap) L) {j : Nat} (hj : j < L.length) : w.cell? ⟨b, o + j, none⟩ = some (.bool (L.getD j false)) := by
  have := h.at' hj (i := 0) (by decide)
  simpa [encB] using this
theorem SeesG.at_rowB {w : World} {a : Option Addr} {n cap : Nat} {L : List Bool} (h : SeesG encB w (.slice a n cap) L) {j : Nat} (hj : j < L.length) : ∃ b o, a = some ⟨b, o, none⟩ ∧ b < w.heap.size ∧ w.cell? ⟨b, o + j, none⟩ = some (.bool (L.getD j false)) := by
  obtain ⟨b, o, rfl, hb, _⟩ := h.at_row hj
  exact ⟨b, o, rfl, hb, h.atB hj⟩
end Go.Proofs.YtbibkjponadipaaDoor.Rg
