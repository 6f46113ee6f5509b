/- Rows of structs of plain fields: two ints; three ints and a bool. How they lie, and that they came in so. No condition. A field of a struct that came in: a row of whatever elements. No condition. More on rows of whatever elements: made full, spliced, compared, stored into. No condition. -/
import Derived.Test.YtbpiojnehomljaaG1
import Derived.Lib.SmallJoins
import Derived.Deep.Fields
namespace Go.Proofs.Ytbpiojnehomljaa.Rg
open Go.RowKit Kit Rw Go.ChangeShapes Go.WideShapes Go.ChangeAt Go.Deep Go.Joins

/-- Two ints. -/
def encP : Enc (Int × Int) := ⟨2, fun p => [.int .i64 p.1, .int .i64 p.2], (0, 0), fun p => (Lit.int .i64 p.1).wf = true ∧ (Lit.int .i64 p.2).wf = true, by decide, fun _ => rfl, fun _ v hv => by simp at hv; rcases hv with rfl | rfl <;> rfl⟩
/-- Three ints and a bool. -/
structure Mem where
  id : Int
  str : Int
  need : Int
  ill : Bool
def encM : Enc Mem := ⟨4, fun m => [.int .i64 m.id, .int .i64 m.str, .int .i64 m.need, .bool m.ill], ⟨0, 0, 0, false⟩, fun m => (Lit.int .i64 m.id).wf = true ∧ (Lit.int .i64 m.str).wf = true ∧ (Lit.int .i64 m.need).wf = true, by decide, fun _ => rfl, fun _ v hv => by simp at hv; rcases hv with rfl | rfl | rfl | rfl <;> rfl⟩

theorem encP_open {H : Type} {enc : TypeId × Value → H} {P : Program} {E : TypeId} {f0 f1 : Field} {W : World} (hE : P.underlying E = some (.struct #[f0, f1])) (hone : oneCellFields P #[f0, f1] = true)
    (k0 : P.underlying f0.type = some (.int .i64)) (k1 : P.underlying f1.type = some (.int .i64))
    (n : Nat) (cs : List Value) (d : DataW H) (ps : List MemPlace) (hl : cs.length = encP.size) (h : DataW.trod enc P W 0 (fun _ => true) true n E cs = some (d, ps)) : ∃ x, cs = encP.cells x ∧ encP.ok x := by
  obtain ⟨y0, y1, m, _, _, h0, h1⟩ := trod_struct2 hE h
  obtain ⟨o0, c0⟩ := hone_of hone 0 f0 rfl
  obtain ⟨o1, c1⟩ := hone_of hone 1 f1 rfl
  match cs, hl with
  | [v0, v1], _ =>
    have h0' : DataW.trod enc P W 0 (fun _ => true) true m f0.type [v0] = some y0 := by simpa [o0, c0] using h0
    have h1' : DataW.trod enc P W 0 (fun _ => true) true m f1.type [v1] = some y1 := by simpa [o1, c1] using h1
    obtain ⟨a, ha, _, wa⟩ := DataW.trod_int k0 h0'
    obtain ⟨b, hb, _, wb⟩ := DataW.trod_int k1 h1'
    simp at ha hb
    subst ha hb
    exact ⟨(a, b), rfl, wa, wb⟩
theorem encM_open {H : Type} {enc : TypeId × Value → H} {P : Program} {E : TypeId} {f0 f1 f2 f3 : Field} {W : World} (hE : P.underlying E = some (.struct #[f0, f1, f2, f3])) (hone : oneCellFields P #[f0, f1, f2, f3] = true)
    (k0 : P.underlying f0.type = some (.int .i64)) (k1 : P.underlying f1.type = some (.int .i64)) (k2 : P.underlying f2.type = some (.int .i64)) (k3 : P.underlying f3.type = some .bool)
    (n : Nat) (cs : List Value) (d : DataW H) (ps : List MemPlace) (hl : cs.length = encM.size) (h : DataW.trod enc P W 0 (fun _ => true) true n E cs = some (d, ps)) : ∃ x, cs = encM.cells x ∧ encM.ok x := by
  obtain ⟨y0, y1, y2, y3, m, _, _, h0, h1, h2, h3⟩ := Go.Joins.trod_struct4 hE h
  obtain ⟨o0, c0⟩ := hone_of hone 0 f0 rfl
  obtain ⟨o1, c1⟩ := hone_of hone 1 f1 rfl
  obtain ⟨o2, c2⟩ := hone_of hone 2 f2 rfl
  obtain ⟨o3, c3⟩ := hone_of hone 3 f3 rfl
  match cs, hl with
  | [v0, v1, v2, v3], _ =>
    have h0' : DataW.trod enc P W 0 (fun _ => true) true m f0.type [v0] = some y0 := by simpa [o0, c0] using h0
    have h1' : DataW.trod enc P W 0 (fun _ => true) true m f1.type [v1] = some y1 := by simpa [o1, c1] using h1
    have h2' : DataW.trod enc P W 0 (fun _ => true) true m f2.type [v2] = some y2 := by simpa [o2, c2] using h2
    have h3' : DataW.trod enc P W 0 (fun _ => true) true m f3.type [v3] = some y3 := by simpa [o3, c3] using h3
    obtain ⟨a, ha, _, wa⟩ := DataW.trod_int k0 h0'
    obtain ⟨b, hb, _, wb⟩ := DataW.trod_int k1 h1'
    obtain ⟨c, hc, _, wc⟩ := DataW.trod_int k2 h2'
    obtain ⟨e, he, _⟩ := DataW.trod_bool k3 h3'
    simp at ha hb hc he
    subst ha hb hc he
    exact ⟨⟨a, b, c, e⟩, rfl, wa, wb, wc⟩
/-- A field of an element of a row. -/
theorem SeesG.atP {w : World} {b o n cap : Nat} {L : List (Int × Int)} (h : SeesG encP w (.slice (some ⟨b, o, none⟩) n cap) L) {j : Nat} (hj : j < L.length) :
    w.cell? ⟨b, o + j * 2, none⟩ = some (.int .i64 (L.getD j (0, 0)).1) ∧ w.cell? ⟨b, o + (j * 2 + 1), none⟩ = some (.int .i64 (L.getD j (0, 0)).2) := by
  have h0 := h.at' hj (i := 0) (by decide)
  have h1 := h.at' hj (i := 1) (by decide)
  simp only [encP] at h0 h1
  exact ⟨by simpa using h0, by simpa [Nat.add_assoc] using h1⟩
theorem SeesG.atM {w : World} {b o n cap : Nat} {L : List Mem} (h : SeesG encM w (.slice (some ⟨b, o, none⟩) n cap) L) {j : Nat} (hj : j < L.length) :
    w.cell? ⟨b, o + j * 4, none⟩ = some (.int .i64 (L.getD j ⟨0, 0, 0, false⟩).id) ∧ w.cell? ⟨b, o + (j * 4 + 1), none⟩ = some (.int .i64 (L.getD j ⟨0, 0, 0, false⟩).str) ∧ w.cell? ⟨b, o + (j * 4 + 2), none⟩ = some (.int .i64 (L.getD j ⟨0, 0, 0, false⟩).need) ∧
      w.cell? ⟨b, o + (j * 4 + 3), none⟩ = some (.bool (L.getD j ⟨0, 0, 0, false⟩).ill) := by
  have h0 := h.at' hj (i := 0) (by decide)
  have h1 := h.at' hj (i := 1) (by decide)
  have h2 := h.at' hj (i := 2) (by decide)
  have h3 := h.at' hj (i := 3) (by decide)
  simp only [encM] at h0 h1 h2 h3
  exact ⟨by simpa using h0, by simpa [Nat.add_assoc] using h1, by simpa [Nat.add_assoc] using h2, by simpa [Nat.add_assoc] using h3⟩
end Go.Proofs.Ytbpiojnehomljaa.Rg

namespace Go.Proofs.Ytbpiojnehomljaa.Rg
open Go.RowKit Kit Rw Go.ChangeShapes Go.WideShapes Go.ChangeAt Go.Deep

theorem field_rowG {α : Type} {e : Enc α} {H : Type} {enc : TypeId × Value → H} {P : Program} {t E : TypeId} {W : World} {n : Nat} {v : Value} {y : DataW H × List MemPlace}
    (ht : P.underlying t = some (.slice E)) (hc : P.cellsOf E = e.size)
    (hel : ∀ (n : Nat) (cs : List Value) (d : DataW H) (ps : List MemPlace), cs.length = e.size → DataW.trod enc P W 0 (fun _ => true) true n E cs = some (d, ps) → ∃ x, cs = e.cells x ∧ e.ok x)
    (h : DataW.trod enc P W 0 (fun _ => true) true n t [v] = some y) : ∃ a len cap L, v = .slice a len cap ∧ L.length = len ∧ SeesG e W (.slice a len cap) L := by
  rcases open_slice ht h with ⟨hcs, _⟩ | ⟨x, l, c, m, n', D, Pl, hcs, _⟩
  · simp only [List.cons.injEq, and_true] at hcs
    subst hcs
    exact ⟨none, 0, 0, [], rfl, rfl, none, 0, rfl, by simp, by unfold maxLen; omega, fun _ => rfl, by simp, .inl rfl⟩
  · simp only [List.cons.injEq, and_true] at hcs
    subst hcs
    obtain ⟨d, ps⟩ := y
    obtain ⟨L, h1, h2⟩ := row_openG (e := e) ht hc hel ⟨n, by simpa [Value.cells] using h⟩
    exact ⟨_, _, _, L, rfl, h1, h2⟩
end Go.Proofs.Ytbpiojnehomljaa.Rg

namespace Go.Proofs.Ytbpiojnehomljaa.Rg
open Go.RowKit Kit Rw

theorem spliceG_set {α : Type} {A B : List α} {d : α} {i : Nat} (h : A.length = B.length) (hi : i < A.length) : (A.take i ++ B.drop i).set i (A.getD i d) = A.take (i + 1) ++ B.drop (i + 1) := by
  apply List.ext_getElem?
  intro j
  have hAi : A[i]? = some (A.getD i d) := by simp [hi]
  rw [List.getElem?_set]
  by_cases hj : i = j
  · subst hj
    rw [if_pos rfl, if_pos (by simp; omega), List.getElem?_append_left (by simp; omega), List.getElem?_take, if_pos (by omega), hAi]
  · rw [if_neg hj]
    by_cases hlt : j < i
    · rw [List.getElem?_append_left (by simp; omega), List.getElem?_append_left (by simp; omega), List.getElem?_take, List.getElem?_take, if_pos hlt, if_pos (by omega)]
    · rw [List.getElem?_append_right (by simp; omega), List.getElem?_append_right (by simp; omega), List.getElem?_drop, List.getElem?_drop]
      simp only [List.length_take]
      congr 1
      omega
theorem spliceG_get {α : Type} {A B : List α} {d : α} {i : Nat} (h : A.length = B.length) (hi : i < A.length) : (A.take i ++ B.drop i).getD i d = B.getD i d := by
  rw [List.getD_eq_getElem?_getD, List.getD_eq_getElem?_getD, List.getElem?_append_right (by simp; omega), List.getElem?_drop]
  have : min i A.length = i := by omega
  simp [this]
theorem spliceG_len {α : Type} {A B : List α} {i : Nat} (h : A.length = B.length) (hi : i ≤ A.length) : (A.take i ++ B.drop i).length = A.length := by simp; omega
theorem listG_same {α : Type} {X Y : List α} (d : α) (h : X.length = Y.length) (he : ∀ m, m < Y.length → X.getD m d = Y.getD m d) : X = Y := by
  apply List.ext_getElem h
  intro i h1 h2
  have := he i h2
  simpa [h1, h2] using this
theorem memG {α : Type} {L : List α} {d : α} {j : Nat} (hj : j < L.length) : L.getD j d ∈ L := by
  have : L.getD j d = L[j] := by simp [hj]
  rw [this]; exact List.getElem_mem hj

theorem flat_replicate {α : Type} (e : Enc α) (z : Array Value) (hz : z.toList = e.cells e.dflt) (n : Nat) : (madeCells z (n * e.size)).toList = flat e (List.replicate n e.dflt) := by
  have hs : z.size = e.size := by rw [← Array.length_toList, hz, e.len]
  apply List.ext_getElem?
  intro k
  by_cases hk : k < n * e.size
  · have hi := div_lt e.pos hk
    have hr := Nat.mod_lt k e.pos
    have hjj : k / e.size * e.size + k % e.size = k := by rw [Nat.mul_comm]; exact Nat.div_add_mod k e.size
    have h2 := flat_at (e := e) (L := List.replicate n e.dflt) (j := k / e.size) (i := k % e.size) (by simpa using hi) hr
    rw [hjj] at h2
    have hg : (List.replicate n e.dflt).getD (k / e.size) e.dflt = e.dflt := by
      rw [List.getD_eq_getElem?_getD, List.getElem?_replicate]; split <;> rfl
    rw [h2, hg, ← hz]
    have hlt : k % z.size < z.size := by rw [hs]; exact hr
    simp only [madeCells, Array.getElem?_toList, Array.getElem?_map]
    rw [show (Array.range (n * e.size))[k]? = some k by simp [hk]]
    simp only [Option.map_some]
    rw [← hs, getElem!_pos z _ hlt, Array.getElem?_eq_getElem hlt]
  · have h1 : (madeCells z (n * e.size)).toList.length ≤ k := by simp [madeCells]; omega
    have h2 : (flat e (List.replicate n e.dflt)).length ≤ k := by rw [flat_len, List.length_replicate]; omega
    rw [List.getElem?_eq_none h1, List.getElem?_eq_none h2]

/-- 'make([]E, n)'. -/
theorem wpListG_make {α : Type} {e : Enc α} {P : Program} (w : World) {ops : Array Oper} {rest : List Oper} {o : Oper} {a : Act} {Q : Exit → Act → World → Prop}
    (hg : o.guard = none) (l c : Operand) (t : TypeId) (hop : o.op = Op.makeSlice t l c)
    (base : Nat) (E : TypeId) (i : TypeInfo) (z : Value) (bytes : Nat) (h1 : P.underlying t = some (.slice E)) (h2 : P.info? E = some i) (h3 : i.zero = some z) (h4 : i.size = e.size) (h5 : i.bytes = bytes)
    (hz : z.cells.toList = e.cells e.dflt) (hok : e.ok e.dflt)
    (kl kc : IntKind) (L C : Int) (n : Nat) (hl : a.eval l = .int kl L) (hc : a.eval c = .int kc C) (hL : L = (n : Int)) (hC : C = (n : Int)) (b2 : bytes * n ≤ 281474976710656) (b3 : n ≤ maxLen) (b4 : base ≤ w.heap.size)
    (hK : ∀ w', OwnG e E w' base (.slice (some ⟨w.heap.size, 0, none⟩) n n) (List.replicate n e.dflt) → w.grownBy w' none → wpList P ops Q rest (a.put o.dst (.slice (some ⟨w.heap.size, 0, none⟩) n n)) w') :
    wpList P ops Q (o :: rest) a w := by
  refine wpList_make_full w hg l c t hop base E i z e.size h1 h2 h3 h4 kl kc L C n hl hc hL hC (by rw [h5]; exact b2) b3 b4 (fun w' ho hgw => hK w' ⟨?_, ?_⟩ hgw)
  · rw [List.length_replicate, ← flat_replicate e z.cells hz]; exact ho
  · intro x hx
    rw [List.eq_of_mem_replicate hx]; exact hok

section
variable {α : Type} {e : Enc α} {E : TypeId} {w : World} {base : Nat} {L : List α}
theorem OwnG.cellAt {g n cap : Nat} (h : OwnG e E w base (.slice (some ⟨g, 0, none⟩) n cap) L) {j : Nat} (hj : j < L.length) {i : Nat} (hi : i < e.size) : w.cell? ⟨g, j * e.size + i, none⟩ = (e.cells (L.getD j e.dflt))[i]? := by
  have := h.sees.at' hj hi
  rwa [Nat.zero_add] at this
theorem OwnG.free {g n cap : Nat} (h : OwnG e E w base (.slice (some ⟨g, 0, none⟩) n cap) L) (k : Nat) : w.frozen? ⟨g, k, none⟩ = false := by
  obtain ⟨_, _, e', _⟩ := h.sees
  injection e' with _ e2 _
  have ho := h.1
  rw [← e2] at ho
  exact ho.frozenAt k
theorem OwnG.len {v : Value} (h : OwnG e E w base v L) : L.length ≤ 9223372036854775807 := h.sees.len
/-- A row that was there before another one was made lies in another block. -/
theorem OwnG.apart {β : Type} {e' : Enc β} {E' : TypeId} {w0 : World} {b0 : Nat} {v u : Value} {M : List β} (h : OwnG e E w base v L) (h0 : OwnG e' E' w0 b0 u M) (hle : w0.heap.size ≤ base) : (v.ownBlock = none ∨ v.ownBlock ≠ u.ownBlock) ∧ (u.ownBlock = none ∨ u.ownBlock ≠ v.ownBlock) := by
  cases hv : v.ownBlock with
  | none => exact ⟨.inl rfl, by cases u.ownBlock <;> simp⟩
  | some c =>
    cases hu : u.ownBlock with
    | none => exact ⟨.inr (by simp), .inl rfl⟩
    | some d =>
      have := h.lt c hv
      have := h0.lt d hu
      exact ⟨.inr (by simp; omega), .inr (by simp; omega)⟩
/-- .. and stays where a box in another block is written. -/
theorem OwnG.set {b : Nat} {v : Value} (h : OwnG e E w base v L) (hb : b < base) (j : Nat) (x : Value) : OwnG e E (w.setCell ⟨b, j, none⟩ x) base v L :=
  h.kept (grown_set w b j x) (.inr (h.off hb))
end
/-- A row that lies in a block from 'base' on, whoever may write it. -/
def SitsG {α : Type} (e : Enc α) (w : World) (base : Nat) (v : Value) (L : List α) : Prop := SeesG e w v L ∧ ∀ c, v.ownBlock = some c → base ≤ c ∧ c < w.heap.size
section
variable {α : Type} {e : Enc α} {w w' : World} {base : Nat} {v : Value} {L : List α}
theorem SitsG.sees (h : SitsG e w base v L) : SeesG e w v L := h.1
theorem SitsG.lt (h : SitsG e w base v L) : ∀ c, v.ownBlock = some c → base ≤ c ∧ c < w.heap.size := h.2
theorem SitsG.kept {row : Option Nat} (h : SitsG e w base v L) (hg : w.grownBy w' row) (hne : v.ownBlock = none ∨ v.ownBlock ≠ row) : SitsG e w' base v L :=
  ⟨h.1.kept hg hne, fun c hc => ⟨(h.2 c hc).1, Nat.lt_of_lt_of_le (h.2 c hc).2 hg.size⟩⟩
theorem SitsG.grown (h : SitsG e w base v L) (hg : w.grownBy w' none) : SitsG e w' base v L := h.kept hg (ne_none v)
theorem SitsG.lower {b : Nat} (h : SitsG e w base v L) (hb : b ≤ base) : SitsG e w b v L := ⟨h.1, fun c hc => ⟨Nat.le_trans hb (h.2 c hc).1, (h.2 c hc).2⟩⟩
theorem SitsG.off {b : Nat} (h : SitsG e w base v L) (hb : b < base) : v.ownBlock ≠ some b := by
  intro e; have := h.lt b e; omega
theorem SitsG.off' {b : Nat} (h : SitsG e w base v L) (hb : w.heap.size ≤ b) : v.ownBlock ≠ some b := by
  intro e; have := h.lt b e; omega
theorem OwnG.sits {E : TypeId} (h : OwnG e E w base v L) : SitsG e w base v L := ⟨h.sees, h.lt⟩
end
theorem apart_lt {b b0 S sz : Nat} {v u : Value} (h : ∀ c, v.ownBlock = some c → b ≤ c ∧ c < S) (h0 : ∀ c, u.ownBlock = some c → b0 ≤ c ∧ c < sz) (hle : sz ≤ b) : (v.ownBlock = none ∨ v.ownBlock ≠ u.ownBlock) ∧ (u.ownBlock = none ∨ u.ownBlock ≠ v.ownBlock) := by
  cases hv : v.ownBlock with
  | none => exact ⟨.inl rfl, by cases u.ownBlock <;> simp⟩
  | some c =>
    cases hu : u.ownBlock with
    | none => exact ⟨.inr (by simp), .inl rfl⟩
    | some d =>
      have := h c hv
      have := h0 d hu
      exact ⟨.inr (by simp; omega), .inr (by simp; omega)⟩
end Go.Proofs.Ytbpiojnehomljaa.Rg
