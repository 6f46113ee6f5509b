/- More on rows of whatever elements: made full, spliced, compared, stored into. No condition. -/
import Derived.Test.YtbibkjponadipaaDoorRowG
namespace Go.Proofs.YtbibkjponadipaaDoor.Rg
open Go.RowKit Kit Rw

theorem spliceG_set {α : Type} {A B : List α} {d : α} {i : Nat} (h : A.length = B.length) (hi : i < A.length) : (A.take i ++ B.drop i).set i (A.getD i d) = A.take (i + 1) ++ B.drop (i + 1) := by
  apply List.ext_getElem?
  intro j
  have hAi : A[i]? = some (A.getD i d) := by simp [hi]
  rw [List.getElem?_set]
  by_cases hj : i = j
  · subst hj
    rw [if_pos rfl, if_pos (by simp; omega), List.getElem?_append_left (by simp; omega), List.getElem?_take, if_pos (by omega), hAi]
  · rw [if_neg hj]
    by_cases hlt : j < i
    · rw [List.getElem?_append_left (by simp; omega), List.getElem?_append_left (by simp; omega), List.getElem?_take, List.getElem?_take, if_pos hlt, if_pos (by omega)]
    · rw [List.getElem?_append_right (by simp; omega), List.getElem?_append_right (by simp; omega), List.getElem?_drop, List.getElem?_drop]
      simp only [List.length_take]
      congr 1
      omega
theorem spliceG_get {α : Type} {A B : List α} {d : α} {i : Nat} (h : A.length = B.length) (hi : i < A.length) : (A.take i ++ B.drop i).getD i d = B.getD i d := by
  rw [List.getD_eq_getElem?_getD, List.getD_eq_getElem?_getD, List.getElem?_append_right (by simp; omega), List.getElem?_drop]
  have : min i A.length = i := by omega
  simp [this]
theorem spliceG_len {α : Type} {A B : List α} {i : Nat} (h : A.length = B.length) (hi : i ≤ A.length) : (A.take i ++ B.drop i).length = A.length := by simp; omega
theorem listG_same {α : Type} {X Y : List α} (d : α) (h : X.length = Y.length) (he : ∀ m, m < Y.length → X.getD m d = Y.getD m d) : X = Y := by
  apply List.ext_getElem h
  intro i h1 h2
  have := he i h2
  simpa [h1, h2] using this
theorem memG {α : Type} {L : List α} {d : α} {j : Nat} (hj : j < L.length) : L.getD j d ∈ L := by
  have : L.getD j d = L[j] := by simp [hj]
  rw [this]; exact List.getElem_mem hj

theorem flat_replicate {α : Type} (e : Enc α) (z : Array Value) (hz : z.toList = e.cells e.dflt) (n : Nat) : (madeCells z (n * e.size)).toList = flat e (List.replicate n e.dflt) := by
  have hs : z.size = e.size := by rw [← Array.length_toList, hz, e.len]
  apply List.ext_getElem?
  intro k
  by_cases hk : k < n * e.size
  · have hi := div_lt e.pos hk
    have hr := Nat.mod_lt k e.pos
    have hjj : k / e.size * e.size + k % e.size = k := by rw [Nat.mul_comm]; exact Nat.div_add_mod k e.size
    have h2 := flat_at (e := e) (L := List.replicate n e.dflt) (j := k / e.size) (i := k % e.size) (by simpa using hi) hr
    rw [hjj] at h2
    have hg : (List.replicate n e.dflt).getD (k / e.size) e.dflt = e.dflt := by
      rw [List.getD_eq_getElem?_getD, List.getElem?_replicate]; split <;> rfl
    rw [h2, hg, ← hz]
    have hlt : k % z.size < z.size := by rw [hs]; exact hr
    simp only [madeCells, Array.getElem?_toList, Array.getElem?_map]
    rw [show (Array.range (n * e.size))[k]? = some k by simp [hk]]
    simp only [Option.map_some]
    rw [← hs, getElem!_pos z _ hlt, Array.getElem?_eq_getElem hlt]
  · have h1 : (madeCells z (n * e.size)).toList.length ≤ k := by simp [madeCells]; omega
    have h2 : (flat e (List.replicate n e.dflt)).length ≤ k := by rw [flat_len, List.length_replicate]; omega
    rw [List.getElem?_eq_none h1, List.getElem?_eq_none h2]

/-- 'make([]E, n)'. -/
theorem wpListG_make {α : Type} {e : Enc α} {P : Program} (w : World) {ops : Array Oper} {rest : List Oper} {o : Oper} {a : Act} {Q : Exit → Act → World → Prop}
    (hg : o.guard = none) (l c : Operand) (t : TypeId) (hop : o.op = Op.makeSlice t l c)
    (base : Nat) (E : TypeId) (i : TypeInfo) (z : Value) (bytes : Nat) (h1 : P.underlying t = some (.slice E)) (h2 : P.info? E = some i) (h3 : i.zero = some z) (h4 : i.size = e.size) (h5 : i.bytes = bytes)
    (hz : z.cells.toList = e.cells e.dflt) (hok : e.ok e.dflt)
    (kl kc : IntKind) (L C : Int) (n : Nat) (hl : a.eval l = .int kl L) (hc : a.eval c = .int kc C) (hL : L = (n : Int)) (hC : C = (n : Int)) (b2 : bytes * n ≤ 281474976710656) (b3 : n ≤ maxLen) (b4 : base ≤ w.heap.size)
    (hK : ∀ w', OwnG e E w' base (.slice (some ⟨w.heap.size, 0, none⟩) n n) (List.replicate n e.dflt) → w.grownBy w' none → wpList P ops Q rest (a.put o.dst (.slice (some ⟨w.heap.size, 0, none⟩) n n)) w') :
    wpList P ops Q (o :: rest) a w := by
  refine wpList_make_full w hg l c t hop base E i z e.size h1 h2 h3 h4 kl kc L C n hl hc hL hC (by rw [h5]; exact b2) b3 b4 (fun w' ho hgw => hK w' ⟨?_, ?_⟩ hgw)
  · rw [List.length_replicate, ← flat_replicate e z.cells hz]; exact ho
  · intro x hx
    rw [List.eq_of_mem_replicate hx]; exact hok

section
variable {α : Type} {e : Enc α} {E : TypeId} {w : World} {base : Nat} {L : List α}
theorem OwnG.cellAt {g n cap : Nat} (h : OwnG e E w base (.slice (some ⟨g, 0, none⟩) n cap) L) {j : Nat} (hj : j < L.length) {i : Nat} (hi : i < e.size) : w.cell? ⟨g, j * e.size + i, none⟩ = (e.cells (L.getD j e.dflt))[i]? := by
  have := h.sees.at' hj hi
  rwa [Nat.zero_add] at this
theorem OwnG.free {g n cap : Nat} (h : OwnG e E w base (.slice (some ⟨g, 0, none⟩) n cap) L) (k : Nat) : w.frozen? ⟨g, k, none⟩ = false := by
  obtain ⟨_, _, e', _⟩ := h.sees
  injection e' with _ e2 _
  have ho := h.1
  rw [← e2] at ho
  exact ho.frozenAt k
theorem OwnG.len {v : Value} (h : OwnG e E w base v L) : L.length ≤ 9223372036854775807 := h.sees.len
/-- A row that was there before another one was made lies in another block. -/
theorem OwnG.apart {β : Type} {e' : Enc β} {E' : TypeId} {w0 : World} {b0 : Nat} {v u : Value} {M : List β} (h : OwnG e E w base v L) (h0 : OwnG e' E' w0 b0 u M) (hle : w0.heap.size ≤ base) : (v.ownBlock = none ∨ v.ownBlock ≠ u.ownBlock) ∧ (u.ownBlock = none ∨ u.ownBlock ≠ v.ownBlock) := by
  cases hv : v.ownBlock with
  | none => exact ⟨.inl rfl, by cases u.ownBlock <;> simp⟩
  | some c =>
    cases hu : u.ownBlock with
    | none => exact ⟨.inr (by simp), .inl rfl⟩
    | some d =>
      have := h.lt c hv
      have := h0.lt d hu
      exact ⟨.inr (by simp; omega), .inr (by simp; omega)⟩
/-- .. and stays where a box in another block is written. -/
theorem OwnG.set {b : Nat} {v : Value} (h : OwnG e E w base v L) (hb : b < base) (j : Nat) (x : Value) : OwnG e E (w.setCell ⟨b, j, none⟩ x) base v L :=
  h.kept (grown_set w b j x) (.inr (h.off hb))
end
/-- A row that lies in a block from 'base' on, whoever may write it. -/
def SitsG {α : Type} (e : Enc α) (w : World) (base : Nat) (v : Value) (L : List α) : Prop := SeesG e w v L ∧ ∀ c, v.ownBlock = some c → base ≤ c ∧ c < w.heap.size
section
variable {α : Type} {e : Enc α} {w w' : World} {base : Nat} {v : Value} {L : List α}
theorem SitsG.sees (h : SitsG e w base v L) : SeesG e w v L := h.1
theorem SitsG.lt (h : SitsG e w base v L) : ∀ c, v.ownBlock = some c → base ≤ c ∧ c < w.heap.size := h.2
theorem SitsG.kept {row : Option Nat} (h : SitsG e w base v L) (hg : w.grownBy w' row) (hne : v.ownBlock = none ∨ v.ownBlock ≠ row) : SitsG e w' base v L :=
  ⟨h.1.kept hg hne, fun c hc => ⟨(h.2 c hc).1, Nat.lt_of_lt_of_le (h.2 c hc).2 hg.size⟩⟩
theorem SitsG.grown (h : SitsG e w base v L) (hg : w.grownBy w' none) : SitsG e w' base v L := h.kept hg (ne_none v)
theorem SitsG.lower {b : Nat} (h : SitsG e w base v L) (hb : b ≤ base) : SitsG e w b v L := ⟨h.1, fun c hc => ⟨Nat.le_trans hb (h.2 c hc).1, (h.2 c hc).2⟩⟩
theorem SitsG.off {b : Nat} (h : SitsG e w base v L) (hb : b < base) : v.ownBlock ≠ some b := by
  intro e; have := h.lt b e; omega
theorem SitsG.off' {b : Nat} (h : SitsG e w base v L) (hb : w.heap.size ≤ b) : v.ownBlock ≠ some b := by
  intro e; have := h.lt b e; omega
theorem OwnG.sits {E : TypeId} (h : OwnG e E w base v L) : SitsG e w base v L := ⟨h.sees, h.lt⟩
end
theorem apart_lt {b b0 S sz : Nat} {v u : Value} (h : ∀ c, v.ownBlock = some c → b ≤ c ∧ c < S) (h0 : ∀ c, u.ownBlock = some c → b0 ≤ c ∧ c < sz) (hle : sz ≤ b) : (v.ownBlock = none ∨ v.ownBlock ≠ u.ownBlock) ∧ (u.ownBlock = none ∨ u.ownBlock ≠ v.ownBlock) := by
  cases hv : v.ownBlock with
  | none => exact ⟨.inl rfl, by cases u.ownBlock <;> simp⟩
  | some c =>
    cases hu : u.ownBlock with
    | none => exact ⟨.inr (by simp), .inl rfl⟩
    | some d =>
      have := h c hv
      have := h0 d hu
      exact ⟨.inr (by simp; omega), .inr (by simp; omega)⟩
end Go.Proofs.YtbibkjponadipaaDoor.Rg
