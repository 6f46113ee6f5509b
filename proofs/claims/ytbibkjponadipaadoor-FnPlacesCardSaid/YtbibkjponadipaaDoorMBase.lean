/- Small facts that all of this seat's texts share: rows of integers that came in, a cursor's block, and the frame of a call that writes one old block. No condition. What a slice value of integers reads as in a world, what it owns, and how both go on. No condition. The element types' rows of the table; two lists that agree at every place. Contracts of the range tests of the program and of the model. The fields of a struct that came in, opened. No condition. Boxes: blocks of one, two or three cells that a call makes for a struct, and a variable of its own; how they stay. No condition. What a land is, its cells, and which of them are near one another: plain definitions and facts. 'append(v, x)' at a step of a region that draws its order, v a row of the call's own. A struct or array that is read whole out of a block, or a part of a block; a block that is written whole. No condition. -/
import Derived.Test.YtbibkjponadipaaDoorRows
import Derived.WalkKit
import Derived.ProofKit
import Derived.OpenShut
import Derived.ShutString
import Derived.Below
import Derived.OneCell
import Derived.Deep.Draws
import Derived.Laws.AppendOwn
import Derived.OwnWalk
import Derived.Laws.AppendOwnNone
import Derived.Laws.BytesArg
import Derived.Lib.Hide
import Derived.Lib.SmallJoins
import Derived.Deep.AppendLies
import Derived.Deep.RegionHeld3
import Derived.Laws.Rows
import Derived.Deep.WholeRow
namespace Go.Proofs.YtbibkjponadipaaDoor.Kit
open Go.ChangeShapes Go.WideShapes Go.ChangeAt Go.RowKit

/-- A slice of integers that came in: nil, or a row of 'cap' cells that hold 'z'. -/
def IsRow (k : IntKind) (w : World) (a : Option Addr) (len cap : Nat) (z : List Int) : Prop :=
  (a = none ∧ len = 0 ∧ cap = 0 ∧ z = []) ∨
  ∃ x, a = some x ∧ len ≤ cap ∧ cap ≤ maxLen ∧ z.length = cap ∧ (∀ i, i < z.length → w.cell? (x.add i) = some (.int k (z.getD i 0))) ∧ ∀ n ∈ z, (Lit.int k n).wf = true

theorem row_open {H : Type} {enc : TypeId × Value → H} {P : Program} {t e : TypeId} {k : IntKind} {W : World} {a : Option Addr} {len cap : Nat} {d : DataW H} {ps : List MemPlace}
    (ht : P.underlying t = some (.slice e)) (he : P.underlying e = some (.int k)) (hc : P.cellsOf e = 1)
    (h : DataW.Trod enc P W 0 (fun _ => true) true t (.slice a len cap) d ps) : ∃ z, IsRow k W a len cap z := by
  obtain ⟨fuel, hf⟩ := h
  rcases open_ints ht he hc hf with ⟨hcs, _⟩ | ⟨x, l, c, zs, hcs, _, hl, hm, hz, _, hcell, hwz⟩
  · simp [Value.cells] at hcs
    obtain ⟨rfl, rfl, rfl⟩ := hcs
    exact ⟨[], .inl ⟨rfl, rfl, rfl, rfl⟩⟩
  · simp [Value.cells] at hcs
    obtain ⟨rfl, rfl, rfl⟩ := hcs
    exact ⟨zs, .inr ⟨_, rfl, hl, hm, by simpa using hz, hcell, hwz⟩⟩

theorem add_plain (b o j : Nat) : (⟨b, o, none⟩ : Addr).add j = ⟨b, o + j, none⟩ := by
  unfold Addr.add
  split
  · rename_i h; subst h; rfl
  · rfl

theorem IsRow.len_le {k : IntKind} {w : World} {a : Option Addr} {len cap : Nat} {z : List Int} (h : IsRow k w a len cap z) : len ≤ cap ∧ cap ≤ maxLen := by
  rcases h with ⟨_, rfl, rfl, _⟩ | ⟨_, _, h1, h2, _⟩
  · exact ⟨Nat.le_refl _, Nat.zero_le _⟩
  · exact ⟨h1, h2⟩

/-- Where there is an element, the row lies at a plain address, and its cells read so. -/
theorem IsRow.at {k : IntKind} {w : World} {a : Option Addr} {len cap : Nat} {z : List Int} (h : IsRow k w a len cap z) {i : Nat} (hi : i < len) :
    ∃ b off, a = some ⟨b, off, none⟩ ∧ ∀ j, j < cap → w.cell? ⟨b, off + j, none⟩ = some (.int k (z.getD j 0)) := by
  rcases h with ⟨_, rfl, _, _⟩ | ⟨⟨b, off, spot⟩, rfl, h1, h2, h3, h4, h5⟩
  · exact absurd hi (Nat.not_lt_zero _)
  · have hc := h4 0 (by omega)
    have hspot : spot = none := by simpa [Addr.add] using World.cell?_spot hc
    subst hspot
    exact ⟨b, off, rfl, fun j hj => by have := h4 j (by omega); rwa [add_plain] at this⟩

theorem IsRow.bounds {w : World} {a : Option Addr} {len cap : Nat} {z : List Int} (h : IsRow .u8 w a len cap z) (j : Nat) : 0 ≤ z.getD j 0 ∧ z.getD j 0 ≤ 255 := by
  have hw : ∀ n ∈ z, (Lit.int .u8 n).wf = true := by
    rcases h with ⟨_, _, _, rfl⟩ | ⟨_, _, _, _, _, _, h5⟩
    · simp
    · exact h5
  by_cases hj : j < z.length
  · have e : z.getD j 0 = z[j] := by simp [hj]
    rw [e]
    have := hw _ (List.getElem_mem hj)
    have hmin : IntKind.u8.min = 0 := rfl
    have hmax : IntKind.u8.max = 255 := rfl
    simp only [Lit.wf, Bool.and_eq_true, decide_eq_true_eq] at this
    omega
  · simp [hj]

/-- A row that came in stays where one other block is written. -/
theorem IsRow.kept {k : IntKind} {w w' : World} {c : Nat} {a : Option Addr} {len cap : Nat} {z : List Int} (h : IsRow k w a len cap z) (hg : w.grownBy w' (some c)) (hne : ∀ x, a = some x → 0 < cap → x.block ≠ c) : IsRow k w' a len cap z := by
  rcases h with h | ⟨x, rfl, h1, h2, h3, h4, h5⟩
  · exact .inl h
  · exact .inr ⟨x, rfl, h1, h2, h3, fun i hi => hg.cell (h4 i hi) (by simp only [Addr.add]; split <;> simpa using hne x rfl (by omega)), h5⟩
theorem IsRow.below {k : IntKind} {w w' : World} {a : Option Addr} {len cap : Nat} {z : List Int} (h : IsRow k w a len cap z) (hb : Below w.heap.size w w') : IsRow k w' a len cap z := by
  rcases h with h | ⟨x, rfl, h1, h2, h3, h4, h5⟩
  · exact .inl h
  · exact .inr ⟨x, rfl, h1, h2, h3, fun i hi => (hb.cell (World.block_lt_of_cell? w _ (h4 i hi))).trans (h4 i hi), h5⟩

theorem grown_trans {w w1 w2 : World} {c : Nat} (h : w.grownBy w1 (some c)) (k : w1.grownBy w2 (some c)) : w.grownBy w2 (some c) :=
  ⟨k.os.trans h.os, k.tape.trans h.tape, k.output.trans h.output, Nat.le_trans h.size k.size, fun i hi hn => (k.block i (Nat.lt_of_lt_of_le hi h.size) hn).trans (h.block i hi hn)⟩
theorem grown_refl (w : World) (row : Option Nat) : w.grownBy w row := ⟨rfl, rfl, rfl, Nat.le_refl _, fun _ _ _ => rfl⟩
theorem grown_set (w : World) (c o : Nat) (v : Value) : w.grownBy (w.setCell ⟨c, o, none⟩ v) (some c) :=
  ⟨rfl, rfl, rfl, by simp [World.setCell], fun k _ hn => Below.heap_setCell _ _ _ _ (fun e => hn (by rw [e]))⟩
theorem grown_drewN {w w' : World} {row : Option Nat} (h : w.grownBy w' row) (n : Nat) : w.grownBy (w'.drewN n) row := ⟨h.os, h.tape, h.output, h.size, h.block⟩
theorem grown_drew {w w' : World} {row : Option Nat} (h : w.grownBy w' row) : w.grownBy w'.drew row := ⟨h.os, h.tape, h.output, h.size, h.block⟩
/-- From a call that writes one block of its caller's own to the caller's frame. -/
theorem below_of {B c : Nat} {w w1 w2 : World} (hb : Below B w w1) (hg : w1.grownBy w2 (some c)) (hB : B ≤ w1.heap.size) (hc : B ≤ c) : Below B w w2 :=
  hb.grown hg hB (fun k hk => by injection hk with hk; omega)

/-- A block of three cells: what they hold; that they may be written; the block behind a store. -/
theorem three_cell {w : World} {b : Nat} {x y z : Value} {t : TypeId} (h : w.heap[b]? = some (.cells #[x, y, z] t (0, 0))) :
    w.cell? ⟨b, 0, none⟩ = some x ∧ w.cell? ⟨b, 1, none⟩ = some y ∧ w.cell? ⟨b, 2, none⟩ = some z := by
  refine ⟨?_, ?_, ?_⟩ <;> simp [World.cell?, h]
theorem three_free {w : World} {b : Nat} {x y z : Value} {t : TypeId} (h : w.heap[b]? = some (.cells #[x, y, z] t (0, 0))) :
    w.frozen? ⟨b, 0, none⟩ = false ∧ w.frozen? ⟨b, 1, none⟩ = false ∧ w.frozen? ⟨b, 2, none⟩ = false := by
  refine ⟨?_, ?_, ?_⟩ <;> simp [World.frozen?, h]
theorem three_set1 {w : World} {b : Nat} {x y z u : Value} {t : TypeId} (h : w.heap[b]? = some (.cells #[x, y, z] t (0, 0))) : (w.setCell ⟨b, 1, none⟩ u).heap[b]? = some (.cells #[x, u, z] t (0, 0)) := by
  have hlt := lt_of_block h
  have h' : w.heap[b] = .cells #[x, y, z] t (0, 0) := by simpa [Array.getElem?_eq_getElem hlt] using h
  show (w.heap.modify b _)[b]? = _
  rw [Array.getElem?_eq_getElem (by simpa using hlt), Array.getElem_modify_self, h']
  rfl
theorem three_set2 {w : World} {b : Nat} {x y z u : Value} {t : TypeId} (h : w.heap[b]? = some (.cells #[x, y, z] t (0, 0))) : (w.setCell ⟨b, 2, none⟩ u).heap[b]? = some (.cells #[x, y, u] t (0, 0)) := by
  have hlt := lt_of_block h
  have h' : w.heap[b] = .cells #[x, y, z] t (0, 0) := by simpa [Array.getElem?_eq_getElem hlt] using h
  show (w.heap.modify b _)[b]? = _
  rw [Array.getElem?_eq_getElem (by simpa using hlt), Array.getElem_modify_self, h']
  rfl
theorem ret_bool {a b : Bool} (h : a = b) : Ending.returned (.bool a) = .returned (.bool b) := by rw [h]
theorem ret_i64 {a b : Int} (h : a = b) : Ending.returned (.int .i64 a) = .returned (.int .i64 b) := by rw [h]
theorem i64_of {n : Int} (h : (Lit.int .i64 n).wf = true) : -9223372036854775808 ≤ n ∧ n ≤ 9223372036854775807 := by
  have hmin : IntKind.i64.min = -9223372036854775808 := rfl
  have hmax : IntKind.i64.max = 9223372036854775807 := rfl
  simp only [Lit.wf, Bool.and_eq_true, decide_eq_true_eq] at h; omega
end Go.Proofs.YtbibkjponadipaaDoor.Kit

namespace Go.Proofs.YtbibkjponadipaaDoor.Rw
open Go.RowKit Kit

/-- 'v' is a slice value whose elements read in 'w' as the numbers L. -/
def Sees (k : IntKind) (w : World) (v : Value) (L : List Int) : Prop :=
  ∃ a cap, v = .slice a L.length cap ∧ L.length ≤ cap ∧ cap ≤ maxLen ∧ (a = none → cap = 0) ∧ (∀ n ∈ L, (Lit.int k n).wf = true) ∧
    (L = [] ∨ ∃ b o, a = some ⟨b, o, none⟩ ∧ ∀ j, j < L.length → w.cell? ⟨b, o + j, none⟩ = some (.int k (L.getD j 0)))

/-- 'v' owns a row of its own, in a block from 'base' on, that holds the numbers L. -/
def Own (k : IntKind) (E : TypeId) (w : World) (base : Nat) (v : Value) (L : List Int) : Prop :=
  w.ownsRow base E 1 v L.length (L.map (Value.int k)) ∧ ∀ n ∈ L, (Lit.int k n).wf = true

theorem getD_map {k : IntKind} {L : List Int} {j : Nat} (hj : j < L.length) : (L.map (Value.int k))[j]? = some (.int k (L.getD j 0)) := by
  simp [hj]

theorem Own.sees {k : IntKind} {E : TypeId} {w : World} {base : Nat} {v : Value} {L : List Int} (h : Own k E w base v L) : Sees k w v L := by
  obtain ⟨ho, hw⟩ := h
  have ho' := ho
  rcases ho.2 with ⟨rfl, hn⟩ | ⟨g, cap, cur, rfl, hb, hg, hnc, hcm, hcs, ht⟩
  · refine ⟨none, 0, by rw [hn], by omega, by unfold maxLen; omega, fun _ => rfl, hw, .inl (List.eq_nil_of_length_eq_zero hn)⟩
  · refine ⟨_, cap, rfl, hnc, hcm, fun h => by simp at h, hw, .inr ⟨g, 0, rfl, fun j hj => ?_⟩⟩
    rw [Nat.zero_add, ho'.cellAt j (by omega), getD_map hj]

theorem Sees.len {k : IntKind} {w : World} {v : Value} {L : List Int} (h : Sees k w v L) : L.length ≤ 9223372036854775807 := by
  obtain ⟨a, cap, _, h1, h2, _⟩ := h
  unfold maxLen at h2; omega

theorem Sees.kept {k : IntKind} {w w' : World} {row : Option Nat} {v : Value} {L : List Int} (h : Sees k w v L) (hg : w.grownBy w' row) (hne : v.ownBlock = none ∨ v.ownBlock ≠ row) : Sees k w' v L := by
  obtain ⟨a, cap, rfl, h1, h2, h3, h4, h5⟩ := h
  refine ⟨a, cap, rfl, h1, h2, h3, h4, ?_⟩
  rcases h5 with h5 | ⟨b, o, rfl, h6⟩
  · exact .inl h5
  · exact .inr ⟨b, o, rfl, fun j hj => hg.cell (h6 j hj) (by simpa [Value.ownBlock] using hne)⟩

theorem ne_none (v : Value) : v.ownBlock = none ∨ v.ownBlock ≠ none := by cases v.ownBlock <;> simp
theorem Sees.grown {k : IntKind} {w w' : World} {v : Value} {L : List Int} (h : Sees k w v L) (hg : w.grownBy w' none) : Sees k w' v L := h.kept hg (ne_none v)
theorem Sees.below {k : IntKind} {w w' : World} {v : Value} {L : List Int} (h : Sees k w v L) (hb : Below w.heap.size w w') : Sees k w' v L := by
  obtain ⟨a, cap, rfl, h1, h2, h3, h4, h5⟩ := h
  refine ⟨a, cap, rfl, h1, h2, h3, h4, ?_⟩
  rcases h5 with h5 | ⟨b, o, rfl, h6⟩
  · exact .inl h5
  · exact .inr ⟨b, o, rfl, fun j hj => (hb.cell (World.block_lt_of_cell? w _ (h6 j hj))).trans (h6 j hj)⟩

section
variable {k : IntKind} {E : TypeId} {w w' : World} {base : Nat} {v : Value} {L : List Int}
theorem Own.kept {row : Option Nat} (h : Own k E w base v L) (hg : w.grownBy w' row) (hne : v.ownBlock = none ∨ v.ownBlock ≠ row) : Own k E w' base v L := ⟨h.1.kept hg hne, h.2⟩
theorem Own.grown (h : Own k E w base v L) (hg : w.grownBy w' none) : Own k E w' base v L := h.kept hg (ne_none v)
theorem Own.lower {b : Nat} (h : Own k E w base v L) (hb : b ≤ base) : Own k E w b v L := by
  obtain ⟨⟨h1, h2⟩, h3⟩ := h
  refine ⟨⟨h1, ?_⟩, h3⟩
  rcases h2 with h2 | ⟨g, cap, cur, hv, hg, r⟩
  · exact .inl h2
  · exact .inr ⟨g, cap, cur, hv, by omega, r⟩
theorem Own.lt (h : Own k E w base v L) : ∀ c, v.ownBlock = some c → base ≤ c ∧ c < w.heap.size := h.1.lt
/-- A row that was there before another one was made lies in another block. -/
theorem Own.apart {k' : IntKind} {E' : TypeId} {w0 : World} {b0 : Nat} {u : Value} {M : List Int} (h : Own k E w base v L) (h0 : Own k' E' w0 b0 u M) (hle : w0.heap.size ≤ base) : (v.ownBlock = none ∨ v.ownBlock ≠ u.ownBlock) ∧ (u.ownBlock = none ∨ u.ownBlock ≠ v.ownBlock) := by
  cases hv : v.ownBlock with
  | none => exact ⟨.inl rfl, by cases u.ownBlock <;> simp⟩
  | some c =>
    cases hu : u.ownBlock with
    | none => exact ⟨.inr (by simp), .inl rfl⟩
    | some d =>
      have := h.lt c hv
      have := h0.lt d hu
      exact ⟨.inr (by simp; omega), .inr (by simp; omega)⟩
/-- A row that the caller's memory holds lies in another block than one that was made since. -/
theorem Sees.apart {k' : IntKind} {w0 : World} {u : Value} {M : List Int} (h : Own k E w base v L) (h0 : Sees k' w0 u M) (hM : M ≠ []) (hle : w0.heap.size ≤ base) : u.ownBlock = none ∨ u.ownBlock ≠ v.ownBlock := by
  obtain ⟨a, cap, rfl, h1, h2, h3, h4, h5⟩ := h0
  rcases h5 with h5 | ⟨b, o, rfl, h6⟩
  · exact absurd h5 hM
  · have hb := World.block_lt_of_cell? w0 _ (h6 0 (List.length_pos_iff.2 hM))
    simp only at hb
    refine .inr ?_
    cases hv : v.ownBlock with
    | none => simp [Value.ownBlock]
    | some c => have := h.lt c hv; simp [Value.ownBlock]; omega
end

theorem grownN_trans {w w1 w2 : World} {r : Option Nat} (h : w.grownBy w1 r) (k : w1.grownBy w2 r) : w.grownBy w2 r :=
  ⟨k.os.trans h.os, k.tape.trans h.tape, k.output.trans h.output, Nat.le_trans h.size k.size, fun i hi hn => (k.block i (Nat.lt_of_lt_of_le hi h.size) hn).trans (h.block i hi hn)⟩
/-- New memory that is written later on: a call that makes it and then writes it writes nothing old. -/
theorem grown_new {w w1 w2 : World} {r : Option Nat} (h : w.grownBy w1 none) (k : w1.grownBy w2 r) (hr : ∀ c, r = some c → w.heap.size ≤ c) : w.grownBy w2 none :=
  ⟨k.os.trans h.os, k.tape.trans h.tape, k.output.trans h.output, Nat.le_trans h.size k.size, fun i hi hn => (k.block i (Nat.lt_of_lt_of_le hi h.size) (fun e => by have := hr i e.symm; omega)).trans (h.block i hi hn)⟩
theorem grown_below {w w' : World} (h : w.grownBy w' none) (B : Nat) (hB : B ≤ w.heap.size) : Below B w w' := (Below.refl B w).grown h hB (fun _ h => by cases h)
theorem below_grown {w w' : World} (h : Below w.heap.size w w') : w.grownBy w' none := ⟨h.os, h.tape, h.output, h.size, fun k hk _ => h.block k hk⟩

theorem IsRow.sees {k : IntKind} {w : World} {a : Option Addr} {len cap : Nat} {z : List Int} (h : IsRow k w a len cap z) : ∃ L, L.length = len ∧ Sees k w (.slice a len cap) L := by
  refine ⟨z.take len, ?_, ?_⟩
  · rcases h with ⟨_, rfl, _, rfl⟩ | ⟨_, _, h1, h2, h3, _⟩
    · rfl
    · simp; omega
  · rcases h with ⟨rfl, rfl, rfl, rfl⟩ | ⟨⟨b, o, s⟩, rfl, h1, h2, h3, h4, h5⟩
    · exact ⟨none, 0, rfl, by simp, by unfold maxLen; omega, fun _ => rfl, by simp, .inl rfl⟩
    · have hl : (z.take len).length = len := by simp; omega
      refine ⟨_, cap, by rw [hl], by omega, h2, fun h => by simp at h, fun n hn => h5 n (List.mem_of_mem_take hn), ?_⟩
      by_cases hz : len = 0
      · exact .inl (by simp [hz])
      · have hc := h4 0 (by omega)
        have hs : s = none := by simpa [Addr.add] using World.cell?_spot hc
        subst hs
        refine .inr ⟨b, o, rfl, fun j hj => ?_⟩
        have := h4 j (by omega)
        rw [add_plain] at this
        rw [this]
        congr 2
        have hj' : j < len := by omega
        rw [List.getD_eq_getElem?_getD, List.getD_eq_getElem?_getD, List.getElem?_take, if_pos hj']

theorem u8_of {n : Int} (h : (Lit.int .u8 n).wf = true) : 0 ≤ n ∧ n ≤ 255 := by
  have hmin : IntKind.u8.min = 0 := rfl
  have hmax : IntKind.u8.max = 255 := rfl
  simp only [Lit.wf, Bool.and_eq_true, decide_eq_true_eq] at h; omega
theorem u8_mk {n : Int} (h : 0 ≤ n ∧ n ≤ 255) : (Lit.int .u8 n).wf = true := by
  have hmin : IntKind.u8.min = 0 := rfl
  have hmax : IntKind.u8.max = 255 := rfl
  simp only [Lit.wf, Bool.and_eq_true, decide_eq_true_eq]; omega
theorem i64_mk {n : Int} (h : -9223372036854775808 ≤ n ∧ n ≤ 9223372036854775807) : (Lit.int .i64 n).wf = true := by
  have hmin : IntKind.i64.min = -9223372036854775808 := rfl
  have hmax : IntKind.i64.max = 9223372036854775807 := rfl
  simp only [Lit.wf, Bool.and_eq_true, decide_eq_true_eq]; omega
theorem mem_getD {L : List Int} {j : Nat} (hj : j < L.length) : L.getD j 0 ∈ L := by
  have : L.getD j 0 = L[j] := by simp [hj]
  rw [this]; exact List.getElem_mem hj
theorem Sees.wf {k : IntKind} {w : World} {v : Value} {L : List Int} (h : Sees k w v L) : ∀ n ∈ L, (Lit.int k n).wf = true := by
  obtain ⟨_, _, _, _, _, _, h, _⟩ := h; exact h

/-- 'A' to the left of i, 'B' from i on: what a loop leaves that turns B into A, element by element. -/
theorem splice_set {A B : List Int} {i : Nat} (h : A.length = B.length) (hi : i < A.length) : (A.take i ++ B.drop i).set i (A.getD i 0) = A.take (i + 1) ++ B.drop (i + 1) := by
  apply List.ext_getElem?
  intro j
  have hAi : A[i]? = some (A.getD i 0) := by simp [hi]
  rw [List.getElem?_set]
  by_cases hj : i = j
  · subst hj
    rw [if_pos rfl, if_pos (by simp; omega), List.getElem?_append_left (by simp; omega), List.getElem?_take, if_pos (by omega), hAi]
  · rw [if_neg hj]
    by_cases hlt : j < i
    · rw [List.getElem?_append_left (by simp; omega), List.getElem?_append_left (by simp; omega), List.getElem?_take, List.getElem?_take, if_pos hlt, if_pos (by omega)]
    · rw [List.getElem?_append_right (by simp; omega), List.getElem?_append_right (by simp; omega), List.getElem?_drop, List.getElem?_drop]
      simp only [List.length_take]
      congr 1
      omega
theorem splice_get {k : IntKind} {A B : List Int} {i : Nat} (h : A.length = B.length) (hi : i < A.length) : ((A.take i ++ B.drop i).map (Value.int k))[i]? = some (.int k (B.getD i 0)) := by
  rw [List.getElem?_map, List.getElem?_append_right (by simp; omega), List.getElem?_drop]
  have : min i A.length = i := by omega
  simp [this, show i < B.length by omega]
theorem splice_len {A B : List Int} {i : Nat} (h : A.length = B.length) (hi : i ≤ A.length) : (A.take i ++ B.drop i).length = A.length := by simp; omega

/-- A store into a row of the call's own. -/
theorem own_set {k : IntKind} {E : TypeId} {w : World} {base g n cap : Nat} {L : List Int} (h : w.ownsRow base E 1 (.slice (some ⟨g, 0, none⟩) n cap) n (L.map (Value.int k))) (j : Nat) (x : Int) :
    (w.setCell ⟨g, j, none⟩ (.int k x)).ownsRow base E 1 (.slice (some ⟨g, 0, none⟩) n cap) n ((L.set j x).map (Value.int k)) ∧ w.grownBy (w.setCell ⟨g, j, none⟩ (.int k x)) (some g) := by
  have := h.stored j (.int k x)
  rwa [← List.map_set] at this

/-- 'append(v, u...)', v a row of the call's own, u whatever reads as the numbers M. -/
theorem wpList_append_sees {P : Program} (w : World) {ops : Array Oper} {rest : List Oper} {o : Oper} {a : Act} {Q : Exit → Act → World → Prop} (hgd : o.guard = none) (s x : Operand) (t : TypeId)
    (ho : o.op = .call { callee := .builtin .append, args := #[s, x], argTypes := #[t, t] })
    (base : Nat) (E : TypeId) (i : TypeInfo) (z : Value) (bytes : Nat) (ht : P.underlying t = some (.slice E)) (hi : P.info? E = some i) (hz : i.zero = some z)
    (hsize : i.size = 1) (hby : i.bytes = bytes) (hzs : z.cells.size = 1) (k : IntKind)
    (v : Value) (L : List Int) (hs : a.eval s = v) (hown : Own k E w base v L) (u : Value) (M : List Int) (hx : a.eval x = u) (hu : Sees k w u M)
    (h63 : L.length + M.length ≤ maxLen) (hbytes : (L.length + M.length) * bytes ≤ 140737488355328) (hbase : base ≤ w.heap.size)
    (h : ∀ v' w', Own k E w' base v' (L ++ M) → w.grownBy w' v.ownBlock → wpList P ops Q rest (a.put o.dst v') w') : wpList P ops Q (o :: rest) a w := by
  obtain ⟨ho1, hw1⟩ := hown
  have hwf := hu.wf
  obtain ⟨ad, cap, rfl, hlc, hcm, hnil, _, hcell⟩ := hu
  have hall : ∀ n ∈ L ++ M, (Lit.int k n).wf = true := fun n hn => by
    rcases List.mem_append.1 hn with h | h
    · exact hw1 n h
    · exact hwf n h
  cases ad with
  | none =>
    have hc := hnil rfl
    subst hc
    have hM : M = [] := List.eq_nil_of_length_eq_zero (by omega)
    subst hM
    refine wpList_append_own_none hgd s x t ho base E i 1 ht hi v L.length _ hs ho1 (by simpa using hx) (h v w ⟨by simpa using ho1, hall⟩ ?_)
    exact World.grownBy.refl w _
  | some ad =>
    refine wpList_append_own w hgd s x t ho base E i z 1 bytes ht hi hz hsize hby hzs (by decide) v L.length _ hs ho1 ad M.length cap (M.map (Value.int k)) hx (by simp) ?_ (ints_oneCell k M) h63 hbytes hbase ?_
    · intro j y hy
      rcases hcell with rfl | ⟨b, of, e, hc⟩
      · simp at hy
      · injection e with e
        subst e
        have hj : j < M.length := by
          by_cases hj : j < M.length
          · exact hj
          · simp [hj] at hy
        rw [getD_map hj] at hy
        injection hy with hy
        subst hy
        rw [add_plain]
        exact hc j hj
    · intro v' w' h1 h2 _
      exact h v' w' ⟨by simpa using h1, hall⟩ h2

theorem sees_one {k : IntKind} {E : TypeId} (w : World) (x : Int) (hx : (Lit.int k x).wf = true) : Sees k (w.alloc (.cells #[.int k x] E (0, 0))) (.slice (some ⟨w.heap.size, 0, none⟩) 1 1) [x] := by
  refine ⟨_, 1, rfl, by simp, by unfold maxLen; omega, (fun h => by cases h), (fun n hn => by simp at hn; subst hn; exact hx), .inr ⟨_, _, rfl, fun j hj => ?_⟩⟩
  simp only [List.length_cons, List.length_nil] at hj
  obtain rfl : j = 0 := by omega
  rw [World.cell?_alloc_new]
  simp
/-- An empty row that has just been written out. -/
theorem own_empty {k : IntKind} {E : TypeId} (w : World) : Own k E (w.alloc (.cells #[] E (0, 0))) w.heap.size (.slice (some ⟨w.heap.size, 0, none⟩) 0 0) [] :=
  ⟨World.ownsRow_lit (size := 1) w #[] 0 (Nat.le_refl _) (Nat.zero_le _) rfl, by simp⟩
theorem own_nil {k : IntKind} {E : TypeId} (w : World) (base : Nat) : Own k E w base (.slice none 0 0) [] := ⟨World.ownsRow_nil _ _ _ _, by simp⟩

/-- 'append(v, x)', v a row of the call's own. -/
theorem wpList_append_one {P : Program} (w : World) {ops : Array Oper} {rest : List Oper} {o : Oper} {a : Act} {Q : Exit → Act → World → Prop} (hgd : o.guard = none) (s xo : Operand) (t : TypeId)
    (ho : o.op = .call { callee := .builtin .append, args := #[s, xo], argTypes := #[t, t] })
    (base : Nat) (E : TypeId) (i : TypeInfo) (z : Value) (bytes : Nat) (ht : P.underlying t = some (.slice E)) (hi : P.info? E = some i) (hz : i.zero = some z)
    (hsize : i.size = 1) (hby : i.bytes = bytes) (hzs : z.cells.size = 1) (k : IntKind)
    (v : Value) (L : List Int) (hs : a.eval s = v) (hown : Own k E w base v L) (x : Int) (hx : a.eval xo = .slice (some ⟨w.heap.size, 0, none⟩) 1 1) (hwf : (Lit.int k x).wf = true)
    (hl : L.length ≤ 10000000000000) (hb8 : bytes ≤ 8) (hbase : base ≤ w.heap.size)
    (h : ∀ v' w', Own k E w' base v' (L ++ [x]) → w.grownBy w' v.ownBlock → wpList P ops Q rest (a.put o.dst v') w') : wpList P ops Q (o :: rest) a (w.alloc (.cells #[.int k x] E (0, 0))) := by
  refine wpList_append_sees _ hgd s xo t ho base E i z bytes ht hi hz hsize hby hzs k v L hs (hown.grown (World.grownBy_alloc _ _ _)) _ [x] hx (sees_one w x hwf) ?_ ?_ ?_ ?_
  · simp only [List.length_cons, List.length_nil]; unfold maxLen; omega
  · simp only [List.length_cons, List.length_nil]
    exact Nat.le_trans (Nat.mul_le_mul (show L.length + (0 + 1) ≤ 10000000000001 by omega) hb8) (by decide)
  · simp; omega
  · intro v' w' h1 h2
    exact h v' w' h1 (grownN_trans (World.grownBy_alloc _ _ _) h2)

/-- 'string(v)', v whatever reads as bytes. -/
theorem run_convert_sees {P : Program} (w : World) (src dst e : TypeId) (hs : P.underlying src = some (.slice e)) (he : P.underlying e = some (.int .u8)) (hd : P.underlying dst = some .string) {v : Value} {L : List Int} (h : Sees .u8 w v L) :
    (convert src dst v).run P w = .ok (.string (strOfNums L)) w := by
  obtain ⟨a, cap, rfl, _, _, _, _, hc⟩ := h
  rcases hc with rfl | ⟨b, o, rfl, hc⟩
  · cases a with
    | none => exact run_convert_bytes_nil w src e hs he _ _ dst hd
    | some x =>
      rw [run_convert_bytes_string w src dst e _ _ _ hs he hd, run_bytesToString w x _ cap [] (by simp [loadCells, loadCellsFrom, Sem.run_pure]), foldl_push_bytes]
      rfl
  · exact run_convert_bytes_arg w src e hs he b o _ cap L rfl hc dst hd
theorem strOfNums_inj {X Y : List Int} (hX : ∀ n ∈ X, (Lit.int .u8 n).wf = true) (hY : ∀ n ∈ Y, (Lit.int .u8 n).wf = true) (h : strOfNums X = strOfNums Y) : X = Y := by
  have h1 : (strOfNums X).data.toList = (strOfNums Y).data.toList := by rw [h]
  rw [strOfNums_data, strOfNums_data] at h1
  apply List.ext_getElem?
  intro i
  have h2 := congrArg (fun l => l[i]?) h1
  simp only [List.getElem?_map] at h2
  cases hx : X[i]? with
  | none => rw [hx] at h2; cases hy : Y[i]? with
    | none => rfl
    | some y => rw [hy] at h2; simp at h2
  | some x => rw [hx] at h2; cases hy : Y[i]? with
    | none => rw [hy] at h2; simp at h2
    | some y =>
      rw [hy] at h2
      simp only [Option.map_some, Option.some.injEq] at h2
      have h3 := congrArg UInt8.toNat h2
      have bx := u8_of (hX x (List.mem_of_getElem? hx))
      have by' := u8_of (hY y (List.mem_of_getElem? hy))
      rw [UInt8.toNat_ofNat_of_lt' (show x.toNat < 256 by omega), UInt8.toNat_ofNat_of_lt' (show y.toNat < 256 by omega)] at h3
      congr 1
      omega
end Go.Proofs.YtbibkjponadipaaDoor.Rw

namespace Go.Proofs.YtbibkjponadipaaDoor.Inf
open Go.RowKit Kit Rw
theorem info_u8 : (Tryd.prog.info? 5).map (fun i => (i.zero, i.size, i.bytes)) = some (some (.int .u8 0), 1, 1) := by kernel_rfl
theorem info_i64 : (Tryd.prog.info? 3).map (fun i => (i.zero, i.size, i.bytes)) = some (some (.int .i64 0), 1, 8) := by kernel_rfl
theorem list_same {X Y : List Int} (h : X.length = Y.length) (he : ∀ m, m < Y.length → X.getD m 0 = Y.getD m 0) : X = Y := by
  apply List.ext_getElem h
  intro i h1 h2
  have := he i h2
  simpa [h1, h2] using this
end Go.Proofs.YtbibkjponadipaaDoor.Inf

namespace Go.Proofs.YtbibkjponadipaaDoor.Md
open Go.RowKit Kit Rw
theorem inRange_any (n l h : Int) (w : World) :
    Calls Tryd.prog 34 #[.int .i64 n, .int .i64 l, .int .i64 h] w fun e w' => e = .returned (.bool (decide (l ≤ n ∧ n ≤ h))) ∧ w = w' := by
  by_cases h1 : l ≤ n
  · go_enter Tryd.func34, Tryd.ntmps34
    go_wp2
    go_ret
    exact ⟨ret_bool (by rw [Bool.eq_iff_iff]; simp; omega), rfl⟩
  · go_enter Tryd.func34, Tryd.ntmps34
    go_wp2
    go_ret
    exact ⟨ret_bool (by rw [Bool.eq_iff_iff]; simp; omega), rfl⟩
theorem l1In_any (n l h : Int) (w : World) :
    Calls Tryd.prog 40 #[.int .i64 n, .int .i64 l, .int .i64 h] w fun e w' => e = .returned (.bool (decide (l ≤ n ∧ n ≤ h))) ∧ w = w' := by
  by_cases h1 : l ≤ n
  · go_enter Tryd.func40, Tryd.ntmps40
    go_wp2
    go_ret
    exact ⟨ret_bool (by rw [Bool.eq_iff_iff]; simp; omega), rfl⟩
  · go_enter Tryd.func40, Tryd.ntmps40
    go_wp2
    go_ret
    exact ⟨ret_bool (by rw [Bool.eq_iff_iff]; simp; omega), rfl⟩
/-- The same, the answer known. -/
theorem l1In_yes {n l h : Int} (w : World) (hd : l ≤ n ∧ n ≤ h) :
    Calls Tryd.prog 40 #[.int .i64 n, .int .i64 l, .int .i64 h] w fun e w' => e = .returned (.bool true) ∧ w = w' := by
  have := l1In_any n l h w; rwa [decide_eq_true hd] at this
theorem l1In_no {n l h : Int} (w : World) (hd : ¬ (l ≤ n ∧ n ≤ h)) :
    Calls Tryd.prog 40 #[.int .i64 n, .int .i64 l, .int .i64 h] w fun e w' => e = .returned (.bool false) ∧ w = w' := by
  have := l1In_any n l h w; rwa [decide_eq_false hd] at this
end Go.Proofs.YtbibkjponadipaaDoor.Md

namespace Go.Proofs.YtbibkjponadipaaDoor.Kit
open Go.ChangeShapes Go.WideShapes Go.ChangeAt Go.RowKit

section
variable {H : Type} {enc : TypeId × Value → H} {P : Program} {W : World} {n : Nat} {v : Value} {y : DataW H × List MemPlace}
theorem field_int {t : TypeId} {k : IntKind} (ht : P.underlying t = some (.int k)) (h : DataW.trod enc P W 0 (fun _ => true) true n t [v] = some y) : ∃ x, v = .int k x ∧ (Lit.int k x).wf = true := by
  obtain ⟨x, hv, _, hw⟩ := DataW.trod_int ht h
  simp only [List.cons.injEq, and_true] at hv
  exact ⟨x, hv, hw⟩
theorem field_bool {t : TypeId} (ht : P.underlying t = some .bool) (h : DataW.trod enc P W 0 (fun _ => true) true n t [v] = some y) : ∃ b, v = .bool b := by
  obtain ⟨x, hv, _⟩ := DataW.trod_bool ht h
  simp only [List.cons.injEq, and_true] at hv
  exact ⟨x, hv⟩
theorem field_row {t e : TypeId} {k : IntKind} (ht : P.underlying t = some (.slice e)) (he : P.underlying e = some (.int k)) (hc : P.cellsOf e = 1)
    (h : DataW.trod enc P W 0 (fun _ => true) true n t [v] = some y) : ∃ a len cap z, v = .slice a len cap ∧ IsRow k W a len cap z := by
  rcases open_ints ht he hc h with ⟨hcs, _⟩ | ⟨x, l, c, zs, hcs, _, hl, hm, hz, _, hcell, hwz⟩
  · simp only [List.cons.injEq, and_true] at hcs
    exact ⟨none, 0, 0, [], hcs, .inl ⟨rfl, rfl, rfl, rfl⟩⟩
  · simp only [List.cons.injEq, and_true] at hcs
    exact ⟨some x, l, c, zs, hcs, .inr ⟨_, rfl, hl, hm, by simpa using hz, hcell, hwz⟩⟩
end
end Go.Proofs.YtbibkjponadipaaDoor.Kit

namespace Go.Proofs.YtbibkjponadipaaDoor.Rw
open Go.RowKit Kit

/-- A row's value is a slice; its length stays a variable. -/
theorem Sees.shape {k : IntKind} {w : World} {v : Value} {L : List Int} (h : Sees k w v L) : ∃ a n cap, v = .slice a n cap ∧ Hid (L.length = n) := by
  obtain ⟨a, cap, h, _⟩ := h
  exact ⟨a, _, cap, h, rfl⟩
/-- Where there is an element, the row lies at a plain address; one cell of it. -/
theorem Sees.at_row {k : IntKind} {w : World} {a : Option Addr} {n cap : Nat} {L : List Int} (h : Sees k w (.slice a n cap) L) {j : Nat} (hj : j < L.length) : ∃ b o, a = some ⟨b, o, none⟩ ∧ w.cell? ⟨b, o + j, none⟩ = some (.int k (L.getD j 0)) := by
  obtain ⟨a', cap', e, _, _, _, _, hc⟩ := h
  injection e with e1 e2 e3
  subst e1
  rcases hc with rfl | ⟨b, o, rfl, hc⟩
  · simp at hj
  · exact ⟨b, o, rfl, hc j hj⟩
/-- One cell of a row at a plain address. -/
theorem Sees.at' {k : IntKind} {w : World} {b o n cap : Nat} {L : List Int} (h : Sees k w (.slice (some ⟨b, o, none⟩) n cap) L) {j : Nat} (hj : j < L.length) : w.cell? ⟨b, o + j, none⟩ = some (.int k (L.getD j 0)) := by
  obtain ⟨b', o', e, hc⟩ := h.at_row hj
  injection e with e
  injection e with e1 e2
  subst e1; subst e2
  exact hc
/-- Block b holds these cells. -/
def Box (w : World) (b : Nat) (cs : Array Value) (T : TypeId) : Prop := w.heap[b]? = some (.cells cs T (0, 0))
theorem Box.lt {w : World} {b : Nat} {cs : Array Value} {T : TypeId} (h : Box w b cs T) : b < w.heap.size := lt_of_block h
theorem Box.grown {w w' : World} {b : Nat} {cs : Array Value} {T : TypeId} (h : Box w b cs T) (hg : w.grownBy w' none) : Box w' b cs T := (hg.block b h.lt (fun e => by cases e)).trans h
theorem Box.kept {w w' : World} {b : Nat} {cs : Array Value} {T : TypeId} {r : Option Nat} (h : Box w b cs T) (hg : w.grownBy w' r) (hr : r ≠ some b) : Box w' b cs T := (hg.block b h.lt (fun e => hr e.symm)).trans h
theorem Box.below {w w' : World} {b : Nat} {cs : Array Value} {T : TypeId} (h : Box w b cs T) (hb : Below w.heap.size w w') : Box w' b cs T := (hb.block b h.lt).trans h
theorem box_new (w : World) (cs : Array Value) (T : TypeId) : Box (w.alloc (.cells cs T (0, 0))) w.heap.size cs T := heap_alloc_new _ _
theorem Box.three {w : World} {b : Nat} {x y z : Value} {T : TypeId} (h : Box w b #[x, y, z] T) : w.cell? ⟨b, 0, none⟩ = some x ∧ w.cell? ⟨b, 1, none⟩ = some y ∧ w.cell? ⟨b, 2, none⟩ = some z := three_cell h
theorem Box.cell {w : World} {b : Nat} {cs : Array Value} {T : TypeId} (h : Box w b cs T) (j : Nat) : w.cell? ⟨b, j, none⟩ = cs[j]? := by
  unfold World.cell?
  rw [show w.heap[b]? = some (.cells cs T (0, 0)) from h]
  rfl
/-- A row of the call's own lies in another block than a box that was there before it. -/
theorem Own.off {k : IntKind} {E : TypeId} {w : World} {base b : Nat} {v : Value} {L : List Int} (h : Own k E w base v L) (hb : b < base) : v.ownBlock ≠ some b := by
  intro e; have := h.lt b e; omega
/-- .. and than a box that is made after it. -/
theorem Own.off' {k : IntKind} {E : TypeId} {w : World} {base b : Nat} {v : Value} {L : List Int} (h : Own k E w base v L) (hb : w.heap.size ≤ b) : v.ownBlock ≠ some b := by
  intro e; have := h.lt b e; omega
/-- .. and stays where such a box is written. -/
theorem Own.set {k : IntKind} {E : TypeId} {w : World} {base b : Nat} {v : Value} {L : List Int} (h : Own k E w base v L) (hb : b < base) (j : Nat) (x : Value) : Own k E (w.setCell ⟨b, j, none⟩ x) base v L :=
  h.kept (grown_set w b j x) (.inr (h.off hb))
theorem grown_old' {w w1 w2 : World} {r : Option Nat} (h : w.grownBy w1 none) (k : w1.grownBy w2 r) : w.grownBy w2 r :=
  ⟨k.os.trans h.os, k.tape.trans h.tape, k.output.trans h.output, Nat.le_trans h.size k.size, fun i hi hn => (k.block i (Nat.lt_of_lt_of_le hi h.size) hn).trans (h.block i hi (fun e => by cases e))⟩
theorem Box.free {w : World} {b : Nat} {cs : Array Value} {T : TypeId} (h : Box w b cs T) (j : Nat) : w.frozen? ⟨b, j, none⟩ = false := by
  unfold World.frozen?
  rw [show w.heap[b]? = some (.cells cs T (0, 0)) from h]
  simp
end Go.Proofs.YtbibkjponadipaaDoor.Rw

namespace Go.Proofs.YtbibkjponadipaaDoor.Ld
open Go.RowKit Kit Rw

def side (n : Int) : Bool := decide (1 ≤ n ∧ n ≤ 8)
def kind (k : Int) : Bool := decide (0 ≤ k ∧ k ≤ 2)
def isLand (W H : Int) (X : List Int) : Bool := side W && (side H && (decide ((X.length : Int) = W * H) && X.all kind))
def isCell (W H : Int) (X : List Int) (n : Int) : Bool := isLand W H X && decide (0 ≤ n ∧ n ≤ (X.length : Int) - 1)
def isOpen (W H : Int) (X : List Int) (n : Int) : Bool := isCell W H X n && !(decide (X.getD n.toNat 0 = 2))
theorem isLand_of {W H : Int} {X : List Int} (h : isLand W H X = true) : (1 ≤ W ∧ W ≤ 8) ∧ (1 ≤ H ∧ H ≤ 8) ∧ (X.length : Int) = W * H ∧ ∀ k ∈ X, 0 ≤ k ∧ k ≤ 2 := by
  simpa [isLand, side, kind, and_assoc] using h
theorem isLand_mk {W H : Int} {X : List Int} (h : (1 ≤ W ∧ W ≤ 8) ∧ (1 ≤ H ∧ H ≤ 8) ∧ (X.length : Int) = W * H ∧ ∀ k ∈ X, 0 ≤ k ∧ k ≤ 2) : isLand W H X = true := by
  simpa [isLand, side, kind, and_assoc] using h
theorem isLand_no {W H : Int} {X : List Int} (h : ¬ ((1 ≤ W ∧ W ≤ 8) ∧ (1 ≤ H ∧ H ≤ 8) ∧ (X.length : Int) = W * H ∧ ∀ k ∈ X, 0 ≤ k ∧ k ≤ 2)) : isLand W H X = false := by
  rw [Bool.eq_false_iff]; exact fun hl => h (isLand_of hl)
theorem area {W H : Int} (hW : 1 ≤ W ∧ W ≤ 8) (hH : 1 ≤ H ∧ H ≤ 8) : 1 ≤ W * H ∧ W * H ≤ 64 := by
  constructor
  · have := Int.mul_le_mul hW.1 hH.1 (by omega) (by omega); omega
  · have := Int.mul_le_mul hW.2 hH.2 (by omega) (by omega); omega
theorem isCell_of {W H : Int} {X : List Int} {n : Int} (h : isCell W H X n = true) : isLand W H X = true ∧ 0 ≤ n ∧ n < (X.length : Int) := by
  simp only [isCell, Bool.and_eq_true, decide_eq_true_eq] at h
  exact ⟨h.1, h.2.1, by omega⟩
theorem isCell_mk {W H : Int} {X : List Int} {n : Int} (h : isLand W H X = true) (h0 : 0 ≤ n) (h1 : n < (X.length : Int)) : isCell W H X n = true := by
  simp only [isCell, Bool.and_eq_true, decide_eq_true_eq]
  exact ⟨h, h0, by omega⟩
theorem isOpen_of {W H : Int} {X : List Int} {n : Int} (h : isOpen W H X n = true) : isCell W H X n = true ∧ X.getD n.toNat 0 ≠ 2 := by
  simpa [isOpen] using h
theorem isOpen_mk {W H : Int} {X : List Int} {n : Int} (h : isCell W H X n = true) (h2 : X.getD n.toNat 0 ≠ 2) : isOpen W H X n = true := by
  simp only [isOpen, h, Bool.true_and, Bool.not_eq_true', decide_eq_false_iff_not]; exact h2

/-- The four neighbours, in ascending order; rocks are left out. -/
def n1 (W n : Int) (X : List Int) : List Int := if W ≤ n ∧ X.getD (n - W).toNat 0 ≠ 2 then [n - W] else []
def n2 (W n : Int) (X : List Int) : List Int := if 0 < n % W ∧ X.getD (n - 1).toNat 0 ≠ 2 then [n - 1] else []
def n3 (W n : Int) (X : List Int) : List Int := if n % W < W - 1 ∧ X.getD (n + 1).toNat 0 ≠ 2 then [n + 1] else []
def n4 (W n : Int) (X : List Int) : List Int := if n + W < (X.length : Int) ∧ X.getD (n + W).toNat 0 ≠ 2 then [n + W] else []
def near (W n : Int) (X : List Int) : List Int := n1 W n X ++ n2 W n X ++ n3 W n X ++ n4 W n X
/-- What Near answers. -/
def nearOf (W H : Int) (X : List Int) (n : Int) : List Int := if isCell W H X n = true then near W n X else []
theorem n1_len (W n : Int) (X : List Int) : (n1 W n X).length ≤ 1 := by unfold n1; split <;> simp
theorem n2_len (W n : Int) (X : List Int) : (n2 W n X).length ≤ 1 := by unfold n2; split <;> simp
theorem n3_len (W n : Int) (X : List Int) : (n3 W n X).length ≤ 1 := by unfold n3; split <;> simp
theorem n4_len (W n : Int) (X : List Int) : (n4 W n X).length ≤ 1 := by unfold n4; split <;> simp
theorem near_len (W n : Int) (X : List Int) : (near W n X).length ≤ 4 := by
  have := n1_len W n X; have := n2_len W n X; have := n3_len W n X; have := n4_len W n X
  simp only [near, List.length_append]; omega
theorem nearOf_len (W H : Int) (X : List Int) (n : Int) : (nearOf W H X n).length ≤ 4 := by
  unfold nearOf; split
  · exact near_len _ _ _
  · simp
theorem n1_nat (p q : Nat) (X : List Int) : n1 p q X = if decide ((p : Int) ≤ (q : Int) ∧ X.getD (q - p) 0 ≠ 2) = true then [(q : Int) - (p : Int)] else [] := by
  unfold n1; rw [show ((q : Int) - (p : Int)).toNat = q - p by omega]; simp only [decide_eq_true_eq]
theorem n2_nat (p q : Nat) (X : List Int) : n2 p q X = if decide ((0 : Int) < (q : Int) % (p : Int) ∧ X.getD (q - 1) 0 ≠ 2) = true then [(q : Int) - 1] else [] := by
  unfold n2; rw [show ((q : Int) - 1).toNat = q - 1 by omega]; simp only [decide_eq_true_eq]
theorem n3_nat (p q : Nat) (X : List Int) : n3 p q X = if decide ((q : Int) % (p : Int) < (p : Int) - 1 ∧ X.getD (q + 1) 0 ≠ 2) = true then [(q : Int) + 1] else [] := by
  unfold n3; rw [show ((q : Int) + 1).toNat = q + 1 by omega]; simp only [decide_eq_true_eq]
theorem n4_nat (p q : Nat) (X : List Int) : n4 p q X = if decide ((q : Int) + (p : Int) < (X.length : Int) ∧ X.getD (q + p) 0 ≠ 2) = true then [(q : Int) + (p : Int)] else [] := by
  unfold n4; rw [show ((q : Int) + (p : Int)).toNat = q + p by omega]; simp only [decide_eq_true_eq]
/-- The cell to the right lies in the same row. -/
theorem right_in {p q h : Nat} (hq : q < p * h) (hm : q % p + 1 < p) : q + 1 < p * h := by
  have h1 := Nat.div_add_mod q p
  have h2 : q / p < h := Nat.div_lt_of_lt_mul hq
  have h3 : p * (q / p + 1) ≤ p * h := Nat.mul_le_mul_left p h2
  rw [Nat.mul_add] at h3
  omega
/-- The distance between two cells. -/
def mx (a b : Int) : Int := if a < b then b else a
def apart (W H : Int) (X : List Int) (a b : Int) : Int :=
  if isCell W H X a = true ∧ isCell W H X b = true then mx (a % W - b % W) (b % W - a % W) + mx (a / W - b / W) (b / W - a / W) else -1
def count (W H : Int) (X : List Int) (k : Int) : Int := if isLand W H X = true then ((X.filter fun x => x == k).length : Int) else 0
end Go.Proofs.YtbibkjponadipaaDoor.Ld

namespace Go.Proofs.YtbibkjponadipaaDoor.Rw
open Go.RowKit Kit

theorem step_append_one {P : Program} (w : World) {ops : Array Oper} {o : Oper} {a : Act} {K : Act → World → Prop} {Q : Exit → Act → World → Prop} {Z : Prop} (hgd : o.guard = none) (s xo : Operand) (t : TypeId)
    (ho : o.op = .call { callee := .builtin .append, args := #[s, xo], argTypes := #[t, t] })
    (base : Nat) (E : TypeId) (i : TypeInfo) (z : Value) (bytes : Nat) (ht : P.underlying t = some (.slice E)) (hi : P.info? E = some i) (hz : i.zero = some z)
    (hsize : i.size = 1) (hby : i.bytes = bytes) (hzs : z.cells.size = 1) (k : IntKind)
    (v : Value) (L : List Int) (hs : a.eval s = v) (hown : Own k E w base v L) (x : Int) (g : Nat) (hx : a.eval xo = .slice (some ⟨g, 0, none⟩) 1 1) (hc : w.cell? ⟨g, 0, none⟩ = some (.int k x)) (hwf : (Lit.int k x).wf = true)
    (hl : L.length ≤ 10000000000000) (hb8 : bytes ≤ 8) (hbase : base ≤ w.heap.size)
    (h : ∀ v' w', Own k E w' base v' (L ++ [x]) → w.grownBy w' v.ownBlock → K (a.put o.dst v') w') :
    if Region.wanted o (yielded ops a.tmps) = true then Oper.wp P o a w K Q else Z := by
  obtain ⟨ho1, hw1⟩ := hown
  refine step_append_lies w hgd s xo t ho base E i z 1 bytes ht hi hz hsize hby hzs (by decide) v L.length (L.map (Value.int k)) hs ho1 ⟨g, 0, none⟩ 1 1 [.int k x] hx rfl ?_ (by intro u hu; simp at hu; subst hu; rfl) (by decide) ?_ ?_ hbase _ rfl ?_
  · intro j u hu
    cases j with
    | zero => simp at hu; subst hu; exact hc
    | succ j => simp at hu
  · unfold maxLen; omega
  · exact Nat.le_trans (Nat.mul_le_mul (show L.length + 1 ≤ 10000000000001 by omega) hb8) (by decide)
  · intro g' cap w' h1 h2 _ _
    refine h _ w' ⟨by simpa using h1, ?_⟩ h2
    intro n hn
    rcases List.mem_append.1 hn with h | h
    · exact hw1 n h
    · simp at h; subst h; exact hwf

/-- 'append(v, x)', v a row of the call's own; and where the new row lies: where the old one lay, or in a new block. -/
theorem wpList_append_one_at {P : Program} (w : World) {ops : Array Oper} {rest : List Oper} {o : Oper} {a : Act} {Q : Exit → Act → World → Prop} (hgd : o.guard = none) (s xo : Operand) (t : TypeId)
    (ho : o.op = .call { callee := .builtin .append, args := #[s, xo], argTypes := #[t, t] })
    (base : Nat) (E : TypeId) (i : TypeInfo) (z : Value) (bytes : Nat) (ht : P.underlying t = some (.slice E)) (hi : P.info? E = some i) (hz : i.zero = some z)
    (hsize : i.size = 1) (hby : i.bytes = bytes) (hzs : z.cells.size = 1) (k : IntKind)
    (v : Value) (L : List Int) (hs : a.eval s = v) (hown : Own k E w base v L) (x : Int) (hx : a.eval xo = .slice (some ⟨w.heap.size, 0, none⟩) 1 1) (hwf : (Lit.int k x).wf = true)
    (hl : L.length ≤ 10000000000000) (hb8 : bytes ≤ 8) (hbase : base ≤ w.heap.size)
    (h : ∀ v' w', Own k E w' base v' (L ++ [x]) → w.grownBy w' v.ownBlock → (v'.ownBlock = v.ownBlock ∨ ∃ g, v'.ownBlock = some g ∧ w.heap.size ≤ g) → wpList P ops Q rest (a.put o.dst v') w') : wpList P ops Q (o :: rest) a (w.alloc (.cells #[.int k x] E (0, 0))) := by
  have hown2 := hown.grown (World.grownBy_alloc w (.cells #[.int k x] E (0, 0)) none)
  obtain ⟨ho1, hw1⟩ := hown2
  refine wpList_append_lies _ hgd s xo t ho base E i z 1 bytes ht hi hz hsize hby hzs (by decide) v L.length (L.map (Value.int k)) hs ho1 ⟨w.heap.size, 0, none⟩ 1 1 [.int k x] hx rfl ?_ (by intro u hu; simp at hu; subst hu; rfl) (by decide) ?_ ?_ ?_ _ rfl ?_
  · intro j u hu
    cases j with
    | zero => simp at hu; subst hu; rw [show (⟨w.heap.size, 0, none⟩ : Addr).add 0 = ⟨w.heap.size, 0, none⟩ by rw [add_plain]]; rw [World.cell?_alloc_new]; simp
    | succ j => simp at hu
  · unfold maxLen; omega
  · exact Nat.le_trans (Nat.mul_le_mul (show L.length + 1 ≤ 10000000000001 by omega) hb8) (by decide)
  · simp; omega
  · intro g' cap w' h1 h2 h3 _
    refine h _ w' ⟨by simpa using h1, ?_⟩ (grownN_trans (World.grownBy_alloc _ _ _) h2) ?_
    · intro n hn
      rcases List.mem_append.1 hn with h | h
      · exact hw1 n h
      · simp at h; subst h; exact hwf
    · rcases h3 with h3 | h3
      · exact .inl h3.symm
      · exact .inr ⟨g', rfl, by simp at h3; omega⟩
end Go.Proofs.YtbibkjponadipaaDoor.Rw

namespace Go.Proofs.YtbibkjponadipaaDoor.Rw
open Go.RowKit Kit

theorem run_loadVar_part {P : Program} (w : World) (b o : Nat) (ty : TypeId) (cs : Array Value) (d : TypeDesc) (hc : ∀ j v, cs[j]? = some v → w.cell? ⟨b, o + j, none⟩ = some v)
    (hu : P.underlying ty = some d) (hd : (match d with | .struct _ | .array _ _ => true | _ => false) = true) (hi : (P.info? ty).map (·.size) = some cs.size) :
    (loadVar ty ⟨b, o, none⟩).run P w = .ok (.agg cs) w := by
  have hl : (loadCells ⟨b, o, none⟩ cs.toList.length).run P w = .ok cs.toList.toArray w :=
    run_loadCells_list (P := P) w ⟨b, o, none⟩ cs.toList (fun j v hv => by
      rw [add_plain]; exact hc j v (by simpa using hv))
  cases hq : P.info? ty with
  | none => simp [hq] at hi
  | some i =>
    have hs : i.size = cs.size := by simpa [hq] using hi
    have hagg : (isAgg ty).run P w = .ok true w := by
      unfold isAgg
      rw [Sem.run_bind, run_underlying hu w]
      cases d <;> simp_all
    simp only [Array.length_toList, Array.toArray_toList] at hl
    simp [loadVar, Sem.run_bind, hagg, sizeOf, typeInfo, hq, hs, hl]
theorem wpList_load_part {P : Program} {ops : Array Oper} {rest : List Oper} {o : Oper} {a : Act} {w : World} {Q : Exit → Act → World → Prop} (hgd : o.guard = none) (ty : TypeId) (x : Operand) (ho : o.op = .load ty x)
    (b off : Nat) (hx : a.eval x = .pointer (some ⟨b, off, none⟩)) (cs : Array Value) (d : TypeDesc) (hc : ∀ j v, cs[j]? = some v → w.cell? ⟨b, off + j, none⟩ = some v)
    (hu : P.underlying ty = some d) (hd : (match d with | .struct _ | .array _ _ => true | _ => false) = true) (hi : (P.info? ty).map (·.size) = some cs.size)
    (h : wpList P ops Q rest (a.put o.dst (.agg cs)) w) : wpList P ops Q (o :: rest) a w := by
  refine wpList_plain hgd fun _ hK => ?_
  unfold Oper.wp execOp
  simp only [ho, hx, Instr.loadAt, Instr.sureAddr, Sem.run_bind, Sem.run_pure, Result.andThen_ok, run_loadVar_part w b off ty cs d hc hu hd hi]
  exact hK _ _ h
theorem exec_load_part {P : Program} {ev : Operand → Value} {o : Oper} {w : World} (ty : TypeId) (x : Operand) (ho : o.op = .load ty x) (b off : Nat) (hx : ev x = .pointer (some ⟨b, off, none⟩)) (cs : Array Value) (d : TypeDesc) (hc : ∀ j v, cs[j]? = some v → w.cell? ⟨b, off + j, none⟩ = some v)
    (hu : P.underlying ty = some d) (hd : (match d with | .struct _ | .array _ _ => true | _ => false) = true) (hi : (P.info? ty).map (·.size) = some cs.size) : (execOp ev o).run P w = .ok (.value (.agg cs)) w := by
  unfold execOp
  simp only [ho, hx, Instr.loadAt, Instr.sureAddr, Sem.run_bind, Sem.run_pure, Result.andThen_ok, run_loadVar_part w b off ty cs d hc hu hd hi]
theorem Box.part {w : World} {b : Nat} {cs : Array Value} {T : TypeId} (h : Box w b cs T) : ∀ j v, cs[j]? = some v → w.cell? ⟨b, 0 + j, none⟩ = some v := fun j v hv => by
  rw [Nat.zero_add, h.cell, hv]
theorem box_set {w : World} {b : Nat} {cs : Array Value} {T : TypeId} (h : Box w b cs T) (j : Nat) (x : Value) : Box (w.setCell ⟨b, j, none⟩ x) b (cs.setIfInBounds j x) T := heap_setCell_same w b j cs T x h
theorem grown_setRow (w : World) (b : Nat) (cs : Array Value) : w.grownBy (w.setRow b cs) (some b) :=
  ⟨rfl, rfl, rfl, by simp, fun k _ hn => setRow_other w b k cs (fun e => hn (by rw [e]))⟩
theorem box_setRow {w : World} {b : Nat} {cs cs' : Array Value} {T : TypeId} (h : Box w b cs T) : Box (w.setRow b cs') b cs' T := setRow_heap w b cs cs' T (0, 0) h
end Go.Proofs.YtbibkjponadipaaDoor.Rw
