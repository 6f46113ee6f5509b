/- Rows of whatever elements that came in with a call: they read so. No condition. Rows of structs of plain fields: two ints; three ints and a bool. How they lie, and that they came in so. No condition. A field of a struct that came in: a row of whatever elements. No condition. -/
import Derived.Test.YtoanhnklemlfmaaDoorRowG
import Derived.Deep.Slices
import Derived.Lib.SmallJoins
import Derived.Deep.Fields
namespace Go.Proofs.YtoanhnklemlfmaaDoor.Rg
open Go.RowKit Kit Rw Go.ChangeShapes Go.WideShapes Go.ChangeAt Go.Deep

theorem row_openG {α : Type} {e : Enc α} {H : Type} {enc : TypeId × Value → H} {P : Program} {t E : TypeId} {W : World} {a : Option Addr} {len cap : Nat} {d : DataW H} {ps : List MemPlace}
    (ht : P.underlying t = some (.slice E)) (hc : P.cellsOf E = e.size)
    (hel : ∀ (n : Nat) (cs : List Value) (d : DataW H) (ps : List MemPlace), cs.length = e.size → DataW.trod enc P W 0 (fun _ => true) true n E cs = some (d, ps) → ∃ x, cs = e.cells x ∧ e.ok x)
    (h : DataW.Trod enc P W 0 (fun _ => true) true t (.slice a len cap) d ps) : ∃ L, L.length = len ∧ SeesG e W (.slice a len cap) L := by
  obtain ⟨fuel, hf⟩ := h
  rcases open_slice ht hf with ⟨hcs, _⟩ | ⟨x, l, c, m, n, D, Pl, hcs, _, hl, hm, hmm, _, hall⟩
  · simp [Value.cells] at hcs
    obtain ⟨rfl, rfl, rfl⟩ := hcs
    exact ⟨[], rfl, none, 0, rfl, by simp, by unfold maxLen; omega, fun _ => rfl, by simp, .inl rfl⟩
  · simp [Value.cells] at hcs
    obtain ⟨rfl, rfl, rfl⟩ := hcs
    have hml : len ≤ m := by rw [hmm]; split <;> omega
    have hex : ∀ i, i < len → ∃ y : α, (∀ j, j < e.size → W.cell? (x.add (i * e.size + j)) = (e.cells y)[j]?) ∧ e.ok y := fun i hi => by
      obtain ⟨cs', h1, h2⟩ := hall i (by omega)
      obtain ⟨_, hlen, hcell⟩ := World.cells?_some h1
      rw [hc] at hlen hcell
      obtain ⟨y, rfl, hok⟩ := hel n cs' _ _ hlen h2
      refine ⟨y, fun j hj => ?_, hok⟩
      have := hcell j hj
      rw [add_add] at this
      exact this
    have : Inhabited α := ⟨e.dflt⟩
    obtain ⟨f, hf'⟩ := choose_lt hex
    refine ⟨(List.range len).map f, by simp, some x, cap, by simp, by simpa using hl, hm, (fun h => by cases h), fun y hy => ?_, ?_⟩
    · obtain ⟨i, hi, rfl⟩ := List.mem_map.1 hy
      exact (hf' i (List.mem_range.1 hi)).2
    · by_cases h0 : len = 0
      · exact .inl (by simp [h0])
      · have hc0 := (hf' 0 (by omega)).1 0 e.pos
        obtain ⟨bk, of, sp⟩ := x
        have hsp : sp = none := by
          have hl0 : 0 < (e.cells (f 0)).length := by rw [e.len]; exact e.pos
          rw [List.getElem?_eq_getElem hl0] at hc0
          simpa [Addr.add] using World.cell?_spot hc0
        subst hsp
        refine .inr ⟨bk, of, rfl, fun j hj => ?_⟩
        rw [List.length_map, List.length_range] at hj
        have hi := div_lt e.pos hj
        have hr := Nat.mod_lt j e.pos
        have hjj : j / e.size * e.size + j % e.size = j := by rw [Nat.mul_comm]; exact Nat.div_add_mod j e.size
        have h1 := (hf' (j / e.size) hi).1 (j % e.size) hr
        rw [Kit.add_plain, hjj] at h1
        rw [h1]
        have h2 := flat_at (e := e) (L := (List.range len).map f) (j := j / e.size) (i := j % e.size) (by simpa using hi) hr
        rw [hjj] at h2
        rw [h2]
        simp [List.getD_eq_getElem?_getD, hi]
theorem encB_open {H : Type} {enc : TypeId × Value → H} {P : Program} {E : TypeId} {W : World} (hE : P.underlying E = some .bool) (n : Nat) (cs : List Value) (d : DataW H) (ps : List MemPlace) (_ : cs.length = encB.size) (h : DataW.trod enc P W 0 (fun _ => true) true n E cs = some (d, ps)) : ∃ x, cs = encB.cells x ∧ encB.ok x := by
  obtain ⟨b, h1, _⟩ := DataW.trod_bool hE h
  exact ⟨b, h1, trivial⟩
end Go.Proofs.YtoanhnklemlfmaaDoor.Rg

namespace Go.Proofs.YtoanhnklemlfmaaDoor.Rg
open Go.RowKit Kit Rw Go.ChangeShapes Go.WideShapes Go.ChangeAt Go.Deep Go.Joins

/-- Two ints. -/
def encP : Enc (Int × Int) := ⟨2, fun p => [.int .i64 p.1, .int .i64 p.2], (0, 0), fun p => (Lit.int .i64 p.1).wf = true ∧ (Lit.int .i64 p.2).wf = true, by decide, fun _ => rfl, fun _ v hv => by simp at hv; rcases hv with rfl | rfl <;> rfl⟩
/-- Three ints and a bool. -/
structure Mem where
  id : Int
  str : Int
  need : Int
  ill : Bool
def encM : Enc Mem := ⟨4, fun m => [.int .i64 m.id, .int .i64 m.str, .int .i64 m.need, .bool m.ill], ⟨0, 0, 0, false⟩, fun m => (Lit.int .i64 m.id).wf = true ∧ (Lit.int .i64 m.str).wf = true ∧ (Lit.int .i64 m.need).wf = true, by decide, fun _ => rfl, fun _ v hv => by simp at hv; rcases hv with rfl | rfl | rfl | rfl <;> rfl⟩

theorem encP_open {H : Type} {enc : TypeId × Value → H} {P : Program} {E : TypeId} {f0 f1 : Field} {W : World} (hE : P.underlying E = some (.struct #[f0, f1])) (hone : oneCellFields P #[f0, f1] = true)
    (k0 : P.underlying f0.type = some (.int .i64)) (k1 : P.underlying f1.type = some (.int .i64))
    (n : Nat) (cs : List Value) (d : DataW H) (ps : List MemPlace) (hl : cs.length = encP.size) (h : DataW.trod enc P W 0 (fun _ => true) true n E cs = some (d, ps)) : ∃ x, cs = encP.cells x ∧ encP.ok x := by
  obtain ⟨y0, y1, m, _, _, h0, h1⟩ := trod_struct2 hE h
  obtain ⟨o0, c0⟩ := hone_of hone 0 f0 rfl
  obtain ⟨o1, c1⟩ := hone_of hone 1 f1 rfl
  match cs, hl with
  | [v0, v1], _ =>
    have h0' : DataW.trod enc P W 0 (fun _ => true) true m f0.type [v0] = some y0 := by simpa [o0, c0] using h0
    have h1' : DataW.trod enc P W 0 (fun _ => true) true m f1.type [v1] = some y1 := by simpa [o1, c1] using h1
    obtain ⟨a, ha, _, wa⟩ := DataW.trod_int k0 h0'
    obtain ⟨b, hb, _, wb⟩ := DataW.trod_int k1 h1'
    simp at ha hb
    subst ha hb
    exact ⟨(a, b), rfl, wa, wb⟩
theorem encM_open {H : Type} {enc : TypeId × Value → H} {P : Program} {E : TypeId} {f0 f1 f2 f3 : Field} {W : World} (hE : P.underlying E = some (.struct #[f0, f1, f2, f3])) (hone : oneCellFields P #[f0, f1, f2, f3] = true)
    (k0 : P.underlying f0.type = some (.int .i64)) (k1 : P.underlying f1.type = some (.int .i64)) (k2 : P.underlying f2.type = some (.int .i64)) (k3 : P.underlying f3.type = some .bool)
    (n : Nat) (cs : List Value) (d : DataW H) (ps : List MemPlace) (hl : cs.length = encM.size) (h : DataW.trod enc P W 0 (fun _ => true) true n E cs = some (d, ps)) : ∃ x, cs = encM.cells x ∧ encM.ok x := by
  obtain ⟨y0, y1, y2, y3, m, _, _, h0, h1, h2, h3⟩ := Go.Joins.trod_struct4 hE h
  obtain ⟨o0, c0⟩ := hone_of hone 0 f0 rfl
  obtain ⟨o1, c1⟩ := hone_of hone 1 f1 rfl
  obtain ⟨o2, c2⟩ := hone_of hone 2 f2 rfl
  obtain ⟨o3, c3⟩ := hone_of hone 3 f3 rfl
  match cs, hl with
  | [v0, v1, v2, v3], _ =>
    have h0' : DataW.trod enc P W 0 (fun _ => true) true m f0.type [v0] = some y0 := by simpa [o0, c0] using h0
    have h1' : DataW.trod enc P W 0 (fun _ => true) true m f1.type [v1] = some y1 := by simpa [o1, c1] using h1
    have h2' : DataW.trod enc P W 0 (fun _ => true) true m f2.type [v2] = some y2 := by simpa [o2, c2] using h2
    have h3' : DataW.trod enc P W 0 (fun _ => true) true m f3.type [v3] = some y3 := by simpa [o3, c3] using h3
    obtain ⟨a, ha, _, wa⟩ := DataW.trod_int k0 h0'
    obtain ⟨b, hb, _, wb⟩ := DataW.trod_int k1 h1'
    obtain ⟨c, hc, _, wc⟩ := DataW.trod_int k2 h2'
    obtain ⟨e, he, _⟩ := DataW.trod_bool k3 h3'
    simp at ha hb hc he
    subst ha hb hc he
    exact ⟨⟨a, b, c, e⟩, rfl, wa, wb, wc⟩
/-- A field of an element of a row. -/
theorem SeesG.atP {w : World} {b o n cap : Nat} {L : List (Int × Int)} (h : SeesG encP w (.slice (some ⟨b, o, none⟩) n cap) L) {j : Nat} (hj : j < L.length) :
    w.cell? ⟨b, o + j * 2, none⟩ = some (.int .i64 (L.getD j (0, 0)).1) ∧ w.cell? ⟨b, o + (j * 2 + 1), none⟩ = some (.int .i64 (L.getD j (0, 0)).2) := by
  have h0 := h.at' hj (i := 0) (by decide)
  have h1 := h.at' hj (i := 1) (by decide)
  simp only [encP] at h0 h1
  exact ⟨by simpa using h0, by simpa [Nat.add_assoc] using h1⟩
theorem SeesG.atM {w : World} {b o n cap : Nat} {L : List Mem} (h : SeesG encM w (.slice (some ⟨b, o, none⟩) n cap) L) {j : Nat} (hj : j < L.length) :
    w.cell? ⟨b, o + j * 4, none⟩ = some (.int .i64 (L.getD j ⟨0, 0, 0, false⟩).id) ∧ w.cell? ⟨b, o + (j * 4 + 1), none⟩ = some (.int .i64 (L.getD j ⟨0, 0, 0, false⟩).str) ∧ w.cell? ⟨b, o + (j * 4 + 2), none⟩ = some (.int .i64 (L.getD j ⟨0, 0, 0, false⟩).need) ∧
      w.cell? ⟨b, o + (j * 4 + 3), none⟩ = some (.bool (L.getD j ⟨0, 0, 0, false⟩).ill) := by
  have h0 := h.at' hj (i := 0) (by decide)
  have h1 := h.at' hj (i := 1) (by decide)
  have h2 := h.at' hj (i := 2) (by decide)
  have h3 := h.at' hj (i := 3) (by decide)
  simp only [encM] at h0 h1 h2 h3
  exact ⟨by simpa using h0, by simpa [Nat.add_assoc] using h1, by simpa [Nat.add_assoc] using h2, by simpa [Nat.add_assoc] using h3⟩
end Go.Proofs.YtoanhnklemlfmaaDoor.Rg

namespace Go.Proofs.YtoanhnklemlfmaaDoor.Rg
open Go.RowKit Kit Rw Go.ChangeShapes Go.WideShapes Go.ChangeAt Go.Deep

theorem field_rowG {α : Type} {e : Enc α} {H : Type} {enc : TypeId × Value → H} {P : Program} {t E : TypeId} {W : World} {n : Nat} {v : Value} {y : DataW H × List MemPlace}
    (ht : P.underlying t = some (.slice E)) (hc : P.cellsOf E = e.size)
    (hel : ∀ (n : Nat) (cs : List Value) (d : DataW H) (ps : List MemPlace), cs.length = e.size → DataW.trod enc P W 0 (fun _ => true) true n E cs = some (d, ps) → ∃ x, cs = e.cells x ∧ e.ok x)
    (h : DataW.trod enc P W 0 (fun _ => true) true n t [v] = some y) : ∃ a len cap L, v = .slice a len cap ∧ L.length = len ∧ SeesG e W (.slice a len cap) L := by
  rcases open_slice ht h with ⟨hcs, _⟩ | ⟨x, l, c, m, n', D, Pl, hcs, _⟩
  · simp only [List.cons.injEq, and_true] at hcs
    subst hcs
    exact ⟨none, 0, 0, [], rfl, rfl, none, 0, rfl, by simp, by unfold maxLen; omega, fun _ => rfl, by simp, .inl rfl⟩
  · simp only [List.cons.injEq, and_true] at hcs
    subst hcs
    obtain ⟨d, ps⟩ := y
    obtain ⟨L, h1, h2⟩ := row_openG (e := e) ht hc hel ⟨n, by simpa [Value.cells] using h⟩
    exact ⟨_, _, _, L, rfl, h1, h2⟩
end Go.Proofs.YtoanhnklemlfmaaDoor.Rg
