/- Rows of structs of plain fields: two ints; three ints and a bool. How they lie, and that they came in so. No condition. -/
import Derived.Test.YtbibkjponadipaaDoorOpenG
import Derived.Lib.SmallJoins
import Derived.Deep.Fields
namespace Go.Proofs.YtbibkjponadipaaDoor.Rg
open Go.RowKit Kit Rw Go.ChangeShapes Go.WideShapes Go.ChangeAt Go.Deep Go.Joins

/-- Two ints. -/
def encP : Enc (Int × Int) := ⟨2, fun p => [.int .i64 p.1, .int .i64 p.2], (0, 0), fun p => (Lit.int .i64 p.1).wf = true ∧ (Lit.int .i64 p.2).wf = true, by decide, fun _ => rfl, fun _ v hv => by simp at hv; rcases hv with rfl | rfl <;> rfl⟩
/-- Three ints and a bool. -/
structure Mem where
  id : Int
  str : Int
  need : Int
  ill : Bool
def encM : Enc Mem := ⟨4, fun m => [.int .i64 m.id, .int .i64 m.str, .int .i64 m.need, .bool m.ill], ⟨0, 0, 0, false⟩, fun m => (Lit.int .i64 m.id).wf = true ∧ (Lit.int .i64 m.str).wf = true ∧ (Lit.int .i64 m.need).wf = true, by decide, fun _ => rfl, fun _ v hv => by simp at hv; rcases hv with rfl | rfl | rfl | rfl <;> rfl⟩

theorem encP_open {H : Type} {enc : TypeId × Value → H} {P : Program} {E : TypeId} {f0 f1 : Field} {W : World} (hE : P.underlying E = some (.struct #[f0, f1])) (hone : oneCellFields P #[f0, f1] = true)
    (k0 : P.underlying f0.type = some (.int .i64)) (k1 : P.underlying f1.type = some (.int .i64))
    (n : Nat) (cs : List Value) (d : DataW H) (ps : List MemPlace) (hl : cs.length = encP.size) (h : DataW.trod enc P W 0 (fun _ => true) true n E cs = some (d, ps)) : ∃ x, cs = encP.cells x ∧ encP.ok x := by
  obtain ⟨y0, y1, m, _, _, h0, h1⟩ := trod_struct2 hE h
  obtain ⟨o0, c0⟩ := hone_of hone 0 f0 rfl
  obtain ⟨o1, c1⟩ := hone_of hone 1 f1 rfl
  match cs, hl with
  | [v0, v1], _ =>
    have h0' : DataW.trod enc P W 0 (fun _ => true) true m f0.type [v0] = some y0 := by simpa [o0, c0] using h0
    have h1' : DataW.trod enc P W 0 (fun _ => true) true m f1.type [v1] = some y1 := by simpa [o1, c1] using h1
    obtain ⟨a, ha, _, wa⟩ := DataW.trod_int k0 h0'
    obtain ⟨b, hb, _, wb⟩ := DataW.trod_int k1 h1'
    simp at ha hb
    subst ha hb
    exact ⟨(a, b), rfl, wa, wb⟩
theorem encM_open {H : Type} {enc : TypeId × Value → H} {P : Program} {E : TypeId} {f0 f1 f2 f3 : Field} {W : World} (hE : P.underlying E = some (.struct #[f0, f1, f2, f3])) (hone : oneCellFields P #[f0, f1, f2, f3] = true)
    (k0 : P.underlying f0.type = some (.int .i64)) (k1 : P.underlying f1.type = some (.int .i64)) (k2 : P.underlying f2.type = some (.int .i64)) (k3 : P.underlying f3.type = some .bool)
    (n : Nat) (cs : List Value) (d : DataW H) (ps : List MemPlace) (hl : cs.length = encM.size) (h : DataW.trod enc P W 0 (fun _ => true) true n E cs = some (d, ps)) : ∃ x, cs = encM.cells x ∧ encM.ok x := by
  obtain ⟨y0, y1, y2, y3, m, _, _, h0, h1, h2, h3⟩ := Go.Joins.trod_struct4 hE h
  obtain ⟨o0, c0⟩ := hone_of hone 0 f0 rfl
  obtain ⟨o1, c1⟩ := hone_of hone 1 f1 rfl
  obtain ⟨o2, c2⟩ := hone_of hone 2 f2 rfl
  obtain ⟨o3, c3⟩ := hone_of hone 3 f3 rfl
  match cs, hl with
  | [v0, v1, v2, v3], _ =>
    have h0' : DataW.trod enc P W 0 (fun _ => true) true m f0.type [v0] = some y0 := by simpa [o0, c0] using h0
    have h1' : DataW.trod enc P W 0 (fun _ => true) true m f1.type [v1] = some y1 := by simpa [o1, c1] using h1
    have h2' : DataW.trod enc P W 0 (fun _ => true) true m f2.type [v2] = some y2 := by simpa [o2, c2] using h2
    have h3' : DataW.trod enc P W 0 (fun _ => true) true m f3.type [v3] = some y3 := by simpa [o3, c3] using h3
    obtain ⟨a, ha, _, wa⟩ := DataW.trod_int k0 h0'
    obtain ⟨b, hb, _, wb⟩ := DataW.trod_int k1 h1'
    obtain ⟨c, hc, _, wc⟩ := DataW.trod_int k2 h2'
    obtain ⟨e, he, _⟩ := DataW.trod_bool k3 h3'
    simp at ha hb hc he
    subst ha hb hc he
    exact ⟨⟨a, b, c, e⟩, rfl, wa, wb, wc⟩
/-- A field of an element of a row. -/
theorem SeesG.atP {w : World} {b o n cap : Nat} {L : List (Int × Int)} (h : SeesG encP w (.slice (some ⟨b, o, none⟩) n cap) L) {j : Nat} (hj : j < L.length) :
    w.cell? ⟨b, o + j * 2, none⟩ = some (.int .i64 (L.getD j (0, 0)).1) ∧ w.cell? ⟨b, o + (j * 2 + 1), none⟩ = some (.int .i64 (L.getD j (0, 0)).2) := by
  have h0 := h.at' hj (i := 0) (by decide)
  have h1 := h.at' hj (i := 1) (by decide)
  simp only [encP] at h0 h1
  exact ⟨by simpa using h0, by simpa [Nat.add_assoc] using h1⟩
theorem SeesG.atM {w : World} {b o n cap : Nat} {L : List Mem} (h : SeesG encM w (.slice (some ⟨b, o, none⟩) n cap) L) {j : Nat} (hj : j < L.length) :
    w.cell? ⟨b, o + j * 4, none⟩ = some (.int .i64 (L.getD j ⟨0, 0, 0, false⟩).id) ∧ w.cell? ⟨b, o + (j * 4 + 1), none⟩ = some (.int .i64 (L.getD j ⟨0, 0, 0, false⟩).str) ∧ w.cell? ⟨b, o + (j * 4 + 2), none⟩ = some (.int .i64 (L.getD j ⟨0, 0, 0, false⟩).need) ∧
      w.cell? ⟨b, o + (j * 4 + 3), none⟩ = some (.bool (L.getD j ⟨0, 0, 0, false⟩).ill) := by
  have h0 := h.at' hj (i := 0) (by decide)
  have h1 := h.at' hj (i := 1) (by decide)
  have h2 := h.at' hj (i := 2) (by decide)
  have h3 := h.at' hj (i := 3) (by decide)
  simp only [encM] at h0 h1 h2 h3
  exact ⟨by simpa using h0, by simpa [Nat.add_assoc] using h1, by simpa [Nat.add_assoc] using h2, by simpa [Nat.add_assoc] using h3⟩
end Go.Proofs.YtbibkjponadipaaDoor.Rg
