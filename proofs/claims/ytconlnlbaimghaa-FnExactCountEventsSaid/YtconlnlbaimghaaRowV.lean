/- Rows of structs of two ints and a bool (events): how they lie, that they came in so, their fields, one stored. No condition. -/
import Derived.Test.YtconlnlbaimghaaRowM
namespace Go.Proofs.Ytconlnlbaimghaa.Rg
open Go.RowKit Kit Rw Go.ChangeShapes Go.WideShapes Go.ChangeAt Go.Deep Go.Joins

structure Ev where
  kd : Int
  nn : Int
  st : Bool
def zV : Ev := ⟨0, 0, false⟩
def encV : Enc Ev := ⟨3, fun m => [.int .i64 m.kd, .int .i64 m.nn, .bool m.st], zV, fun m => (Lit.int .i64 m.kd).wf = true ∧ (Lit.int .i64 m.nn).wf = true, by decide, fun _ => rfl, fun _ v hv => by simp at hv; rcases hv with rfl | rfl | rfl <;> rfl⟩
theorem encV_open {H : Type} {enc : TypeId × Value → H} {P : Program} {E : TypeId} {f0 f1 f2 : Field} {W : World} (hE : P.underlying E = some (.struct #[f0, f1, f2])) (hone : oneCellFields P #[f0, f1, f2] = true)
    (k0 : P.underlying f0.type = some (.int .i64)) (k1 : P.underlying f1.type = some (.int .i64)) (k2 : P.underlying f2.type = some .bool)
    (n : Nat) (cs : List Value) (d : DataW H) (ps : List MemPlace) (hl : cs.length = encV.size) (h : DataW.trod enc P W 0 (fun _ => true) true n E cs = some (d, ps)) : ∃ x, cs = encV.cells x ∧ encV.ok x := by
  obtain ⟨y0, y1, y2, m, _, _, h0, h1, h2⟩ := trod_struct3 hE h
  obtain ⟨o0, c0⟩ := hone_of hone 0 f0 rfl
  obtain ⟨o1, c1⟩ := hone_of hone 1 f1 rfl
  obtain ⟨o2, c2⟩ := hone_of hone 2 f2 rfl
  match cs, hl with
  | [v0, v1, v2], _ =>
    have h0' : DataW.trod enc P W 0 (fun _ => true) true m f0.type [v0] = some y0 := by simpa [o0, c0] using h0
    have h1' : DataW.trod enc P W 0 (fun _ => true) true m f1.type [v1] = some y1 := by simpa [o1, c1] using h1
    have h2' : DataW.trod enc P W 0 (fun _ => true) true m f2.type [v2] = some y2 := by simpa [o2, c2] using h2
    obtain ⟨a, ha, _, wa⟩ := DataW.trod_int k0 h0'
    obtain ⟨b, hb, _, wb⟩ := DataW.trod_int k1 h1'
    obtain ⟨e, he, _⟩ := DataW.trod_bool k2 h2'
    simp at ha hb he
    subst ha hb he
    exact ⟨⟨a, b, e⟩, rfl, wa, wb⟩
theorem SeesG.atV {w : World} {b o n cap : Nat} {L : List Ev} (h : SeesG encV w (.slice (some ⟨b, o, none⟩) n cap) L) {j : Nat} (hj : j < L.length) :
    w.cell? ⟨b, o + j * 3, none⟩ = some (.int .i64 (L.getD j zV).kd) ∧ w.cell? ⟨b, o + (j * 3 + 1), none⟩ = some (.int .i64 (L.getD j zV).nn) ∧ w.cell? ⟨b, o + (j * 3 + 2), none⟩ = some (.bool (L.getD j zV).st) := by
  have h0 := h.at' hj (i := 0) (by decide)
  have h1 := h.at' hj (i := 1) (by decide)
  have h2 := h.at' hj (i := 2) (by decide)
  simp only [encV] at h0 h1 h2
  exact ⟨by simpa using h0, by simpa [Nat.add_assoc] using h1, by simpa [Nat.add_assoc] using h2⟩
theorem atV_in {w wr : World} {b o n cap : Nat} {L : List Ev} (h : SeesG encV w (.slice (some ⟨b, o, none⟩) n cap) L) (hg : w.grownBy wr none) {j : Nat} (hj : j < L.length) {x : Ev} (hx : L.getD j zV = x) :
    wr.cell? ⟨b, o + j * 3, none⟩ = some (.int .i64 x.kd) ∧ wr.cell? ⟨b, o + j * 3 + 1, none⟩ = some (.int .i64 x.nn) ∧ wr.cell? ⟨b, o + j * 3 + 2, none⟩ = some (.bool x.st) := by
  obtain ⟨e0, e1, e2⟩ := (h.grown hg).atV hj
  rw [hx] at e0 e1 e2
  simp only [Nat.add_assoc] at e1 e2 ⊢
  exact ⟨e0, e1, e2⟩
section
variable {E : TypeId} {w : World} {base g n cap : Nat} {L : List Ev}
theorem OwnG.cellV (h : OwnG encV E w base (.slice (some ⟨g, 0, none⟩) n cap) L) {j : Nat} (hj : j < L.length) :
    w.cell? ⟨g, j * 3, none⟩ = some (.int .i64 (L.getD j zV).kd) ∧ w.cell? ⟨g, j * 3 + 1, none⟩ = some (.int .i64 (L.getD j zV).nn) ∧ w.cell? ⟨g, j * 3 + 2, none⟩ = some (.bool (L.getD j zV).st) := by
  have := h.sees.atV hj
  simpa using this
theorem OwnG.putV0 (h : OwnG encV E w base (.slice (some ⟨g, 0, none⟩) n cap) L) (hn : L.length = n) {j : Nat} (hj : j < L.length) {a : Int} (ha : (Lit.int .i64 a).wf = true) {x : Ev} (hx : L.getD j zV = x) :
    OwnG encV E (w.setCell ⟨g, j * 3, none⟩ (.int .i64 a)) base (.slice (some ⟨g, 0, none⟩) n cap) (L.set j { x with kd := a }) ∧ w.grownBy (w.setCell ⟨g, j * 3, none⟩ (.int .i64 a)) (some g) := by
  have hok := h.2 _ (memG (d := zV) hj)
  rw [hx] at hok
  have := h.put hn (j := j) (i := 0) (u := .int .i64 a) (x := { x with kd := a }) hj (by decide) (by rw [show encV.dflt = zV from rfl, hx]; rfl) ⟨ha, hok.2⟩
  exact this
theorem OwnG.putV1 (h : OwnG encV E w base (.slice (some ⟨g, 0, none⟩) n cap) L) (hn : L.length = n) {j : Nat} (hj : j < L.length) {a : Int} (ha : (Lit.int .i64 a).wf = true) {x : Ev} (hx : L.getD j zV = x) :
    OwnG encV E (w.setCell ⟨g, j * 3 + 1, none⟩ (.int .i64 a)) base (.slice (some ⟨g, 0, none⟩) n cap) (L.set j { x with nn := a }) ∧ w.grownBy (w.setCell ⟨g, j * 3 + 1, none⟩ (.int .i64 a)) (some g) := by
  have hok := h.2 _ (memG (d := zV) hj)
  rw [hx] at hok
  have := h.put hn (j := j) (i := 1) (u := .int .i64 a) (x := { x with nn := a }) hj (by decide) (by rw [show encV.dflt = zV from rfl, hx]; rfl) ⟨hok.1, ha⟩
  exact this
theorem OwnG.putV2 (h : OwnG encV E w base (.slice (some ⟨g, 0, none⟩) n cap) L) (hn : L.length = n) {j : Nat} (hj : j < L.length) {a : Bool} {x : Ev} (hx : L.getD j zV = x) :
    OwnG encV E (w.setCell ⟨g, j * 3 + 2, none⟩ (.bool a)) base (.slice (some ⟨g, 0, none⟩) n cap) (L.set j { x with st := a }) ∧ w.grownBy (w.setCell ⟨g, j * 3 + 2, none⟩ (.bool a)) (some g) := by
  have hok := h.2 _ (memG (d := zV) hj)
  rw [hx] at hok
  have := h.put hn (j := j) (i := 2) (u := .bool a) (x := { x with st := a }) hj (by decide) (by rw [show encV.dflt = zV from rfl, hx]; rfl) hok
  exact this
/-- An element is stored whole. -/
theorem OwnG.putV (h : OwnG encV E w base (.slice (some ⟨g, 0, none⟩) n cap) L) (hn : L.length = n) {j : Nat} (hj : j < L.length) (x : Ev) (hx : encV.ok x) :
    OwnG encV E (((w.setCell ⟨g, j * 3, none⟩ (.int .i64 x.kd)).setCell ⟨g, j * 3 + 1, none⟩ (.int .i64 x.nn)).setCell ⟨g, j * 3 + 2, none⟩ (.bool x.st)) base (.slice (some ⟨g, 0, none⟩) n cap) (L.set j x) ∧
      w.grownBy (((w.setCell ⟨g, j * 3, none⟩ (.int .i64 x.kd)).setCell ⟨g, j * 3 + 1, none⟩ (.int .i64 x.nn)).setCell ⟨g, j * 3 + 2, none⟩ (.bool x.st)) (some g) := by
  obtain ⟨a1, b1⟩ := h.putV0 hn hj hx.1 rfl
  obtain ⟨a2, b2⟩ := a1.putV1 (by simpa using hn) (by simpa using hj) hx.2 (set_getD hj)
  obtain ⟨a3, b3⟩ := a2.putV2 (a := x.st) (by simpa using hn) (by simpa using hj) (set_getD (by simpa using hj))
  simp only [List.set_set] at a3
  exact ⟨a3, grownN_trans (grownN_trans b1 b2) b3⟩
end
end Go.Proofs.Ytconlnlbaimghaa.Rg
