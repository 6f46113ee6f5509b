/- Rows of structs of 4 ints: how they lie, that they came in so, and their fields. No condition. -/
import Derived.Test.YtbibkjponadipaaDoorRowM
namespace Go.Proofs.YtbibkjponadipaaDoor.Rg
open Go.RowKit Kit Rw Go.ChangeShapes Go.WideShapes Go.ChangeAt Go.Deep Go.Joins

structure I4 where
  x0 : Int
  x1 : Int
  x2 : Int
  x3 : Int
def zI4 : I4 := ⟨0, 0, 0, 0⟩
def enc4 : Enc I4 := ⟨4, fun m => [.int .i64 m.x0, .int .i64 m.x1, .int .i64 m.x2, .int .i64 m.x3], zI4, fun m => (Lit.int .i64 m.x0).wf = true ∧ (Lit.int .i64 m.x1).wf = true ∧ (Lit.int .i64 m.x2).wf = true ∧ (Lit.int .i64 m.x3).wf = true, by decide, fun _ => rfl, fun _ v hv => by simp at hv; rcases hv with rfl | rfl | rfl | rfl <;> rfl⟩
theorem enc4_open {H : Type} {enc : TypeId × Value → H} {P : Program} {E : TypeId} {f0 f1 f2 f3 : Field} {W : World} (hE : P.underlying E = some (.struct #[f0, f1, f2, f3])) (hone : oneCellFields P #[f0, f1, f2, f3] = true)
    (k0 : P.underlying f0.type = some (.int .i64)) (k1 : P.underlying f1.type = some (.int .i64)) (k2 : P.underlying f2.type = some (.int .i64)) (k3 : P.underlying f3.type = some (.int .i64))
    (n : Nat) (cs : List Value) (d : DataW H) (ps : List MemPlace) (hl : cs.length = enc4.size) (h : DataW.trod enc P W 0 (fun _ => true) true n E cs = some (d, ps)) : ∃ x, cs = enc4.cells x ∧ enc4.ok x := by
  obtain ⟨y0, y1, y2, y3, m, _, _, h0, h1, h2, h3⟩ := trod_struct4 hE h
  obtain ⟨o0, c0⟩ := hone_of hone 0 f0 rfl
  obtain ⟨o1, c1⟩ := hone_of hone 1 f1 rfl
  obtain ⟨o2, c2⟩ := hone_of hone 2 f2 rfl
  obtain ⟨o3, c3⟩ := hone_of hone 3 f3 rfl
  match cs, hl with
  | [v0, v1, v2, v3], _ =>
    have h0' : DataW.trod enc P W 0 (fun _ => true) true m f0.type [v0] = some y0 := by simpa [o0, c0] using h0
    have h1' : DataW.trod enc P W 0 (fun _ => true) true m f1.type [v1] = some y1 := by simpa [o1, c1] using h1
    have h2' : DataW.trod enc P W 0 (fun _ => true) true m f2.type [v2] = some y2 := by simpa [o2, c2] using h2
    have h3' : DataW.trod enc P W 0 (fun _ => true) true m f3.type [v3] = some y3 := by simpa [o3, c3] using h3
    obtain ⟨a0, ha0, _, wa0⟩ := DataW.trod_int k0 h0'
    obtain ⟨a1, ha1, _, wa1⟩ := DataW.trod_int k1 h1'
    obtain ⟨a2, ha2, _, wa2⟩ := DataW.trod_int k2 h2'
    obtain ⟨a3, ha3, _, wa3⟩ := DataW.trod_int k3 h3'
    simp at ha0 ha1 ha2 ha3
    subst ha0 ha1 ha2 ha3
    exact ⟨⟨a0, a1, a2, a3⟩, rfl, wa0, wa1, wa2, wa3⟩
theorem SeesG.at4 {w : World} {b o n cap : Nat} {L : List I4} (h : SeesG enc4 w (.slice (some ⟨b, o, none⟩) n cap) L) {j : Nat} (hj : j < L.length) :
    w.cell? ⟨b, o + j * 4, none⟩ = some (.int .i64 (L.getD j zI4).x0) ∧ w.cell? ⟨b, o + (j * 4 + 1), none⟩ = some (.int .i64 (L.getD j zI4).x1) ∧ w.cell? ⟨b, o + (j * 4 + 2), none⟩ = some (.int .i64 (L.getD j zI4).x2) ∧ w.cell? ⟨b, o + (j * 4 + 3), none⟩ = some (.int .i64 (L.getD j zI4).x3) := by
  have h0 := h.at' hj (i := 0) (by decide)
  have h1 := h.at' hj (i := 1) (by decide)
  have h2 := h.at' hj (i := 2) (by decide)
  have h3 := h.at' hj (i := 3) (by decide)
  simp only [enc4] at h0 h1 h2 h3
  exact ⟨by simpa using h0, by simpa [Nat.add_assoc] using h1, by simpa [Nat.add_assoc] using h2, by simpa [Nat.add_assoc] using h3⟩
theorem at4_in {w wr : World} {b o n cap : Nat} {L : List I4} (h : SeesG enc4 w (.slice (some ⟨b, o, none⟩) n cap) L) (hg : w.grownBy wr none) {j : Nat} (hj : j < L.length) {x : I4} (hx : L.getD j zI4 = x) :
    wr.cell? ⟨b, o + j * 4, none⟩ = some (.int .i64 x.x0) ∧ wr.cell? ⟨b, o + j * 4 + 1, none⟩ = some (.int .i64 x.x1) ∧ wr.cell? ⟨b, o + j * 4 + 2, none⟩ = some (.int .i64 x.x2) ∧ wr.cell? ⟨b, o + j * 4 + 3, none⟩ = some (.int .i64 x.x3) := by
  obtain ⟨e0, e1, e2, e3⟩ := (h.grown hg).at4 hj
  rw [hx] at e0 e1 e2 e3
  simp only [Nat.add_assoc] at e1 e2 e3 ⊢
  exact ⟨e0, e1, e2, e3⟩
section
variable {E : TypeId} {w : World} {base g n cap : Nat} {L : List I4}
theorem OwnG.cell4 (h : OwnG enc4 E w base (.slice (some ⟨g, 0, none⟩) n cap) L) {j : Nat} (hj : j < L.length) :
    w.cell? ⟨g, j * 4, none⟩ = some (.int .i64 (L.getD j zI4).x0) ∧ w.cell? ⟨g, j * 4 + 1, none⟩ = some (.int .i64 (L.getD j zI4).x1) ∧ w.cell? ⟨g, j * 4 + 2, none⟩ = some (.int .i64 (L.getD j zI4).x2) ∧ w.cell? ⟨g, j * 4 + 3, none⟩ = some (.int .i64 (L.getD j zI4).x3) := by
  have := h.sees.at4 hj
  simpa using this
theorem OwnG.put4_0 (h : OwnG enc4 E w base (.slice (some ⟨g, 0, none⟩) n cap) L) (hn : L.length = n) {j : Nat} (hj : j < L.length) {a : Int} (ha : (Lit.int .i64 a).wf = true) {x : I4} (hx : L.getD j zI4 = x) :
    OwnG enc4 E (w.setCell ⟨g, j * 4, none⟩ (.int .i64 a)) base (.slice (some ⟨g, 0, none⟩) n cap) (L.set j ⟨a, x.x1, x.x2, x.x3⟩) ∧ w.grownBy (w.setCell ⟨g, j * 4, none⟩ (.int .i64 a)) (some g) := by
  have hok := h.2 _ (memG (d := zI4) hj)
  rw [hx] at hok
  have := h.put hn (j := j) (i := 0) (u := .int .i64 a) (x := ⟨a, x.x1, x.x2, x.x3⟩) hj (by decide) (by rw [show enc4.dflt = zI4 from rfl, hx]; rfl) ⟨ha, hok.2.1, hok.2.2.1, hok.2.2.2⟩
  exact this
theorem OwnG.put4_1 (h : OwnG enc4 E w base (.slice (some ⟨g, 0, none⟩) n cap) L) (hn : L.length = n) {j : Nat} (hj : j < L.length) {a : Int} (ha : (Lit.int .i64 a).wf = true) {x : I4} (hx : L.getD j zI4 = x) :
    OwnG enc4 E (w.setCell ⟨g, j * 4 + 1, none⟩ (.int .i64 a)) base (.slice (some ⟨g, 0, none⟩) n cap) (L.set j ⟨x.x0, a, x.x2, x.x3⟩) ∧ w.grownBy (w.setCell ⟨g, j * 4 + 1, none⟩ (.int .i64 a)) (some g) := by
  have hok := h.2 _ (memG (d := zI4) hj)
  rw [hx] at hok
  have := h.put hn (j := j) (i := 1) (u := .int .i64 a) (x := ⟨x.x0, a, x.x2, x.x3⟩) hj (by decide) (by rw [show enc4.dflt = zI4 from rfl, hx]; rfl) ⟨hok.1, ha, hok.2.2.1, hok.2.2.2⟩
  exact this
theorem OwnG.put4_2 (h : OwnG enc4 E w base (.slice (some ⟨g, 0, none⟩) n cap) L) (hn : L.length = n) {j : Nat} (hj : j < L.length) {a : Int} (ha : (Lit.int .i64 a).wf = true) {x : I4} (hx : L.getD j zI4 = x) :
    OwnG enc4 E (w.setCell ⟨g, j * 4 + 2, none⟩ (.int .i64 a)) base (.slice (some ⟨g, 0, none⟩) n cap) (L.set j ⟨x.x0, x.x1, a, x.x3⟩) ∧ w.grownBy (w.setCell ⟨g, j * 4 + 2, none⟩ (.int .i64 a)) (some g) := by
  have hok := h.2 _ (memG (d := zI4) hj)
  rw [hx] at hok
  have := h.put hn (j := j) (i := 2) (u := .int .i64 a) (x := ⟨x.x0, x.x1, a, x.x3⟩) hj (by decide) (by rw [show enc4.dflt = zI4 from rfl, hx]; rfl) ⟨hok.1, hok.2.1, ha, hok.2.2.2⟩
  exact this
theorem OwnG.put4_3 (h : OwnG enc4 E w base (.slice (some ⟨g, 0, none⟩) n cap) L) (hn : L.length = n) {j : Nat} (hj : j < L.length) {a : Int} (ha : (Lit.int .i64 a).wf = true) {x : I4} (hx : L.getD j zI4 = x) :
    OwnG enc4 E (w.setCell ⟨g, j * 4 + 3, none⟩ (.int .i64 a)) base (.slice (some ⟨g, 0, none⟩) n cap) (L.set j ⟨x.x0, x.x1, x.x2, a⟩) ∧ w.grownBy (w.setCell ⟨g, j * 4 + 3, none⟩ (.int .i64 a)) (some g) := by
  have hok := h.2 _ (memG (d := zI4) hj)
  rw [hx] at hok
  have := h.put hn (j := j) (i := 3) (u := .int .i64 a) (x := ⟨x.x0, x.x1, x.x2, a⟩) hj (by decide) (by rw [show enc4.dflt = zI4 from rfl, hx]; rfl) ⟨hok.1, hok.2.1, hok.2.2.1, ha⟩
  exact this
theorem OwnG.put4 (h : OwnG enc4 E w base (.slice (some ⟨g, 0, none⟩) n cap) L) (hn : L.length = n) {j : Nat} (hj : j < L.length) (x : I4) (hx : enc4.ok x) :
    OwnG enc4 E ((((w.setCell ⟨g, j * 4, none⟩ (.int .i64 x.x0)).setCell ⟨g, j * 4 + 1, none⟩ (.int .i64 x.x1)).setCell ⟨g, j * 4 + 2, none⟩ (.int .i64 x.x2)).setCell ⟨g, j * 4 + 3, none⟩ (.int .i64 x.x3)) base (.slice (some ⟨g, 0, none⟩) n cap) (L.set j x) ∧ w.grownBy ((((w.setCell ⟨g, j * 4, none⟩ (.int .i64 x.x0)).setCell ⟨g, j * 4 + 1, none⟩ (.int .i64 x.x1)).setCell ⟨g, j * 4 + 2, none⟩ (.int .i64 x.x2)).setCell ⟨g, j * 4 + 3, none⟩ (.int .i64 x.x3)) (some g) := by
  obtain ⟨a0, b0⟩ := h.put4_0 hn hj hx.1 rfl
  obtain ⟨a1, b1⟩ := a0.put4_1 (by simpa using hn) (by simpa using hj) hx.2.1 (set_getD (by simpa using hj))
  obtain ⟨a2, b2⟩ := a1.put4_2 (by simpa using hn) (by simpa using hj) hx.2.2.1 (set_getD (by simpa using hj))
  obtain ⟨a3, b3⟩ := a2.put4_3 (by simpa using hn) (by simpa using hj) hx.2.2.2 (set_getD (by simpa using hj))
  simp only [List.set_set] at a3
  exact ⟨a3, (grownN_trans (grownN_trans (grownN_trans b0 b1) b2) b3)⟩
end
end Go.Proofs.YtbibkjponadipaaDoor.Rg
