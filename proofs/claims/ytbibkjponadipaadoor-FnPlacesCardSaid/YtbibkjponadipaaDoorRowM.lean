/- Rows of members and of depots that the call owns: one field stored, one element stored whole. No condition. -/
import Derived.Test.YtbibkjponadipaaDoorRowE
import Derived.Test.YtbibkjponadipaaDoorRowS
namespace Go.Proofs.YtbibkjponadipaaDoor.Rg
open Go.RowKit Kit Rw

def zM : Mem := ⟨0, 0, 0, false⟩
theorem atM_in {w wr : World} {b o n cap : Nat} {L : List Mem} (h : SeesG encM w (.slice (some ⟨b, o, none⟩) n cap) L) (hg : w.grownBy wr none) {j : Nat} (hj : j < L.length) {x : Mem} (hx : L.getD j zM = x) :
    wr.cell? ⟨b, o + j * 4, none⟩ = some (.int .i64 x.id) ∧ wr.cell? ⟨b, o + j * 4 + 1, none⟩ = some (.int .i64 x.str) ∧ wr.cell? ⟨b, o + j * 4 + 2, none⟩ = some (.int .i64 x.need) ∧ wr.cell? ⟨b, o + j * 4 + 3, none⟩ = some (.bool x.ill) := by
  obtain ⟨e0, e1, e2, e3⟩ := (h.grown hg).atM hj
  rw [show (⟨0, 0, 0, false⟩ : Mem) = zM from rfl, hx] at e0 e1 e2 e3
  simp only [Nat.add_assoc] at e1 e2 e3 ⊢
  exact ⟨e0, e1, e2, e3⟩
section
variable {E : TypeId} {w : World} {base g n cap : Nat} {L : List Mem}
theorem OwnG.cellM (h : OwnG encM E w base (.slice (some ⟨g, 0, none⟩) n cap) L) {j : Nat} (hj : j < L.length) :
    w.cell? ⟨g, j * 4, none⟩ = some (.int .i64 (L.getD j ⟨0, 0, 0, false⟩).id) ∧ w.cell? ⟨g, j * 4 + 1, none⟩ = some (.int .i64 (L.getD j ⟨0, 0, 0, false⟩).str) ∧ w.cell? ⟨g, j * 4 + 2, none⟩ = some (.int .i64 (L.getD j ⟨0, 0, 0, false⟩).need) ∧
      w.cell? ⟨g, j * 4 + 3, none⟩ = some (.bool (L.getD j ⟨0, 0, 0, false⟩).ill) := by
  have := h.sees.atM hj
  simpa using this
theorem OwnG.putId (h : OwnG encM E w base (.slice (some ⟨g, 0, none⟩) n cap) L) (hn : L.length = n) {j : Nat} (hj : j < L.length) {a : Int} (ha : (Lit.int .i64 a).wf = true) {x : Mem} (hx : L.getD j zM = x) :
    OwnG encM E (w.setCell ⟨g, j * 4, none⟩ (.int .i64 a)) base (.slice (some ⟨g, 0, none⟩) n cap) (L.set j { x with id := a }) ∧ w.grownBy (w.setCell ⟨g, j * 4, none⟩ (.int .i64 a)) (some g) := by
  have hok := h.2 _ (memG (d := zM) hj)
  rw [hx] at hok
  have := h.put hn (j := j) (i := 0) (u := .int .i64 a) (x := { x with id := a }) hj (by decide) (by rw [show encM.dflt = zM from rfl, hx]; rfl) ⟨ha, hok.2⟩
  exact this
theorem OwnG.putStr (h : OwnG encM E w base (.slice (some ⟨g, 0, none⟩) n cap) L) (hn : L.length = n) {j : Nat} (hj : j < L.length) {a : Int} (ha : (Lit.int .i64 a).wf = true) {x : Mem} (hx : L.getD j zM = x) :
    OwnG encM E (w.setCell ⟨g, j * 4 + 1, none⟩ (.int .i64 a)) base (.slice (some ⟨g, 0, none⟩) n cap) (L.set j { x with str := a }) ∧ w.grownBy (w.setCell ⟨g, j * 4 + 1, none⟩ (.int .i64 a)) (some g) := by
  have hok := h.2 _ (memG (d := zM) hj)
  rw [hx] at hok
  have := h.put hn (j := j) (i := 1) (u := .int .i64 a) (x := { x with str := a }) hj (by decide) (by rw [show encM.dflt = zM from rfl, hx]; rfl) ⟨hok.1, ha, hok.2.2⟩
  exact this
theorem OwnG.putNeed (h : OwnG encM E w base (.slice (some ⟨g, 0, none⟩) n cap) L) (hn : L.length = n) {j : Nat} (hj : j < L.length) {a : Int} (ha : (Lit.int .i64 a).wf = true) {x : Mem} (hx : L.getD j zM = x) :
    OwnG encM E (w.setCell ⟨g, j * 4 + 2, none⟩ (.int .i64 a)) base (.slice (some ⟨g, 0, none⟩) n cap) (L.set j { x with need := a }) ∧ w.grownBy (w.setCell ⟨g, j * 4 + 2, none⟩ (.int .i64 a)) (some g) := by
  have hok := h.2 _ (memG (d := zM) hj)
  rw [hx] at hok
  have := h.put hn (j := j) (i := 2) (u := .int .i64 a) (x := { x with need := a }) hj (by decide) (by rw [show encM.dflt = zM from rfl, hx]; rfl) ⟨hok.1, hok.2.1, ha⟩
  exact this
theorem OwnG.putIll (h : OwnG encM E w base (.slice (some ⟨g, 0, none⟩) n cap) L) (hn : L.length = n) {j : Nat} (hj : j < L.length) {a : Bool} {x : Mem} (hx : L.getD j zM = x) :
    OwnG encM E (w.setCell ⟨g, j * 4 + 3, none⟩ (.bool a)) base (.slice (some ⟨g, 0, none⟩) n cap) (L.set j { x with ill := a }) ∧ w.grownBy (w.setCell ⟨g, j * 4 + 3, none⟩ (.bool a)) (some g) := by
  have hok := h.2 _ (memG (d := zM) hj)
  rw [hx] at hok
  have := h.put hn (j := j) (i := 3) (u := .bool a) (x := { x with ill := a }) hj (by decide) (by rw [show encM.dflt = zM from rfl, hx]; rfl) hok
  exact this
theorem set_getD {α : Type} {L : List α} {j : Nat} {x d : α} (hj : j < L.length) : (L.set j x).getD j d = x := by
  rw [List.getD_eq_getElem?_getD, List.getElem?_set, if_pos rfl, if_pos hj]; rfl
/-- An element is stored whole. -/
theorem OwnG.putM (h : OwnG encM E w base (.slice (some ⟨g, 0, none⟩) n cap) L) (hn : L.length = n) {j : Nat} (hj : j < L.length) (x : Mem) (hx : encM.ok x) :
    OwnG encM E ((((w.setCell ⟨g, j * 4, none⟩ (.int .i64 x.id)).setCell ⟨g, j * 4 + 1, none⟩ (.int .i64 x.str)).setCell ⟨g, j * 4 + 2, none⟩ (.int .i64 x.need)).setCell ⟨g, j * 4 + 3, none⟩ (.bool x.ill)) base (.slice (some ⟨g, 0, none⟩) n cap) (L.set j x) ∧
      w.grownBy ((((w.setCell ⟨g, j * 4, none⟩ (.int .i64 x.id)).setCell ⟨g, j * 4 + 1, none⟩ (.int .i64 x.str)).setCell ⟨g, j * 4 + 2, none⟩ (.int .i64 x.need)).setCell ⟨g, j * 4 + 3, none⟩ (.bool x.ill)) (some g) := by
  obtain ⟨a1, b1⟩ := h.putId hn hj hx.1 rfl
  obtain ⟨a2, b2⟩ := a1.putStr (by simpa using hn) (by simpa using hj) hx.2.1 (set_getD hj)
  obtain ⟨a3, b3⟩ := a2.putNeed (by simpa using hn) (by simpa using hj) hx.2.2 (set_getD (by simpa using hj))
  obtain ⟨a4, b4⟩ := a3.putIll (a := x.ill) (by simpa using hn) (by simpa using hj) (set_getD (by simpa using hj))
  simp only [List.set_set] at a4
  exact ⟨a4, grownN_trans (grownN_trans (grownN_trans b1 b2) b3) b4⟩
end
theorem atP_in {w wr : World} {b o n cap : Nat} {L : List (Int × Int)} (h : SeesG encP w (.slice (some ⟨b, o, none⟩) n cap) L) (hg : w.grownBy wr none) {j : Nat} (hj : j < L.length) {x : Int × Int} (hx : L.getD j (0, 0) = x) :
    wr.cell? ⟨b, o + j * 2, none⟩ = some (.int .i64 x.1) ∧ wr.cell? ⟨b, o + j * 2 + 1, none⟩ = some (.int .i64 x.2) := by
  obtain ⟨e0, e1⟩ := (h.grown hg).atP hj
  rw [hx] at e0 e1
  simp only [Nat.add_assoc] at e1 ⊢
  exact ⟨e0, e1⟩
section
variable {E : TypeId} {w : World} {base g n cap : Nat} {L : List (Int × Int)}
theorem OwnG.cellP (h : OwnG encP E w base (.slice (some ⟨g, 0, none⟩) n cap) L) {j : Nat} (hj : j < L.length) :
    w.cell? ⟨g, j * 2, none⟩ = some (.int .i64 (L.getD j (0, 0)).1) ∧ w.cell? ⟨g, j * 2 + 1, none⟩ = some (.int .i64 (L.getD j (0, 0)).2) := by
  have := h.sees.atP hj
  simpa using this
theorem OwnG.put1 (h : OwnG encP E w base (.slice (some ⟨g, 0, none⟩) n cap) L) (hn : L.length = n) {j : Nat} (hj : j < L.length) {a : Int} (ha : (Lit.int .i64 a).wf = true) {x : Int × Int} (hx : L.getD j (0, 0) = x) :
    OwnG encP E (w.setCell ⟨g, j * 2, none⟩ (.int .i64 a)) base (.slice (some ⟨g, 0, none⟩) n cap) (L.set j (a, x.2)) ∧ w.grownBy (w.setCell ⟨g, j * 2, none⟩ (.int .i64 a)) (some g) := by
  have hok := h.2 _ (memG (d := (0, 0)) hj)
  rw [hx] at hok
  have := h.put hn (j := j) (i := 0) (u := .int .i64 a) (x := (a, x.2)) hj (by decide) (by rw [show encP.dflt = (0, 0) from rfl, hx]; rfl) ⟨ha, hok.2⟩
  exact this
theorem OwnG.put2 (h : OwnG encP E w base (.slice (some ⟨g, 0, none⟩) n cap) L) (hn : L.length = n) {j : Nat} (hj : j < L.length) {a : Int} (ha : (Lit.int .i64 a).wf = true) {x : Int × Int} (hx : L.getD j (0, 0) = x) :
    OwnG encP E (w.setCell ⟨g, j * 2 + 1, none⟩ (.int .i64 a)) base (.slice (some ⟨g, 0, none⟩) n cap) (L.set j (x.1, a)) ∧ w.grownBy (w.setCell ⟨g, j * 2 + 1, none⟩ (.int .i64 a)) (some g) := by
  have hok := h.2 _ (memG (d := (0, 0)) hj)
  rw [hx] at hok
  have := h.put hn (j := j) (i := 1) (u := .int .i64 a) (x := (x.1, a)) hj (by decide) (by rw [show encP.dflt = (0, 0) from rfl, hx]; rfl) ⟨hok.1, ha⟩
  exact this
theorem OwnG.putP (h : OwnG encP E w base (.slice (some ⟨g, 0, none⟩) n cap) L) (hn : L.length = n) {j : Nat} (hj : j < L.length) (x : Int × Int) (hx : encP.ok x) :
    OwnG encP E ((w.setCell ⟨g, j * 2, none⟩ (.int .i64 x.1)).setCell ⟨g, j * 2 + 1, none⟩ (.int .i64 x.2)) base (.slice (some ⟨g, 0, none⟩) n cap) (L.set j x) ∧
      w.grownBy ((w.setCell ⟨g, j * 2, none⟩ (.int .i64 x.1)).setCell ⟨g, j * 2 + 1, none⟩ (.int .i64 x.2)) (some g) := by
  obtain ⟨a1, b1⟩ := h.put1 hn hj hx.1 rfl
  obtain ⟨a2, b2⟩ := a1.put2 (by simpa using hn) (by simpa using hj) hx.2 (set_getD hj)
  simp only [List.set_set] at a2
  exact ⟨a2, grownN_trans b1 b2⟩
end
end Go.Proofs.YtbibkjponadipaaDoor.Rg
