/- Rows of whatever elements that came in with a call: they read so. No condition. -/
import Derived.Test.YtbibkjponadipaaDoorRowG
import Derived.Deep.Slices
namespace Go.Proofs.YtbibkjponadipaaDoor.Rg
open Go.RowKit Kit Rw Go.ChangeShapes Go.WideShapes Go.ChangeAt Go.Deep

theorem row_openG {α : Type} {e : Enc α} {H : Type} {enc : TypeId × Value → H} {P : Program} {t E : TypeId} {W : World} {a : Option Addr} {len cap : Nat} {d : DataW H} {ps : List MemPlace}
    (ht : P.underlying t = some (.slice E)) (hc : P.cellsOf E = e.size)
    (hel : ∀ (n : Nat) (cs : List Value) (d : DataW H) (ps : List MemPlace), cs.length = e.size → DataW.trod enc P W 0 (fun _ => true) true n E cs = some (d, ps) → ∃ x, cs = e.cells x ∧ e.ok x)
    (h : DataW.Trod enc P W 0 (fun _ => true) true t (.slice a len cap) d ps) : ∃ L, L.length = len ∧ SeesG e W (.slice a len cap) L := by
  obtain ⟨fuel, hf⟩ := h
  rcases open_slice ht hf with ⟨hcs, _⟩ | ⟨x, l, c, m, n, D, Pl, hcs, _, hl, hm, hmm, _, hall⟩
  · simp [Value.cells] at hcs
    obtain ⟨rfl, rfl, rfl⟩ := hcs
    exact ⟨[], rfl, none, 0, rfl, by simp, by unfold maxLen; omega, fun _ => rfl, by simp, .inl rfl⟩
  · simp [Value.cells] at hcs
    obtain ⟨rfl, rfl, rfl⟩ := hcs
    have hml : len ≤ m := by rw [hmm]; split <;> omega
    have hex : ∀ i, i < len → ∃ y : α, (∀ j, j < e.size → W.cell? (x.add (i * e.size + j)) = (e.cells y)[j]?) ∧ e.ok y := fun i hi => by
      obtain ⟨cs', h1, h2⟩ := hall i (by omega)
      obtain ⟨_, hlen, hcell⟩ := World.cells?_some h1
      rw [hc] at hlen hcell
      obtain ⟨y, rfl, hok⟩ := hel n cs' _ _ hlen h2
      refine ⟨y, fun j hj => ?_, hok⟩
      have := hcell j hj
      rw [add_add] at this
      exact this
    have : Inhabited α := ⟨e.dflt⟩
    obtain ⟨f, hf'⟩ := choose_lt hex
    refine ⟨(List.range len).map f, by simp, some x, cap, by simp, by simpa using hl, hm, (fun h => by cases h), fun y hy => ?_, ?_⟩
    · obtain ⟨i, hi, rfl⟩ := List.mem_map.1 hy
      exact (hf' i (List.mem_range.1 hi)).2
    · by_cases h0 : len = 0
      · exact .inl (by simp [h0])
      · have hc0 := (hf' 0 (by omega)).1 0 e.pos
        obtain ⟨bk, of, sp⟩ := x
        have hsp : sp = none := by
          have hl0 : 0 < (e.cells (f 0)).length := by rw [e.len]; exact e.pos
          rw [List.getElem?_eq_getElem hl0] at hc0
          simpa [Addr.add] using World.cell?_spot hc0
        subst hsp
        refine .inr ⟨bk, of, rfl, fun j hj => ?_⟩
        rw [List.length_map, List.length_range] at hj
        have hi := div_lt e.pos hj
        have hr := Nat.mod_lt j e.pos
        have hjj : j / e.size * e.size + j % e.size = j := by rw [Nat.mul_comm]; exact Nat.div_add_mod j e.size
        have h1 := (hf' (j / e.size) hi).1 (j % e.size) hr
        rw [Kit.add_plain, hjj] at h1
        rw [h1]
        have h2 := flat_at (e := e) (L := (List.range len).map f) (j := j / e.size) (i := j % e.size) (by simpa using hi) hr
        rw [hjj] at h2
        rw [h2]
        simp [List.getD_eq_getElem?_getD, hi]
theorem encB_open {H : Type} {enc : TypeId × Value → H} {P : Program} {E : TypeId} {W : World} (hE : P.underlying E = some .bool) (n : Nat) (cs : List Value) (d : DataW H) (ps : List MemPlace) (_ : cs.length = encB.size) (h : DataW.trod enc P W 0 (fun _ => true) true n E cs = some (d, ps)) : ∃ x, cs = encB.cells x ∧ encB.ok x := by
  obtain ⟨b, h1, _⟩ := DataW.trod_bool hE h
  exact ⟨b, h1, trivial⟩
end Go.Proofs.YtbibkjponadipaaDoor.Rg
