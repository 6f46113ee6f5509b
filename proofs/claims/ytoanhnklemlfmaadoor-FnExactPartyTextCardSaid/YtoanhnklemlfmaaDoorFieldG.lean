/- A field of a struct that came in: a row of whatever elements. No condition. -/
import Derived.Test.YtoanhnklemlfmaaDoorOpenG
import Derived.Test.YtoanhnklemlfmaaDoorRowS
namespace Go.Proofs.YtoanhnklemlfmaaDoor.Rg
open Go.RowKit Kit Rw Go.ChangeShapes Go.WideShapes Go.ChangeAt Go.Deep

theorem field_rowG {α : Type} {e : Enc α} {H : Type} {enc : TypeId × Value → H} {P : Program} {t E : TypeId} {W : World} {n : Nat} {v : Value} {y : DataW H × List MemPlace}
    (ht : P.underlying t = some (.slice E)) (hc : P.cellsOf E = e.size)
    (hel : ∀ (n : Nat) (cs : List Value) (d : DataW H) (ps : List MemPlace), cs.length = e.size → DataW.trod enc P W 0 (fun _ => true) true n E cs = some (d, ps) → ∃ x, cs = e.cells x ∧ e.ok x)
    (h : DataW.trod enc P W 0 (fun _ => true) true n t [v] = some y) : ∃ a len cap L, v = .slice a len cap ∧ L.length = len ∧ SeesG e W (.slice a len cap) L := by
  rcases open_slice ht h with ⟨hcs, _⟩ | ⟨x, l, c, m, n', D, Pl, hcs, _⟩
  · simp only [List.cons.injEq, and_true] at hcs
    subst hcs
    exact ⟨none, 0, 0, [], rfl, rfl, none, 0, rfl, by simp, by unfold maxLen; omega, fun _ => rfl, by simp, .inl rfl⟩
  · simp only [List.cons.injEq, and_true] at hcs
    subst hcs
    obtain ⟨d, ps⟩ := y
    obtain ⟨L, h1, h2⟩ := row_openG (e := e) ht hc hel ⟨n, by simpa [Value.cells] using h⟩
    exact ⟨_, _, _, L, rfl, h1, h2⟩
end Go.Proofs.YtoanhnklemlfmaaDoor.Rg
