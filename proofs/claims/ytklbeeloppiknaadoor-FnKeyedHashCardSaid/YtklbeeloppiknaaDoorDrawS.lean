/- The draw of one of a list of strings. No condition. -/
import Derived.Test.YtklbeeloppiknaaDoorDraw
namespace Go.Proofs.YtklbeeloppiknaaDoor.Draw
open Go.RowKit Kit

/-- One of a list of strings that has just been written out. -/
def DrawnS (c : Nat) (w : World) (P : ByteArray → Prop) (e : Ending) (w' : World) : Prop := ∃ s : ByteArray, P s ∧ e = .returned (.string s) ∧ Cur w' c ∧ w.grownBy w' (some c)
theorem str_list (ss : List ByteArray) (w : World) (c : Nat) (hc : Cur w c) (h0 : 0 < ss.length) (h1 : ss.length ≤ 1000) :
    Calls Tryd.prog 22 #[.pointer (some ⟨c, 0, none⟩), .slice (some ⟨w.heap.size, 0, none⟩) ss.length ss.length] (w.alloc (.cells (ss.map Value.string).toArray 9)) (DrawnS c w fun x => x ∈ ss) := by
  have HC : Hid (Cur (w.alloc (.cells (ss.map Value.string).toArray 9)) c) := hc.kept ((Below.refl _ _).alloc (Nat.le_refl _) _)
  have HL : Hid (∀ j (hj : j < ss.length), (w.alloc (.cells (ss.map Value.string).toArray 9)).cell? ⟨w.heap.size, j, none⟩ = some (.string ss[j])) := fun j hj => by
    rw [list_cells w _ _ j (by simpa using hj)]
    simp [hj]
  have hne : w.heap.size ≠ c := by have := hc.lt; omega
  have HG : Hid (w.grownBy (w.alloc (.cells (ss.map Value.string).toArray 9)) (some c)) := World.grownBy_alloc _ _ _
  clear hc
  generalize w.alloc (.cells (ss.map Value.string).toArray 9) = W at *
  generalize hB : w.heap.size = B at *
  clear hB
  go_enter Tryd.func22, Tryd.ntmps22
  go_wp2_with fail
  refine (below_any _ (by omega) _ _ HC.out).mono ?_
  rintro e w1 ⟨x, HP, rfl, hc1, hg1⟩
  obtain ⟨hx0, hx1⟩ := HP.1 (by omega)
  obtain ⟨j, rfl⟩ : ∃ j : Nat, x = j := ⟨x.toNat, by omega⟩
  have hj : j < ss.length := by omega
  obtain ⟨s, hs⟩ : ∃ s, s = ss[j] := ⟨_, rfl⟩
  have hcell := hg1.cell (HL.out j hj) (by simpa using hne)
  rw [← hs] at hcell
  have HM : Hid (s ∈ ss) := by rw [Hid, hs]; exact List.getElem_mem hj
  clear HP hs
  go_wp2
  go_ret
  exact ⟨_, HM.out, rfl, hc1, grown_trans HG.out hg1⟩
end Go.Proofs.YtklbeeloppiknaaDoor.Draw
