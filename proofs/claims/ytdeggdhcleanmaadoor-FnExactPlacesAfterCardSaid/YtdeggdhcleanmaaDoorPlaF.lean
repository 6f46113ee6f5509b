/- Where one is after some steps and sights: plain facts. -/
import Derived.Test.YtdeggdhcleanmaaDoorPcc
import Derived.Test.YtdeggdhcleanmaaDoorCros
namespace Go.Proofs.YtdeggdhcleanmaaDoor.Pc
open Go.RowKit Kit Rw Rg Ld Bfs Wf Cros

noncomputable def afterTo (W H : Int) (X F : List Int) (s : Int) (M R : List Int) : Nat → List Int
  | 0 => canBe W H X F s
  | j + 1 => crossOf (afterTo W H X F s M R j) (seen W H X (M.getD j 0) (R.getD j 0))
noncomputable def after (W H : Int) (X F : List Int) (s : Int) (M R : List Int) : List Int := if M.length = R.length then afterTo W H X F s M R M.length else []
theorem afterTo_len (W H : Int) (X F : List Int) (s : Int) (M R : List Int) : ∀ j, (afterTo W H X F s M R j).length ≤ X.length
  | 0 => canBe_len _ _ _ _ _
  | j + 1 => Nat.le_trans (cross_len _ _) (afterTo_len W H X F s M R j)
theorem after_len (W H : Int) (X F : List Int) (s : Int) (M R : List Int) : (after W H X F s M R).length ≤ X.length := by
  unfold after; split
  · exact afterTo_len _ _ _ _ _ _ _ _
  · simp
theorem afterTo_no {W H : Int} {X F : List Int} {s : Int} {M R : List Int} (h : ¬ isLand W H X = true) : ∀ j, afterTo W H X F s M R j = []
  | 0 => canBe_no h
  | j + 1 => by show crossOf _ _ = _; rw [afterTo_no h j]; rfl
/-- The word of the clue: the walk first, then the sights. -/
def clueW (W H : Int) (X F : List Int) (s : Int) (M R : List Int) : Nat → Nat
  | 0 => walkW W H X F s
  | j + 1 => sightW W H X (M.getD j 0) (R.getD j 0)
theorem els_cross (p q : Nat) : crossOf (els p) (els q) = els (p &&& q) := by
  unfold crossOf els
  rw [List.filter_map, List.filter_filter]
  congr 1
  apply List.filter_congr
  intro n hn
  rw [List.mem_range] at hn
  rw [Nat.testBit_and]
  rw [Bool.eq_iff_iff]
  simp only [Function.comp_apply, Bool.and_eq_true, decide_eq_true_eq, List.mem_map, List.mem_filter, List.mem_range]
  constructor
  · rintro ⟨⟨m, ⟨hm, hq⟩, e⟩, hp⟩
    have : m = n := by omega
    subst this
    exact ⟨hp, hq⟩
  · rintro ⟨hp, hq⟩
    exact ⟨⟨n, ⟨hn, hq⟩, rfl⟩, hp⟩
theorem fold_in (op : Nat) (g : Nat → Nat) : ∀ j, foldW op g j &&& op = foldW op g j
  | 0 => Nat.and_self _
  | j + 1 => by
    show (foldW op g j &&& g j) &&& op = _
    rw [Nat.and_assoc, Nat.and_comm (g j) op, ← Nat.and_assoc, fold_in op g j]; rfl
theorem after_els {W H : Int} {X F : List Int} {s : Int} {M R : List Int} (hL : isLand W H X = true) : ∀ j, els (foldW (opW X) (clueW W H X F s M R) (j + 1)) = afterTo W H X F s M R j
  | 0 => canBe_els hL
  | j + 1 => by
    show els (foldW (opW X) (clueW W H X F s M R) (j + 1) &&& sightW W H X (M.getD j 0) (R.getD j 0)) = crossOf _ _
    rw [← after_els hL j, ← seen_els hL, els_cross, ← Nat.and_assoc, fold_in]
theorem clue_fold {W H : Int} {X F : List Int} {s : Int} {M R : List Int} (j : Nat) : (if isLand W H X = true then els (foldW (opW X) (clueW W H X F s M R) (j + 1)) else []) = afterTo W H X F s M R j := by
  by_cases hL : isLand W H X = true
  · rw [if_pos hL, after_els hL]
  · rw [if_neg hL, afterTo_no hL]
end Go.Proofs.YtdeggdhcleanmaaDoor.Pc
