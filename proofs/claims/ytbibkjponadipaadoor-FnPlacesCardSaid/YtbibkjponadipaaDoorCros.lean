/- Contracts of what two lists of places share, of the program and of its model, and of who is lost. -/
import Derived.Test.YtbibkjponadipaaDoorMapB
import Derived.IntWalk
import Derived.Deep.QuietTactic
import Derived.BigQuiet
namespace Go.Proofs.YtbibkjponadipaaDoor.Cros
open Go.RowKit Kit Rw Inf Mb

def crossOf (A B : List Int) : List Int := A.filter fun x => decide (x ∈ B)
theorem cross_len (A B : List Int) : (crossOf A B).length ≤ A.length := List.length_filter_le _ _
theorem cross_0 (A B : List Int) : crossOf (A.take 0) B = [] := by simp [crossOf]
theorem cross_next {A B : List Int} {j : Nat} (h : j < A.length) : crossOf (A.take (j + 1)) B = crossOf (A.take j) B ++ (if decide (A.getD j 0 ∈ B) = true then [A.getD j 0] else []) := by
  have e : A[j] = A.getD j 0 := by simp [h]
  unfold crossOf
  rw [List.take_succ_eq_append_getElem h, List.filter_append, e]
  congr 1
  simp only [List.filter_cons, List.filter_nil]
theorem cross_take {A B : List Int} {j : Nat} : (crossOf (A.take j) B).length ≤ A.length := Nat.le_trans (cross_len _ _) (by simp; omega)
theorem info_int : (Tryd.prog.info? 3).map (fun i => (i.zero, i.size, i.bytes)) = some (some (.int .i64 0), 1, 8) := by kernel_rfl

def stillOf (A B : List Int) : List Int := A.filter fun x => !decide (x ∈ B)
theorem still_len (A B : List Int) : (stillOf A B).length ≤ A.length := List.length_filter_le _ _
theorem still_0 (A B : List Int) : stillOf (A.take 0) B = [] := by simp [stillOf]
theorem still_next {A B : List Int} {j : Nat} (h : j < A.length) : stillOf (A.take (j + 1)) B = stillOf (A.take j) B ++ (if (!decide (A.getD j 0 ∈ B)) = true then [A.getD j 0] else []) := by
  have e : A[j] = A.getD j 0 := by simp [h]
  unfold stillOf
  rw [List.take_succ_eq_append_getElem h, List.filter_append, e]
  congr 1
  simp only [List.filter_cons, List.filter_nil]
theorem still_take {A B : List Int} {j : Nat} : (stillOf (A.take j) B).length ≤ A.length := Nat.le_trans (still_len _ _) (by simp; omega)
def isFound (A B : List Int) (x : Int) : Bool := decide (x ∈ A) && decide (x ∈ B)
set_option maxHeartbeats 400000 in
theorem iLost_any (w : World) (u : Value) (A : List Int) (hu : Sees .i64 w u A) :
    Calls Tryd.prog 14 #[u] w fun e w' => e = .returned (.bool (decide (A.length ≠ 1))) ∧ w.grownBy w' none := by
  obtain ⟨a, n, cap, rfl, HN⟩ := hu.shape
  clear hu
  have HI : Hid (decide (A.length ≠ 1) = decide (n ≠ 1)) := by show _ = _; rw [HN.out]
  by_cases h : n = 1
  · subst h
    go_enter Tryd.func14, Tryd.ntmps14
    go_wp2
    go_ret
    exact ⟨ret_bool (by rw [HI.out]; rfl), World.grownBy.refl _ _⟩
  · have hb : ((n : Int) != 1) = true := by simp; omega
    go_enter Tryd.func14, Tryd.ntmps14
    go_wp2
    go_ret
    exact ⟨ret_bool (by rw [HI.out, decide_eq_true h]), World.grownBy.refl _ _⟩
end Go.Proofs.YtbibkjponadipaaDoor.Cros
