/- Contracts of the food that is eaten, of the program and of its model. -/
import Derived.Test.YtnjlgnbhjhfohaaRelF
import Derived.IntWalk
namespace Go.Proofs.Ytnjlgnbhjhfohaa.EatI
open Go.RowKit Kit Rw Md Rel

theorem inY {n l h : Int} (w : World) (hd : l ≤ n ∧ n ≤ h) :
    Calls Try.prog 28 #[.int .i64 n, .int .i64 l, .int .i64 h] w fun e w' => e = .returned (.bool true) ∧ w = w' :=
  (inRange_any n l h w).mono fun _ _ q => ⟨by rw [q.1, decide_eq_true hd], q.2⟩
theorem inN {n l h : Int} (w : World) (hd : ¬ (l ≤ n ∧ n ≤ h)) :
    Calls Try.prog 28 #[.int .i64 n, .int .i64 l, .int .i64 h] w fun e w' => e = .returned (.bool false) ∧ w = w' :=
  (inRange_any n l h w).mono fun _ _ q => ⟨by rw [q.1, decide_eq_false hd], q.2⟩
set_option maxHeartbeats 1000000 in
theorem iEaten_any (w : World) (n d : Int) :
    Calls Try.prog 11 #[.int .i64 n, .int .i64 d] w fun e w' => e = .returned (.int .i64 (eaten n d)) ∧ w.grownBy w' none := by
  by_cases hn : 1 ≤ n ∧ n ≤ 100
  · by_cases hd : 0 ≤ d ∧ d ≤ 1000
    · have HI : Hid (eaten n d = n * d) := by show _ = _; unfold eaten eatenOk; rw [decide_eq_true hn, decide_eq_true hd]; rfl
      have hp := prod_bd hn hd
      have hw : IntKind.i64.wrap (n * d) = n * d := IntWalk.i64_in _ (by omega)
      go_enter Try.func11, Try.ntmps11
      go_wp2_with fail
      refine (inY _ hn).mono ?_
      rintro e w2 ⟨rfl, rfl⟩
      go_wp2_with fail
      refine (inY _ hd).mono ?_
      rintro e w2 ⟨rfl, rfl⟩
      go_wp2
      go_ret
      exact ⟨ret_i64 HI.out.symm, World.grownBy.refl _ _⟩
    · have HI : Hid (eaten n d = 0) := by show _ = _; unfold eaten eatenOk; rw [decide_eq_false hd, Bool.and_false]; rfl
      go_enter Try.func11, Try.ntmps11
      go_wp2_with fail
      refine (inY _ hn).mono ?_
      rintro e w2 ⟨rfl, rfl⟩
      go_wp2_with fail
      refine (inN _ hd).mono ?_
      rintro e w2 ⟨rfl, rfl⟩
      go_wp2
      go_ret
      exact ⟨ret_i64 HI.out.symm, World.grownBy.refl _ _⟩
  · have HI : Hid (eaten n d = 0) := by show _ = _; unfold eaten eatenOk; rw [decide_eq_false hn, Bool.false_and]; rfl
    go_enter Try.func11, Try.ntmps11
    go_wp2_with fail
    refine (inN _ hn).mono ?_
    rintro e w2 ⟨rfl, rfl⟩
    go_wp2
    go_ret
    exact ⟨ret_i64 HI.out.symm, World.grownBy.refl _ _⟩
set_option maxHeartbeats 1000000 in
theorem sEaten_any (w : World) (n d : Int) :
    Calls Try.prog 10 #[.int .i64 n, .int .i64 d] w fun e w' => e = .returned (.int .i64 (eaten n d)) ∧ w.grownBy w' none := by
  by_cases hn : 1 ≤ n ∧ n ≤ 100
  · by_cases hd : 0 ≤ d ∧ d ≤ 1000
    · have HI : Hid (eaten n d = n * d) := by show _ = _; unfold eaten eatenOk; rw [decide_eq_true hn, decide_eq_true hd]; rfl
      have hp := prod_bd hn hd
      have hw : IntKind.i64.wrap (n * d) = n * d := IntWalk.i64_in _ (by omega)
      go_enter Try.func10, Try.ntmps10
      go_wp2_with fail
      refine (l1In_yes _ hn).mono ?_
      rintro e w2 ⟨rfl, rfl⟩
      go_wp2_with fail
      refine (l1In_yes _ hd).mono ?_
      rintro e w2 ⟨rfl, rfl⟩
      go_wp2
      go_ret
      exact ⟨ret_i64 HI.out.symm, World.grownBy.refl _ _⟩
    · have HI : Hid (eaten n d = 0) := by show _ = _; unfold eaten eatenOk; rw [decide_eq_false hd, Bool.and_false]; rfl
      go_enter Try.func10, Try.ntmps10
      go_wp2_with fail
      refine (l1In_yes _ hn).mono ?_
      rintro e w2 ⟨rfl, rfl⟩
      go_wp2_with fail
      refine (l1In_no _ hd).mono ?_
      rintro e w2 ⟨rfl, rfl⟩
      go_wp2
      go_ret
      exact ⟨ret_i64 HI.out.symm, World.grownBy.refl _ _⟩
  · have HI : Hid (eaten n d = 0) := by show _ = _; unfold eaten eatenOk; rw [decide_eq_false hn, Bool.false_and]; rfl
    go_enter Try.func10, Try.ntmps10
    go_wp2_with fail
    refine (l1In_no _ hn).mono ?_
    rintro e w2 ⟨rfl, rfl⟩
    go_wp2
    go_ret
    exact ⟨ret_i64 HI.out.symm, World.grownBy.refl _ _⟩
end Go.Proofs.Ytnjlgnbhjhfohaa.EatI
