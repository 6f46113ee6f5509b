/- Contracts of an event's name, of the program and of its model. -/
import Derived.Test.YtconlnlbaimghaaDoorMBase
import Derived.Test.YtconlnlbaimghaaDoorStrT
import Derived.IntWalk
import Derived.WalkKit
namespace Go.Proofs.YtconlnlbaimghaaDoor.ENm
open Go.RowKit Kit Rw Md

def nameOf (k : Int) : ByteArray := if k = 1 then ⟨#[103, 105, 118, 101]⟩ else if k = 2 then ⟨#[103, 111]⟩ else if k = 3 then ⟨#[119, 97, 105, 116]⟩ else if k = 4 then ⟨#[104, 111, 109, 101]⟩ else if k = 5 then ⟨#[108, 97, 121]⟩ else if k = 6 then ⟨#[116, 97, 107, 101]⟩ else ⟨#[]⟩
theorem name_no {k : Int} (h : ¬ (1 ≤ k ∧ k ≤ 6)) : nameOf k = ⟨#[]⟩ := by
  unfold nameOf
  rw [if_neg (by omega), if_neg (by omega), if_neg (by omega), if_neg (by omega), if_neg (by omega), if_neg (by omega)]
def vals : Array Value := #[.string ⟨#[]⟩, .string ⟨#[103, 105, 118, 101]⟩, .string ⟨#[103, 111]⟩, .string ⟨#[119, 97, 105, 116]⟩, .string ⟨#[104, 111, 109, 101]⟩, .string ⟨#[108, 97, 121]⟩, .string ⟨#[116, 97, 107, 101]⟩]

theorem inR_any (n l h : Int) (w : World) :
    Calls Tryd.prog 34 #[.int .i64 n, .int .i64 l, .int .i64 h] w fun e w' => e = .returned (.bool (decide (l ≤ n) && decide (n ≤ h))) ∧ w = w' := by
  by_cases h1 : l ≤ n
  · go_enter Tryd.func34, Tryd.ntmps34
    go_wp2
    go_ret
    exact ⟨by simp [h1], rfl⟩
  · go_enter Tryd.func34, Tryd.ntmps34
    go_wp2
    go_ret
    exact ⟨by simp; omega, rfl⟩
theorem kind_any (k : Int) (w : World) :
    Calls Tryd.prog 39 #[.int .i64 k] w fun e w' => e = .returned (.bool (decide (1 ≤ k) && decide (k ≤ 6))) ∧ w = w' := by
  go_enter Tryd.func39, Tryd.ntmps39
  go_wp2_with fail
  refine (inR_any k 1 6 w).mono ?_
  rintro e w' ⟨rfl, rfl⟩
  go_wp2
  go_ret
  exact ⟨rfl, rfl⟩

set_option maxRecDepth 20000 in
set_option maxHeartbeats 2000000 in
theorem sName_any (w : World) (k : Int) :
    Calls Tryd.prog 18 #[.int .i64 k] w fun e w' => e = .returned (.string (nameOf k)) ∧ w.grownBy w' none := by
  by_cases h : 1 ≤ k ∧ k ≤ 6
  · have HG := Lib.hid (World.grownBy_alloc w (.cells vals 9 (0, 0)) none)
    have hin := Md.l1In_yes (n := k) (l := 1) (h := 6) w h
    obtain rfl | rfl | rfl | rfl | rfl | rfl : k = 1 ∨ k = 2 ∨ k = 3 ∨ k = 4 ∨ k = 5 ∨ k = 6 := by omega
    all_goals
      have HIN := Lib.hid hin
      clear hin h
      go_enter Tryd.func18, Tryd.ntmps18
      go_wp2_with fail
      refine HIN.out.mono ?_
      rintro e w' ⟨rfl, rfl⟩
      go_wp2
      go_ret
      exact ⟨rfl, HG.out⟩
  · have HR : Hid (nameOf k = ⟨#[]⟩) := name_no h
    have HIN := Lib.hid (Md.l1In_no (n := k) (l := 1) (h := 6) w h)
    clear h
    go_enter Tryd.func18, Tryd.ntmps18
    go_wp2_with fail
    refine HIN.out.mono ?_
    rintro e w' ⟨rfl, rfl⟩
    go_wp2
    go_ret
    exact ⟨by rw [HR.out]; rfl, World.grownBy.refl _ _⟩

set_option maxRecDepth 20000 in
set_option maxHeartbeats 2000000 in
theorem iName_any (w : World) (k : Int) (hv : ∀ i, w.cell? ⟨0, i, none⟩ = vals[i]?) :
    Calls Tryd.prog 19 #[.int .i64 k] w fun e w' => e = .returned (.string (nameOf k)) ∧ w = w' := by
  have hk := kind_any k w
  by_cases h : 1 ≤ k ∧ k ≤ 6
  · rw [show (decide (1 ≤ k) && decide (k ≤ 6)) = true by simp [h]] at hk
    obtain rfl | rfl | rfl | rfl | rfl | rfl : k = 1 ∨ k = 2 ∨ k = 3 ∨ k = 4 ∨ k = 5 ∨ k = 6 := by omega
    all_goals
      have HK := Lib.hid hk
      have c1 := hv 1
      have c2 := hv 2
      have c3 := hv 3
      have c4 := hv 4
      have c5 := hv 5
      have c6 := hv 6
      simp only [vals, List.getElem?_toArray, List.getElem?_cons_succ, List.getElem?_cons_zero] at c1 c2 c3 c4 c5 c6
      clear hk h hv
      go_enter Tryd.func19, Tryd.ntmps19
      go_wp2_with fail
      refine HK.out.mono ?_
      rintro e w' ⟨rfl, rfl⟩
      go_wp2
      go_ret
      exact ⟨rfl, rfl⟩
  · rw [show (decide (1 ≤ k) && decide (k ≤ 6)) = false by simp; omega] at hk
    have HR : Hid (nameOf k = ⟨#[]⟩) := name_no h
    have HK := Lib.hid hk
    clear h hk hv
    go_enter Tryd.func19, Tryd.ntmps19
    go_wp2_with fail
    refine HK.out.mono ?_
    rintro e w' ⟨rfl, rfl⟩
    go_wp2
    go_ret
    exact ⟨by rw [HR.out]; rfl, rfl⟩
end Go.Proofs.YtconlnlbaimghaaDoor.ENm
