/- Contracts of AddDay, of the worst weather's closure and of WorstDays. Contracts of the model's WorstDays and of the program's AddDay. Contracts of the program's Min and Max, for every two arguments. Contract of the program's AddDay. Contracts of the laws' helper on rules, and of the counts, as frames. -/
import Derived.Test.YtoanhnklemlfmaaDoorG14
import Derived.Test.YtoanhnklemlfmaaDoorMBase
import Derived.WalkKit
namespace Go.Proofs.YtoanhnklemlfmaaDoor.StI
open Go.RowKit Kit Rw Rg Stm Md StormS

theorem worst_int {m n : Nat} {L : List Bool} {k : Nat} (hk : k ≤ 200) : (worst m n L k : Int) ≤ 4010 := by
  have := worst_le m n L k; omega

end Go.Proofs.YtoanhnklemlfmaaDoor.StI

namespace Go.Proofs.YtoanhnklemlfmaaDoor.StI
open Go.RowKit Kit Rw Rg Stm Md StormS

def slen : Value → Nat
  | .slice _ n _ => n
  | _ => 0
end Go.Proofs.YtoanhnklemlfmaaDoor.StI

namespace Go.Proofs.YtoanhnklemlfmaaDoor.Mn
open Go.RowKit Kit Rw
def least (a b : Int) : Int := if b < a then b else a
theorem least_lt {a b : Int} (h : b < a) : least a b = b := by unfold least; rw [if_pos h]
theorem least_ge {a b : Int} (h : a ≤ b) : least a b = a := by unfold least; rw [if_neg (by omega)]

set_option maxHeartbeats 400000 in
theorem foremost_min (a b : Int) (w : World) (p : Addr) (hc : w.cell? p = some (.int .i64 b)) :
    Calls Tryd.prog 151 #[.func (.func 153) #[] #[], .int .i64 a, .slice (some p) 1 1] w fun e w' => e = .returned (.int .i64 (least a b)) ∧ w = w' := by
  go_enter Tryd.func151, Tryd.ntmps151
  go_wp2
  go_loop [7, 13] (fun v i => (i = .int .i64 0 ∧ v = .int .i64 a) ∨ (i = .int .i64 1 ∧ v = .int .i64 (least a b))) (fun _ i => 1 - (intOf i).toNat)
  case atStart => exact Or.inl ⟨rfl, rfl⟩
  case round =>
    rcases hrel with ⟨rfl, rfl⟩ | ⟨rfl, rfl⟩
    · by_cases h : b < a
      · go_wp2
        go_round
        case rel => exact Or.inr ⟨rfl, by rw [least_lt (by omega)]⟩
        case measure => simp [intOf]
      · go_wp2
        go_round
        case rel => exact Or.inr ⟨rfl, by rw [least_ge (by omega)]⟩
        case measure => simp [intOf]
    · go_wp2
      go_ret
      exact ⟨rfl, rfl⟩

theorem min_any (a b : Int) (w : World) :
    Calls Tryd.prog 142 #[.int .i64 a, .int .i64 b] w fun e w' => e = .returned (.int .i64 (least a b)) ∧ w.grownBy w' none := by
  have hc : (w.alloc (.cells #[.int .i64 b] 3)).cell? ⟨w.heap.size, 0, none⟩ = some (.int .i64 b) := by go_simp
  go_enter Tryd.func142, Tryd.ntmps142
  go_wp2_with (go_at_call 151; refine (foremost_min _ _ _ _ hc).mono ?_; rintro e w' ⟨rfl, rfl⟩)
  go_ret
  exact ⟨rfl, World.grownBy_alloc _ _ _⟩
def most (a b : Int) : Int := if a < b then b else a
theorem most_gt {a b : Int} (h : a < b) : most a b = b := by unfold most; rw [if_pos h]
theorem most_le {a b : Int} (h : b ≤ a) : most a b = a := by unfold most; rw [if_neg (by omega)]
set_option maxHeartbeats 400000 in
theorem foremost_max (a b : Int) (w : World) (p : Addr) (hc : w.cell? p = some (.int .i64 b)) :
    Calls Tryd.prog 151 #[.func (.func 152) #[] #[], .int .i64 a, .slice (some p) 1 1] w fun e w' => e = .returned (.int .i64 (most a b)) ∧ w = w' := by
  go_enter Tryd.func151, Tryd.ntmps151
  go_wp2
  go_loop [7, 13] (fun v i => (i = .int .i64 0 ∧ v = .int .i64 a) ∨ (i = .int .i64 1 ∧ v = .int .i64 (most a b))) (fun _ i => 1 - (intOf i).toNat)
  case atStart => exact Or.inl ⟨rfl, rfl⟩
  case round =>
    rcases hrel with ⟨rfl, rfl⟩ | ⟨rfl, rfl⟩
    · by_cases h : a < b
      · go_wp2
        go_round
        case rel => exact Or.inr ⟨rfl, by rw [most_gt (by omega)]⟩
        case measure => simp [intOf]
      · go_wp2
        go_round
        case rel => exact Or.inr ⟨rfl, by rw [most_le (by omega)]⟩
        case measure => simp [intOf]
    · go_wp2
      go_ret
      exact ⟨rfl, rfl⟩

theorem max_any (a b : Int) (w : World) :
    Calls Tryd.prog 141 #[.int .i64 a, .int .i64 b] w fun e w' => e = .returned (.int .i64 (most a b)) ∧ w.grownBy w' none := by
  have hc : (w.alloc (.cells #[.int .i64 b] 3)).cell? ⟨w.heap.size, 0, none⟩ = some (.int .i64 b) := by go_simp
  go_enter Tryd.func141, Tryd.ntmps141
  go_wp2_with (go_at_call 151; refine (foremost_max _ _ _ _ hc).mono ?_; rintro e w' ⟨rfl, rfl⟩)
  go_ret
  exact ⟨rfl, World.grownBy_alloc _ _ _⟩
end Go.Proofs.YtoanhnklemlfmaaDoor.Mn

namespace Go.Proofs.YtoanhnklemlfmaaDoor.StI
open Go.RowKit Kit Rw Rg Stm Md StormS Mn

end Go.Proofs.YtoanhnklemlfmaaDoor.StI

namespace Go.Proofs.YtoanhnklemlfmaaDoor.RuleL
open Go.RowKit Kit Rw Rg Stm StormS StI

theorem sStormsG (w : World) (v : Value) (L : List Bool) (hv : SeesG encB w v L) :
    Calls Tryd.prog 97 #[v] w fun e w' => e = .returned (.int .i64 (storms L)) ∧ w.grownBy w' none :=
  (sStorms_any w v L hv).mono fun e w' h => ⟨h.1, by rw [← h.2]; exact World.grownBy.refl _ _⟩
theorem iStormsG (w : World) (v : Value) (L : List Bool) (hv : SeesG encB w v L) :
    Calls Tryd.prog 100 #[v] w fun e w' => e = .returned (.int .i64 (storms L)) ∧ w.grownBy w' none :=
  (iStorms_any w v L hv).mono fun e w' h => ⟨h.1, by rw [← h.2]; exact World.grownBy.refl _ _⟩

set_option maxHeartbeats 400000 in
theorem toRule_any (w : World) (m n : Int) :
    Calls Tryd.prog 89 #[.agg #[.int .i64 m, .int .i64 n]] w fun e w' => e = .returned (.agg #[.int .i64 m, .int .i64 n]) ∧ w.grownBy w' none := by
  have b1 := (box_new (w.alloc (.cells #[.int .i64 m, .int .i64 n] 66 (0, 0))) #[.int .i64 m, .int .i64 n] 71).grown (World.grownBy_alloc _ (.cells #[.int .i64 m, .int .i64 n] 71 (0, 0)) none)
  simp only [World.size_alloc] at b1
  have HG := Lib.hid (grownN_trans (grownN_trans (World.grownBy_alloc w (.cells #[.int .i64 m, .int .i64 n] 66 (0, 0)) none) (World.grownBy_alloc _ (.cells #[.int .i64 m, .int .i64 n] 71 (0, 0)) none)) (World.grownBy_alloc _ (.cells #[.int .i64 m, .int .i64 n] 71 (0, 0)) none))
  obtain ⟨c0, c1⟩ := two b1
  clear b1
  go_enter Tryd.func89, Tryd.ntmps89
  go_wp2
  refine bodyPost_ret (v := .agg #[.int .i64 m, .int .i64 n]) ?_ rfl ⟨rfl, HG.out⟩
  simp [results, Tryd.results89, go_sem, c0, c1]
end Go.Proofs.YtoanhnklemlfmaaDoor.RuleL
