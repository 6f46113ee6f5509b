/- What the law FnTides needs: plain facts, and the tides' functions over a tide in a box. -/
import Derived.Test.YtkbgbllcekmfcaaTideE
import Derived.Test.YtkbgbllcekmfcaaTideL
namespace Go.Proofs.Ytkbgbllcekmfcaa.TideQ
open Go.RowKit Kit Rw Tid Tw TideI

/-- How many of the first k hours from 7 on are dry. -/
def dryCnt (h w : Int) : Nat → Nat
  | 0 => 0
  | k + 1 => dryCnt h w k + if isDry h w (7 + k) = true then 1 else 0
theorem dryCnt_le (h w : Int) : ∀ k, dryCnt h w k ≤ k
  | 0 => Nat.le_refl _
  | k + 1 => by have := dryCnt_le h w k; show dryCnt h w k + _ ≤ _; split <;> omega
theorem dryCnt_yes {h w : Int} {k : Nat} (e : isDry h w (7 + k) = true) : dryCnt h w (k + 1) = dryCnt h w k + 1 := by show dryCnt h w k + _ = _; rw [if_pos e]
theorem dryCnt_no {h w : Int} {k : Nat} (e : isDry h w (7 + k) = false) : dryCnt h w (k + 1) = dryCnt h w k := by show dryCnt h w k + _ = _; rw [e]; rfl
theorem dryCnt_none {h w : Int} (ht : isTide h w = false) : ∀ k, dryCnt h w k = 0
  | 0 => rfl
  | k + 1 => by rw [dryCnt_no (isDry_no (by unfold dryOk; rw [ht]; rfl)), dryCnt_none ht k]
set_option maxRecDepth 100000 in
theorem dry_fin : ∀ (a : Fin 12) (b : Fin 6), (dryCnt (a.val : Int) (b.val : Int) 12 : Int) = dryHours (a.val : Int) (b.val : Int) := by decide
theorem dry_all (h w : Int) : (dryCnt h w 12 : Int) = dryHours h w := by
  cases ht : isTide h w
  · rw [dryCnt_none ht]; unfold dryHours; rw [ht]; rfl
  · have hy := tide_yes ht
    have := dry_fin ⟨h.toNat, by omega⟩ ⟨w.toNat, by omega⟩
    simp only [Int.toNat_of_nonneg hy.1.1, Int.toNat_of_nonneg hy.2.1] at this
    exact this
theorem next_cases (h w n : Int) : nextDry h w n = -1 ∨ (dryOk h w n = true ∧ 0 ≤ n ∧ n ≤ nextDry h w n ∧ nextDry h w n ≤ n + 11 ∧ (nextDry h w n ≤ 100000 → isDry h w (nextDry h w n) = true) ∧ ∀ k, n ≤ k → k < nextDry h w n → isDry h w k = false) := by
  by_cases e : dryOk h w n = true
  · obtain ⟨h0, h1, h2⟩ := next_range e
    obtain ⟨ht, hn0, hn1⟩ := dryOk_yes e
    refine .inr ⟨e, hn0, h0, h1, fun h3 => ?_, fun k h3 h4 => ?_⟩
    · rw [isDry_of (dryOk_mk ht (by omega) h3), h2]; rfl
    · by_cases h5 : k ≤ 100000
      · rw [isDry_of (dryOk_mk ht (by omega) h5), next_first e h3 h4]; rfl
      · exact isDry_no (by unfold dryOk; rw [decide_eq_false (fun h => h5 h.2), Bool.and_false])
  · exact .inl (by unfold nextDry; rw [if_neg e])
theorem cross_cases (h w n l : Int) : nextCross h w n l = -1 ∨ ((0 ≤ n ∧ n ≤ 90000) ∧ n ≤ nextCross h w n l ∧ nextCross h w n l ≤ n + 12 ∧ (0 ≤ l ∧ l ≤ 100) ∧ canCross h w (nextCross h w n l) l = true ∧ isDry h w (nextCross h w n l) = true ∧ isDry h w (nextCross h w n l + l) = true) := by
  by_cases e : startOk n = true
  · have hs : 0 ≤ n ∧ n ≤ 90000 := by simpa [startOk] using e
    have hx : nextCross h w n l = firstOf (fun x => canCross h w x l) n 13 := by unfold nextCross; rw [if_pos e]
    rcases firstOf_range (f := fun x => canCross h w x l) 13 n with h1 | ⟨h1, h2, h3⟩
    · exact .inl (by rw [hx, h1])
    · rw [← hx] at h1 h2 h3
      obtain ⟨hl, hd⟩ := cross_yes h3
      have d0 := dryFor_at hd 0 (by omega)
      have d1 := dryFor_at hd l.toNat (by omega)
      rw [show nextCross h w n l + ((0 : Nat) : Int) = nextCross h w n l by omega] at d0
      rw [Int.toNat_of_nonneg hl.1] at d1
      exact .inr ⟨hs, h1, by omega, hl, h3, d0, d1⟩
  · exact .inl (by unfold nextCross; rw [if_neg e])

/-- A tide in its block. -/
structure TQ (w wx : World) (B : Nat) (x y : Int) : Prop where
  box : Box wx B #[.int .i64 x, .int .i64 y] 25
  grown : w.grownBy wx none
section
variable {w wx wy : World} {B : Nat} {x y : Int}
theorem TQ.on (h : TQ w wx B x y) (hg : wx.grownBy wy none) : TQ w wy B x y := ⟨h.box.grown hg, grownN_trans h.grown hg⟩
theorem TQ.start (hg : w.grownBy wx none) : TQ w (wx.alloc (.cells #[.int .i64 x, .int .i64 y] 25 (0, 0))) wx.heap.size x y := ⟨box_new _ _ _, grownN_trans hg (World.grownBy_alloc _ _ none)⟩
theorem dryQ (h : TQ w wx B x y) {k : Int} {b : Bool} (hb : isDry x y k = b) :
    Calls Try.prog 16 #[.agg #[.int .i64 x, .int .i64 y], .int .i64 k] wx fun e w' => e = .returned (.bool b) ∧ TQ w w' B x y :=
  (iDry_any wx x y k).mono fun _ _ q => ⟨by rw [q.1, hb], h.on q.2⟩
theorem crossQ (h : TQ w wx B x y) {k l : Int} {b : Bool} (hk : -9223372036854775808 ≤ k ∧ k ≤ 9223372036854775807) (hb : canCross x y k l = b) :
    Calls Try.prog 20 #[.agg #[.int .i64 x, .int .i64 y], .int .i64 k, .int .i64 l] wx fun e w' => e = .returned (.bool b) ∧ TQ w w' B x y :=
  (iCross_any wx x y k l hk).mono fun _ _ q => ⟨by rw [q.1, hb], h.on q.2⟩
end
end Go.Proofs.Ytkbgbllcekmfcaa.TideQ
