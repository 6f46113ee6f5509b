/- Plain facts on crews: no program. Contracts of the model's functions of chapter 7. -/
import Derived.Test.YtbjnbaddbanhbaaGreatG1
import Derived.Test.YtbjnbaddbanhbaaGreatG3
import Derived.IntWalk
import Derived.Deep.QuietTactic
import Derived.BigQuiet
namespace Go.Proofs.YtbjnbaddbanhbaaGreat.Crw
open Rg

def okMem (m : Mem) : Bool := decide (1 ≤ m.id ∧ m.id ≤ 99) && (decide (0 ≤ m.str ∧ m.str ≤ 100) && decide (1 ≤ m.need ∧ m.need ≤ 10))
def dM : Mem := ⟨0, 0, 0, false⟩
/-- The first j members are valid, and ascend. -/
def upTo (L : List Mem) (j : Nat) : Prop := ∀ i, i < j → okMem (L.getD i dM) = true ∧ (0 < i → (L.getD (i - 1) dM).id < (L.getD i dM).id)
instance (L : List Mem) (j : Nat) : Decidable (upTo L j) := by unfold upTo; infer_instance
def areCrew (L : List Mem) : Bool := decide (1 ≤ L.length ∧ L.length ≤ 8) && decide (upTo L L.length)
theorem upTo_zero (L : List Mem) : upTo L 0 := fun i h => absurd h (Nat.not_lt_zero _)
theorem upTo_next {L : List Mem} {j : Nat} (h : upTo L j) (h1 : okMem (L.getD j dM) = true) (h2 : 0 < j → (L.getD (j - 1) dM).id < (L.getD j dM).id) : upTo L (j + 1) := fun i hi => by
  by_cases h' : i < j
  · exact h i h'
  · obtain rfl : i = j := by omega
    exact ⟨h1, h2⟩
theorem upTo_down {L : List Mem} {j k : Nat} (h : upTo L k) (hj : j ≤ k) : upTo L j := fun i hi => h i (by omega)
theorem crew_yes {L : List Mem} (h1 : 1 ≤ L.length ∧ L.length ≤ 8) (h2 : upTo L L.length) : areCrew L = true := by
  unfold areCrew; rw [decide_eq_true h1, decide_eq_true h2]; rfl
theorem crew_long {L : List Mem} (h1 : ¬ (1 ≤ L.length ∧ L.length ≤ 8)) : areCrew L = false := by
  unfold areCrew; rw [decide_eq_false h1]; rfl
theorem crew_bad {L : List Mem} {j : Nat} (hj : j < L.length) (h : okMem (L.getD j dM) = false ∨ (0 < j ∧ ¬ (L.getD (j - 1) dM).id < (L.getD j dM).id)) : areCrew L = false := by
  unfold areCrew
  have : ¬ upTo L L.length := fun hu => by
    have := hu j hj
    rcases h with h | ⟨h0, h⟩
    · rw [this.1] at h; cases h
    · exact h (this.2 h0)
  rw [decide_eq_false this, Bool.and_false]
theorem crew_len {L : List Mem} (h : areCrew L = true) : 1 ≤ L.length ∧ L.length ≤ 8 := by
  unfold areCrew at h; simp only [Bool.and_eq_true, decide_eq_true_eq] at h; exact h.1
theorem crew_up {L : List Mem} (h : areCrew L = true) : upTo L L.length := by
  unfold areCrew at h; simp only [Bool.and_eq_true, decide_eq_true_eq] at h; exact h.2
theorem ok_of {m : Mem} (h : okMem m = true) : (1 ≤ m.id ∧ m.id ≤ 99) ∧ (0 ≤ m.str ∧ m.str ≤ 100) ∧ (1 ≤ m.need ∧ m.need ≤ 10) := by
  unfold okMem at h; simp only [Bool.and_eq_true, decide_eq_true_eq] at h; exact ⟨h.1, h.2.1, h.2.2⟩
theorem crew_at {L : List Mem} (h : areCrew L = true) {j : Nat} (hj : j < L.length) : (1 ≤ (L.getD j dM).id ∧ (L.getD j dM).id ≤ 99) ∧ (0 ≤ (L.getD j dM).str ∧ (L.getD j dM).str ≤ 100) ∧ (1 ≤ (L.getD j dM).need ∧ (L.getD j dM).need ≤ 10) := ok_of ((crew_up h) j hj).1
theorem up_lt {L : List Mem} {n : Nat} (h : upTo L n) : ∀ {j i : Nat}, i < j → j < n → (L.getD i dM).id < (L.getD j dM).id
  | 0, i, hi, _ => by omega
  | j + 1, i, hi, hj => by
    have h1 := (h (j + 1) hj).2 (by omega)
    rw [Nat.add_sub_cancel] at h1
    by_cases e : i = j
    · subst e; exact h1
    · exact Int.lt_trans (up_lt h (by omega) (by omega)) h1

/-- Sums over the first members. -/
def sumTo (f : Mem → Int) (L : List Mem) (j : Nat) : Int := ((L.take j).map f).sum
theorem sumTo_zero (f : Mem → Int) (L : List Mem) : sumTo f L 0 = 0 := by simp [sumTo]
theorem sumTo_next {f : Mem → Int} {L : List Mem} {j : Nat} (hj : j < L.length) : sumTo f L (j + 1) = sumTo f L j + f (L.getD j dM) := by
  unfold sumTo
  rw [List.take_add_one, List.map_append, List.sum_append]
  congr 1
  simp [hj]
def eats (m : Mem) : Int := m.need
def carries (m : Mem) : Int := if m.ill = true then 0 else m.str
def needOf (L : List Mem) : Int := if areCrew L = true then sumTo eats L L.length else 0
def capOf (L : List Mem) : Int := if areCrew L = true then sumTo carries L L.length else 0
theorem sumTo_bound {f : Mem → Int} {L : List Mem} (b : Int) (hb : 0 ≤ b) (h : ∀ j, j < L.length → 0 ≤ f (L.getD j dM) ∧ f (L.getD j dM) ≤ b) : ∀ j, j ≤ L.length → 0 ≤ sumTo f L j ∧ sumTo f L j ≤ j * b
  | 0, _ => by rw [sumTo_zero]; simp
  | j + 1, hj => by
    have h1 := sumTo_bound b hb h j (by omega)
    have h2 := h j (by omega)
    rw [sumTo_next (by omega), show ((j + 1 : Nat) : Int) * b = j * b + b by rw [Int.natCast_add, Int.add_mul]; simp]
    omega
theorem eats_at {L : List Mem} (h : areCrew L = true) {j : Nat} (hj : j < L.length) : 0 ≤ eats (L.getD j dM) ∧ eats (L.getD j dM) ≤ 100 := by
  have := crew_at h hj; unfold eats; omega
theorem carries_at {L : List Mem} (h : areCrew L = true) {j : Nat} (hj : j < L.length) : 0 ≤ carries (L.getD j dM) ∧ carries (L.getD j dM) ≤ 100 := by
  have := crew_at h hj; unfold carries; split <;> omega
theorem sum_small {f : Mem → Int} {L : List Mem} (h : areCrew L = true) (hf : ∀ j, j < L.length → 0 ≤ f (L.getD j dM) ∧ f (L.getD j dM) ≤ 100) {j : Nat} (hj : j ≤ L.length) : 0 ≤ sumTo f L j ∧ sumTo f L j ≤ 800 := by
  have h1 := sumTo_bound 100 (by omega) hf j hj
  have h2 := crew_len h
  omega
theorem needOf_bound (L : List Mem) : 0 ≤ needOf L ∧ needOf L ≤ 800 := by
  unfold needOf
  split
  · rename_i h; exact sum_small h (fun j hj => eats_at h hj) (Nat.le_refl _)
  · omega
theorem capOf_bound (L : List Mem) : 0 ≤ capOf L ∧ capOf L ≤ 800 := by
  unfold capOf
  split
  · rename_i h; exact sum_small h (fun j hj => carries_at h hj) (Nat.le_refl _)
  · omega
theorem needOf_pos {L : List Mem} (h : areCrew L = true) : 0 < needOf L := by
  have hl := crew_len h
  unfold needOf
  rw [if_pos h]
  have h1 := sumTo_next (f := eats) (L := L) (j := 0) (by omega)
  have h2 := crew_at h (j := 0) (by omega)
  have : ∀ k, 1 ≤ k → k ≤ L.length → 0 < sumTo eats L k := by
    intro k hk
    induction k with
    | zero => omega
    | succ k ih =>
      intro hle
      rw [sumTo_next (by omega)]
      have h3 := eats_at h (j := k) (by omega)
      by_cases e : k = 0
      · subst e; rw [sumTo_zero]; unfold eats; omega
      · have := ih (by omega) (by omega); omega
  exact this _ hl.1 (Nat.le_refl _)
theorem needOf_zero {L : List Mem} (h : areCrew L = false) : needOf L = 0 := by unfold needOf; rw [h]; rfl
theorem capOf_zero {L : List Mem} (h : areCrew L = false) : capOf L = 0 := by unfold capOf; rw [h]; rfl

def setOne (id : Int) (ill : Bool) (m : Mem) : Mem := if m.id = id then { m with ill := ill } else m
def hasId (L : List Mem) (id : Int) : Bool := L.any (fun m => decide (m.id = id))
/-- What becomes of the first j members. -/
def setTo (L : List Mem) (id : Int) (ill : Bool) (j : Nat) : List Mem := (L.map (setOne id ill)).take j ++ L.drop j
def setIll (L : List Mem) (id : Int) (ill : Bool) : List Mem := if areCrew L = true then L.map (setOne id ill) else L
def setOk (L : List Mem) (id : Int) : Bool := areCrew L && hasId L id

def healthy (L : List Mem) : List Int := (L.filter (fun m => !m.ill)).map (·.id)
theorem healthy_next {L : List Mem} {j : Nat} (hj : j < L.length) : healthy (L.take (j + 1)) = healthy (L.take j) ++ (if (L.getD j dM).ill = true then [] else [(L.getD j dM).id]) := by
  unfold healthy
  rw [List.take_add_one, List.filter_append, List.map_append]
  congr 1
  have : L[j]? = some (L.getD j dM) := by simp [hj]
  rw [this, Option.toList_some]
  generalize L.getD j dM = x
  cases h : x.ill <;> simp [h]
theorem healthy_len (L : List Mem) : (healthy L).length ≤ L.length := by
  unfold healthy; rw [List.length_map]; exact List.length_filter_le _ _

/-- The place of the strongest of the first j who are well; -1: none. -/
def best (L : List Mem) : Nat → Int
  | 0 => -1
  | j + 1 => if (L.getD j dM).ill = false ∧ (best L j < 0 ∨ (L.getD (best L j).toNat dM).str < (L.getD j dM).str) then (j : Int) else best L j
theorem best_lt (L : List Mem) : ∀ j, -1 ≤ best L j ∧ best L j < j
  | 0 => by simp [best]
  | j + 1 => by
    have := best_lt L j
    unfold best; split <;> omega
def strongest (L : List Mem) : Int := if best L L.length < 0 then 0 else (L.getD (best L L.length).toNat dM).id
end Go.Proofs.YtbjnbaddbanhbaaGreat.Crw

namespace Go.Proofs.YtbjnbaddbanhbaaGreat.CrS
open Go.RowKit Kit Rw Rg Crw Md

theorem quietly {P : Program} {f : FuncId} {args : Array Value} {w : World} {v : Value} (h : Calls P f args w fun e w' => e = .returned v ∧ w = w') : Calls P f args w fun e w' => e = .returned v ∧ w' = w := h.mono fun _ _ h => ⟨h.1, h.2.symm⟩
def inb (n l h : Int) : Bool := decide (l ≤ n ∧ n ≤ h)
theorem l1In_b (n l h : Int) (w : World) : Calls Tryz.prog 101 #[.int .i64 n, .int .i64 l, .int .i64 h] w fun e w' => e = .returned (.bool (inb n l h)) ∧ w' = w := quietly (l1In_any n l h w)
/-- The cells of one member, in a world that has grown. -/
theorem atM_grown {w wr : World} {b o n cap : Nat} {L : List Mem} (h : SeesG encM w (.slice (some ⟨b, o, none⟩) n cap) L) (hg : w.grownBy wr none) {j : Nat} (hj : j < L.length) {x : Mem} (hx : L.getD j dM = x) :
    wr.cell? ⟨b, o + j * 4, none⟩ = some (.int .i64 x.id) ∧ wr.cell? ⟨b, o + j * 4 + 1, none⟩ = some (.int .i64 x.str) ∧ wr.cell? ⟨b, o + j * 4 + 2, none⟩ = some (.int .i64 x.need) ∧ wr.cell? ⟨b, o + j * 4 + 3, none⟩ = some (.bool x.ill) := by
  obtain ⟨e0, e1, e2, e3⟩ := (h.grown hg).atM hj
  rw [show (⟨0, 0, 0, false⟩ : Mem) = dM from rfl, hx] at e0 e1 e2 e3
  simp only [Nat.add_assoc] at e1 e2 e3 ⊢
  exact ⟨e0, e1, e2, e3⟩

set_option maxRecDepth 20000 in
set_option maxHeartbeats 1000000 in
theorem sAreCrew_any (w : World) (v : Value) (L : List Mem) (hv : SeesG encM w v L) :
    Calls Tryz.prog 154 #[v] w fun e w' => e = .returned (.bool (areCrew L)) ∧ w.grownBy w' none := by
  have hl := hv.len
  have HV := Lib.hid hv
  obtain ⟨a, cap, rfl, _⟩ := hv
  go_enter Tryz.func154, Tryz.ntmps154
  go_wp2
  go_loopw [3] (fun i wr => ∃ j : Nat, j ≤ L.length ∧ i = .int .i64 j ∧ Hid (upTo L j) ∧ Hid (w.grownBy wr none)) (fun i _ => L.length - (intOf i).toNat)
  case atStart => exact ⟨0, Nat.zero_le _, rfl, upTo_zero L, World.grownBy.refl _ _⟩
  case round =>
    obtain ⟨j, hj, rfl, HU, HG⟩ := hrel
    by_cases hlt : j < L.length
    · obtain ⟨b, o, rfl, _, _⟩ := HV.out.at_row hlt
      obtain ⟨x, hx⟩ : ∃ x, L.getD j dM = x := ⟨_, rfl⟩
      obtain ⟨d0, d1, d2, d3⟩ := atM_grown HV.out HG.out hlt hx
      have HX := Lib.hid hx
      clear hx
      obtain ⟨xi, xs, xn, xb⟩ := x
      dsimp only at d0 d1 d2 d3
      by_cases hA : 1 ≤ xi ∧ xi ≤ 99
      · by_cases hB : 0 ≤ xs ∧ xs ≤ 100
        · by_cases hC : 1 ≤ xn ∧ xn ≤ 10
          · have HOK : Hid (okMem (L.getD j dM) = true) := by show _ = _; rw [HX.out]; unfold okMem; rw [decide_eq_true hA, decide_eq_true hB, decide_eq_true hC]; rfl
            have h0 : inb xi 1 99 = true := decide_eq_true hA
            have h1 : inb xs 0 100 = true := decide_eq_true hB
            have h2 : inb xn 1 10 = true := decide_eq_true hC
            by_cases h0 : j = 0
            · have hj0 : (j : Int) ≤ 0 := by omega
              have hjd : decide (0 < j) = false := decide_eq_false (by omega)
              have HU2 : Hid (upTo L (j + 1)) := upTo_next HU.out HOK.out (fun h => absurd h (by omega))
              clear hA hB hC h0
              go_wp2
              go_quiet (first | (go_at_call 101; refine Calls.quiet_of_same (l1In_b _ _ _ _)))
              go_wp2
              go_roundw
              case rel => exact ⟨j + 1, by omega, by go_num, HU2, grown_drewN HG.out _⟩
              case measure => simp [intOf]; omega
            · obtain ⟨y, hy⟩ : ∃ y, L.getD (j - 1) dM = y := ⟨_, rfl⟩
              have hk : j - 1 < L.length := by omega
              obtain ⟨k, hkk⟩ : ∃ k, k = j - 1 := ⟨_, rfl⟩
              have hki : (j : Int) - 1 = k := by omega
              rw [← hkk] at hy hk
              obtain ⟨f0, _, _, _⟩ := atM_grown HV.out HG.out hk hy
              have HY := Lib.hid hy
              have HKK := Lib.hid hkk
              clear hy hkk
              obtain ⟨yi, ys, yn, yb⟩ := y
              dsimp only at f0
              have hj0 : (0 : Int) < j := by omega
              have hjd : decide (0 < j) = true := decide_eq_true (by omega)
              clear hA hB hC
              by_cases hq : yi < xi
              · have HU2 : Hid (upTo L (j + 1)) := upTo_next HU.out HOK.out (fun _ => by rw [HX.out, ← HKK.out, HY.out]; exact hq)
                go_wp2
                go_quiet (first | (go_at_call 101; refine Calls.quiet_of_same (l1In_b _ _ _ _)))
                go_wp2
                go_roundw
                case rel => exact ⟨j + 1, by omega, by go_num, HU2, grown_drewN HG.out _⟩
                case measure => simp [intOf]; omega
              · have HR : Hid (areCrew L = false) := crew_bad hlt (by right; rw [HX.out, ← HKK.out, HY.out]; exact ⟨by omega, hq⟩)
                go_wp2
                go_quiet (first | (go_at_call 101; refine Calls.quiet_of_same (l1In_b _ _ _ _)))
                go_wp2
                go_ret
                exact ⟨ret_bool HR.out.symm, grown_drewN HG.out _⟩
          · skip
            have HR : Hid (areCrew L = false) := crew_bad hlt (by left; rw [HX.out]; unfold okMem; rw [decide_eq_true hA, decide_eq_true hB, decide_eq_false hC]; rfl)
            have h0 : inb xi 1 99 = true := decide_eq_true hA
            have h1 : inb xs 0 100 = true := decide_eq_true hB
            have h2 : inb xn 1 10 = false := decide_eq_false hC
            clear hA hB hC
            go_wp2
            go_quiet (first | (go_at_call 101; refine Calls.quiet_of_same (l1In_b _ _ _ _)))
            go_wp2
            go_ret
            exact ⟨ret_bool HR.out.symm, grown_drewN HG.out _⟩
        · skip
          have HR : Hid (areCrew L = false) := crew_bad hlt (by left; rw [HX.out]; unfold okMem; rw [decide_eq_true hA, decide_eq_false hB]; simp)
          have h0 : inb xi 1 99 = true := decide_eq_true hA
          have h1 : inb xs 0 100 = false := decide_eq_false hB
          clear hA hB
          go_wp2
          go_quiet (first | (go_at_call 101; refine Calls.quiet_of_same (l1In_b _ _ _ _)))
          go_wp2
          go_ret
          exact ⟨ret_bool HR.out.symm, grown_drewN HG.out _⟩
      · skip
        have HR : Hid (areCrew L = false) := crew_bad hlt (by left; rw [HX.out]; unfold okMem; rw [decide_eq_false hA]; simp)
        have h0 : inb xi 1 99 = false := decide_eq_false hA
        clear hA
        go_wp2
        go_quiet (first | (go_at_call 101; refine Calls.quiet_of_same (l1In_b _ _ _ _)))
        go_wp2
        go_ret
        exact ⟨ret_bool HR.out.symm, grown_drewN HG.out _⟩
    · have : j = L.length := by omega
      subst this
      have hs := fun w => l1In_any (L.length : Int) 1 8 w
      by_cases hq : 1 ≤ L.length ∧ L.length ≤ 8
      · have HR : Hid (areCrew L = true) := crew_yes hq HU.out
        rw [decide_eq_true (show (1 : Int) ≤ L.length ∧ (L.length : Int) ≤ 8 by omega)] at hs
        have HS := Lib.hid hs
        clear hs hq
        go_wp2_with (go_at_call 101; refine (HS.out _).mono ?_; rintro e w3 ⟨rfl, rfl⟩)
        go_ret
        exact ⟨ret_bool HR.out.symm, HG.out⟩
      · have HR : Hid (areCrew L = false) := crew_long hq
        rw [decide_eq_false (show ¬ ((1 : Int) ≤ L.length ∧ (L.length : Int) ≤ 8) by omega)] at hs
        have HS := Lib.hid hs
        clear hs hq
        go_wp2_with (go_at_call 101; refine (HS.out _).mono ?_; rintro e w3 ⟨rfl, rfl⟩)
        go_ret
        exact ⟨ret_bool HR.out.symm, HG.out⟩

set_option maxRecDepth 20000 in
set_option maxHeartbeats 800000 in
theorem sNeedOf_any (w : World) (v : Value) (L : List Mem) (hv : SeesG encM w v L) :
    Calls Tryz.prog 123 #[v] w fun e w' => e = .returned (.int .i64 (needOf L)) ∧ w.grownBy w' none := by
  have hl := hv.len
  have HV := Lib.hid hv
  have HA := Lib.hid (fun w hv => sAreCrew_any w v L hv)
  obtain ⟨a, cap, rfl, _⟩ := hv
  cases hc : areCrew L
  · have HZ := Lib.hid (needOf_zero hc)
    rw [hc] at HA
    clear hc
    go_enter Tryz.func123, Tryz.ntmps123
    go_wp2
    go_loopw [3, 4] (fun s i wr => s = .int .i64 0 ∧ i = .int .i64 0 ∧ Hid (w.grownBy wr none)) (fun _ _ _ => 0)
    case atStart => exact ⟨rfl, rfl, World.grownBy.refl _ _⟩
    case round =>
      obtain ⟨rfl, rfl, HG⟩ := hrel
      by_cases h0 : 0 < L.length
      · go_wp2_with (go_at_call 154; refine (HA.out _ (HV.out.grown HG.out)).mono ?_; rintro e w3 ⟨rfl, hg⟩; have HG3 := Lib.hid (grownN_trans HG.out hg); clear hg)
        go_ret
        exact ⟨ret_i64 HZ.out.symm, HG3.out⟩
      · go_wp2
        go_ret
        exact ⟨ret_i64 HZ.out.symm, HG.out⟩
  · have HF : Hid (needOf L = sumTo eats L L.length) := by show _ = _; unfold needOf; rw [if_pos hc]
    have HC := Lib.hid hc
    rw [hc] at HA
    clear hc
    go_enter Tryz.func123, Tryz.ntmps123
    go_wp2
    go_loopw [3, 4] (fun s i wr => ∃ j : Nat, j ≤ L.length ∧ i = .int .i64 j ∧ s = .int .i64 (sumTo eats L j) ∧ Hid (w.grownBy wr none)) (fun _ i _ => L.length - (intOf i).toNat)
    case atStart => exact ⟨0, Nat.zero_le _, rfl, by rw [sumTo_zero], World.grownBy.refl _ _⟩
    case round =>
      obtain ⟨j, hj, rfl, rfl, HG⟩ := hrel
      have hsm := sum_small HC.out (fun j hj => eats_at HC.out hj) hj
      obtain ⟨y, hy⟩ : ∃ y, y = sumTo eats L j := ⟨_, rfl⟩
      rw [← hy] at hsm ⊢
      have HY := Lib.hid hy
      clear hy
      by_cases hlt : j < L.length
      · obtain ⟨b, o, rfl, _, _⟩ := HV.out.at_row hlt
        obtain ⟨x, hx⟩ : ∃ x, L.getD j dM = x := ⟨_, rfl⟩
        have ha := eats_at HC.out hlt
        have hn := sumTo_next (f := eats) hlt
        have hcr := crew_at HC.out hlt
        rw [hx] at ha hn hcr
        have HN := Lib.hid hn
        have HX := Lib.hid hx
        clear hx hn
        obtain ⟨xi, xs, xn, xb⟩ := x
        dsimp only at hcr
        obtain ⟨hc1, hc2, hc3⟩ := hcr
        go_wp2_with (go_at_call 154; refine (HA.out _ (HV.out.grown HG.out)).mono ?_; rintro e w3 ⟨rfl, hg⟩; have HG3 := Lib.hid (grownN_trans HG.out hg); clear hg; obtain ⟨d0, d1, d2, d3⟩ := atM_grown HV.out HG3.out hlt HX.out; dsimp only at d0 d1 d2 d3)
        go_roundw
        case rel => exact ⟨j + 1, by omega, by go_num, by rw [HN.out, ← HY.out]; rfl, HG3⟩
        case measure => simp [intOf]; omega
      · have : j = L.length := by omega
        subst this
        go_wp2
        go_ret
        exact ⟨ret_i64 (by rw [HF.out, HY.out]), HG.out⟩

set_option maxRecDepth 20000 in
set_option maxHeartbeats 800000 in
theorem sCapOf_any (w : World) (v : Value) (L : List Mem) (hv : SeesG encM w v L) :
    Calls Tryz.prog 164 #[v] w fun e w' => e = .returned (.int .i64 (capOf L)) ∧ w.grownBy w' none := by
  have hl := hv.len
  have HV := Lib.hid hv
  have HA := Lib.hid (fun w hv => sAreCrew_any w v L hv)
  obtain ⟨a, cap, rfl, _⟩ := hv
  cases hc : areCrew L
  · have HZ := Lib.hid (capOf_zero hc)
    rw [hc] at HA
    clear hc
    go_enter Tryz.func164, Tryz.ntmps164
    go_wp2
    go_loopw [3, 4] (fun s i wr => s = .int .i64 0 ∧ i = .int .i64 0 ∧ Hid (w.grownBy wr none)) (fun _ _ _ => 0)
    case atStart => exact ⟨rfl, rfl, World.grownBy.refl _ _⟩
    case round =>
      obtain ⟨rfl, rfl, HG⟩ := hrel
      by_cases h0 : 0 < L.length
      · go_wp2_with (go_at_call 154; refine (HA.out _ (HV.out.grown HG.out)).mono ?_; rintro e w3 ⟨rfl, hg⟩; have HG3 := Lib.hid (grownN_trans HG.out hg); clear hg)
        go_ret
        exact ⟨ret_i64 HZ.out.symm, HG3.out⟩
      · go_wp2
        go_ret
        exact ⟨ret_i64 HZ.out.symm, HG.out⟩
  · have HF : Hid (capOf L = sumTo carries L L.length) := by show _ = _; unfold capOf; rw [if_pos hc]
    have HC := Lib.hid hc
    rw [hc] at HA
    clear hc
    go_enter Tryz.func164, Tryz.ntmps164
    go_wp2
    go_loopw [3, 4] (fun s i wr => ∃ j : Nat, j ≤ L.length ∧ i = .int .i64 j ∧ s = .int .i64 (sumTo carries L j) ∧ Hid (w.grownBy wr none)) (fun _ i _ => L.length - (intOf i).toNat)
    case atStart => exact ⟨0, Nat.zero_le _, rfl, by rw [sumTo_zero], World.grownBy.refl _ _⟩
    case round =>
      obtain ⟨j, hj, rfl, rfl, HG⟩ := hrel
      have hsm := sum_small HC.out (fun j hj => carries_at HC.out hj) hj
      obtain ⟨y, hy⟩ : ∃ y, y = sumTo carries L j := ⟨_, rfl⟩
      rw [← hy] at hsm ⊢
      have HY := Lib.hid hy
      clear hy
      by_cases hlt : j < L.length
      · obtain ⟨b, o, rfl, _, _⟩ := HV.out.at_row hlt
        obtain ⟨x, hx⟩ : ∃ x, L.getD j dM = x := ⟨_, rfl⟩
        have ha := carries_at HC.out hlt
        have hn := sumTo_next (f := carries) hlt
        have hcr := crew_at HC.out hlt
        rw [hx] at ha hn hcr
        have HN := Lib.hid hn
        have HX := Lib.hid hx
        clear hx hn
        obtain ⟨xi, xs, xn, xb⟩ := x
        dsimp only at hcr
        obtain ⟨hc1, hc2, hc3⟩ := hcr
        cases xb <;> go_wp2_with (go_at_call 154; refine (HA.out _ (HV.out.grown HG.out)).mono ?_; rintro e w3 ⟨rfl, hg⟩; have HG3 := Lib.hid (grownN_trans HG.out hg); clear hg; obtain ⟨d0, d1, d2, d3⟩ := atM_grown HV.out HG3.out hlt HX.out; dsimp only at d0 d1 d2 d3)
        all_goals
          go_roundw
          case rel => exact ⟨j + 1, by omega, by go_num, by rw [HN.out, ← HY.out]; simp [carries], HG3⟩
          case measure => simp [intOf]; omega
      · have : j = L.length := by omega
        subst this
        go_wp2
        go_ret
        exact ⟨ret_i64 (by rw [HF.out, HY.out]), HG.out⟩
end Go.Proofs.YtbjnbaddbanhbaaGreat.CrS
