/- Contracts of PlanCells and PlanDays, of the program and of its model. Plain facts that the law FnStorms turns on: no program. Plain facts on crews: no program. -/
import Derived.Test.YtbpiojnehomljaaG35
import Derived.Test.YtbpiojnehomljaaPlcS
import Derived.Test.YtbpiojnehomljaaG7
import Derived.Test.YtbpiojnehomljaaG2
namespace Go.Proofs.Ytbpiojnehomljaa.Pln
open Go.RowKit Kit Rw Rg Ld Wf App

theorem cells_bd (W H : Int) (X : List Int) (frm : Int) (L : List G2) : (planCells W H X frm L).length ≤ 941 := by
  unfold planCells
  split
  · rename_i h
    obtain ⟨h1, h2, _⟩ := plan_up h
    have := cells_len h1
    omega
  · simp
theorem sPlanCells_any (w : World) (W H frm : Int) (x v : Value) (X : List Int) (L : List G2) (hf : (Lit.int .i64 frm).wf = true) (hx : Sees .i64 w x X) (hv : SeesG encP w v L) :
    Calls Try.prog 12 #[.agg #[.int .i64 W, .int .i64 H, x], .int .i64 frm, v] w fun e w' => ∃ u, e = .returned u ∧ Rw.Own .i64 3 w' w.heap.size u (planCells W H X frm L) ∧ w.grownBy w' none :=
  (sCells_any w W H frm x v X L hf hx hv).mono fun e w' h => by
    obtain ⟨u, h1, h2, h3⟩ := h
    exact ⟨u, h1, ownI h2, h3⟩
theorem iPlanCells_any (w : World) (W H frm : Int) (x v : Value) (X : List Int) (L : List G2) (hf : (Lit.int .i64 frm).wf = true) (hx : Sees .i64 w x X) (hv : SeesG encP w v L) :
    Calls Try.prog 15 #[.agg #[.int .i64 W, .int .i64 H, x], .int .i64 frm, v] w fun e w' => ∃ u, e = .returned u ∧ Rw.Own .i64 3 w' w.heap.size u (planCells W H X frm L) ∧ w.grownBy w' none :=
  (iCells_any repeats w W H frm x v X L hf hx hv).mono fun e w' h => by
    obtain ⟨u, h1, h2, h3⟩ := h
    exact ⟨u, h1, ownI h2, h3⟩
noncomputable def planDays (W H : Int) (X : List Int) (frm : Int) (L : List G2) : Int := (planCells W H X frm L).length - 1
theorem days_bd (W H : Int) (X : List Int) (frm : Int) (L : List G2) : -1 ≤ planDays W H X frm L ∧ planDays W H X frm L ≤ 940 := by
  have := cells_bd W H X frm L
  unfold planDays
  omega

set_option maxRecDepth 20000 in
set_option maxHeartbeats 2000000 in
theorem sPlanDays_any (w : World) (W H frm : Int) (x v : Value) (X : List Int) (L : List G2) (hf : (Lit.int .i64 frm).wf = true) (hx : Sees .i64 w x X) (hv : SeesG encP w v L) :
    Calls Try.prog 23 #[.agg #[.int .i64 W, .int .i64 H, x], .int .i64 frm, v] w fun e w' => e = .returned (.int .i64 (planDays W H X frm L)) ∧ w.grownBy w' none := by
  have g1 := World.grownBy_alloc w (.cells #[.int .i64 W, .int .i64 H, x] 29 (0, 0)) (none : Option Nat)
  have HB := Lib.hid (box_new w #[.int .i64 W, .int .i64 H, x] 29)
  obtain ⟨xa, xn, xc, rfl, HXN⟩ := hx.shape
  have c0 := HB.out.cell 0
  have c1 := HB.out.cell 1
  have c2 := HB.out.cell 2
  simp only [List.getElem?_toArray, List.getElem?_cons_succ, List.getElem?_cons_zero] at c0 c1 c2
  have HC := Lib.hid (sPlanCells_any _ W H frm _ _ X L hf (hx.grown g1) (hv.grown g1))
  have HG1 := Lib.hid g1
  have HBD := Lib.hid (cells_bd W H X frm L)
  clear hf hx hv g1
  go_enter Try.func23, Try.ntmps23
  go_wp2_with fail
  refine HC.out.mono ?_
  rintro e w2 ⟨u, rfl, ho, hg⟩
  obtain ⟨ua, un, uc, rfl, HUN⟩ := ho.sees.shape
  have HG := Lib.hid (grownN_trans HG1.out hg)
  have hw : IntKind.i64.wrap ((un : Int) - 1) = planDays W H X frm L := by
    have h1 := HUN.out
    have h2 := HBD.out
    unfold planDays
    rw [h1, IntWalk.i64_in _ (by omega)]
  clear hg ho
  go_wp2
  go_ret
  exact ⟨by first | (rw [← hw]; done) | (rw [← hw]; rfl) | (congr 2; exact hw) | simp [hw], HG.out⟩

set_option maxRecDepth 20000 in
set_option maxHeartbeats 2000000 in
theorem iPlanDays_any (w : World) (W H frm : Int) (x v : Value) (X : List Int) (L : List G2) (hf : (Lit.int .i64 frm).wf = true) (hx : Sees .i64 w x X) (hv : SeesG encP w v L) :
    Calls Try.prog 24 #[.agg #[.int .i64 W, .int .i64 H, x], .int .i64 frm, v] w fun e w' => e = .returned (.int .i64 (planDays W H X frm L)) ∧ w.grownBy w' none := by
  have g1 := World.grownBy_alloc w (.cells #[.int .i64 W, .int .i64 H, x] 29 (0, 0)) (none : Option Nat)
  have HB := Lib.hid (box_new w #[.int .i64 W, .int .i64 H, x] 29)
  obtain ⟨xa, xn, xc, rfl, HXN⟩ := hx.shape
  have c0 := HB.out.cell 0
  have c1 := HB.out.cell 1
  have c2 := HB.out.cell 2
  simp only [List.getElem?_toArray, List.getElem?_cons_succ, List.getElem?_cons_zero] at c0 c1 c2
  have HC := Lib.hid (iPlanCells_any _ W H frm _ _ X L hf (hx.grown g1) (hv.grown g1))
  have HG1 := Lib.hid g1
  have HBD := Lib.hid (cells_bd W H X frm L)
  clear hf hx hv g1
  go_enter Try.func24, Try.ntmps24
  go_wp2_with fail
  refine HC.out.mono ?_
  rintro e w2 ⟨u, rfl, ho, hg⟩
  obtain ⟨ua, un, uc, rfl, HUN⟩ := ho.sees.shape
  have HG := Lib.hid (grownN_trans HG1.out hg)
  have hw : IntKind.i64.wrap ((un : Int) - 1) = planDays W H X frm L := by
    have h1 := HUN.out
    have h2 := HBD.out
    unfold planDays
    rw [h1, IntWalk.i64_in _ (by omega)]
  clear hg ho
  go_wp2
  go_ret
  exact ⟨by first | (rw [← hw]; done) | (rw [← hw]; rfl) | (congr 2; exact hw) | simp [hw], HG.out⟩
end Go.Proofs.Ytbpiojnehomljaa.Pln

namespace Go.Proofs.Ytbpiojnehomljaa.Stm

theorem worstOf_no {m n k : Int} {L : List Bool} (h : ¬ (isRule m n = true ∧ 0 ≤ k ∧ k ≤ 200)) : worstOf m n L k = -1 := by
  unfold worstOf; exact if_neg (fun h' => h ⟨h'.1, h'.2.1, h'.2.2.1⟩)
theorem worstOf_yes {m n k : Int} {L : List Bool} (hr : isRule m n = true) (h0 : 0 ≤ k) (h1 : k ≤ 200) (hl : L.length ≤ 400) : worstOf m n L k = (worst m.toNat n.toNat L k.toNat : Int) := by
  unfold worstOf; exact if_pos ⟨hr, h0, h1, hl⟩
theorem worstOf_ge {m n k : Int} {L : List Bool} (hr : isRule m n = true) (h0 : 0 ≤ k) (h1 : k ≤ 200) (hl : L.length ≤ 400) : k ≤ worstOf m n L k := by
  rw [worstOf_yes hr h0 h1 hl]
  obtain ⟨M, N, rfl, rfl, hM, hN⟩ := rule_nat hr
  have := worst_ge (m := M) (n := N) hM hN (mu L k.toNat) L k.toNat (Nat.le_refl _)
  simp only [Int.toNat_natCast]
  omega
theorem worstOf_high {m n k : Int} {L : List Bool} (h1 : k ≤ 201) : worstOf m n L k ≤ 5000 := by
  unfold worstOf
  split
  · have := worst_le m.toNat n.toNat L k.toNat; omega
  · omega
theorem worstOf_low (m n k : Int) (L : List Bool) : -1 ≤ worstOf m n L k := by
  unfold worstOf; split <;> omega
theorem worstOf_day {m n k : Int} {L : List Bool} (hr : isRule m n = true) (h0 : 0 < k) (h1 : k ≤ 200) (hl : L.length ≤ 399) : worstOf m n (L ++ [false]) (k - 1) ≤ worstOf m n L k - 1 := by
  rw [worstOf_yes hr (by omega) h1 (by omega), worstOf_yes hr (by omega) (by omega) (by simp; omega)]
  obtain ⟨M, N, rfl, rfl, hM, hN⟩ := rule_nat hr
  have := worst_day (m := M) (n := N) (L := L) (k := k.toNat) hM hN (by omega)
  simp only [Int.toNat_natCast]
  rw [show (k - 1).toNat = k.toNat - 1 by omega]
  omega
theorem worstOf_storm {m n k : Int} {L : List Bool} (hr : isRule m n = true) (h0 : 0 < k) (h1 : k ≤ 200) (hl : L.length ≤ 399) (hs : mayStorm m n L = true) : worstOf m n (L ++ [true]) k = worstOf m n L k - 1 := by
  have e1 := worstOf_yes (L := L) hr (Int.le_of_lt h0) h1 (by omega)
  have e2 := worstOf_yes (L := L ++ [true]) hr (Int.le_of_lt h0) h1 (by simp; omega)
  rw [e1, e2]
  obtain ⟨M, N, rfl, rfl, hM, hN⟩ := rule_nat hr
  have := worst_storm (m := M) (n := N) (L := L) (k := k.toNat) hM hN (by omega) (by rw [← mayStorm_may hr]; exact hs)
  simp only [Int.toNat_natCast]
  omega
theorem worstOf_add {m n k : Int} {L : List Bool} (hr : isRule m n = true) (h0 : 0 < k) (h1 : k ≤ 200) (hl : L.length ≤ 399) : worstOf m n (addDay L false) (k - 1) = worstOf m n (L ++ [false]) (k - 1) := by
  have h2 := addDay_len L false
  rw [worstOf_yes hr (by omega) (by omega) (by omega), worstOf_yes hr (by omega) (by omega) (by simp; omega)]
  obtain ⟨M, N, rfl, rfl, hM, hN⟩ := rule_nat hr
  simp only [Int.toNat_natCast]
  rw [worst_alike (m := M) (n := N) hM hN (fun j hj => lastN_addDay L false (by omega))]
theorem rule_of_worst {m n k : Int} {L : List Bool} (h : 0 < worstOf m n L k) : isRule m n = true ∧ 0 ≤ k ∧ k ≤ 200 := by
  by_cases h' : isRule m n = true ∧ 0 ≤ k ∧ k ≤ 200
  · exact h'
  · rw [worstOf_no h'] at h; omega
theorem worst_pos {m n k : Int} {L : List Bool} (h : 0 < worstOf m n L k) : 0 < k := by
  have h2 := rule_of_worst h
  by_cases hk : k = 0
  · subst hk
    unfold worstOf at h
    split at h
    · simp [worst_zero] at h
    · omega
  · omega

theorem keeps_next (m n : Int) (L : List Bool) (s : Bool) : keeps m n (L ++ [s]) = (keeps m n L && decide ((late n (L ++ [s]) : Int) ≤ m)) := by
  unfold keeps
  rw [List.length_append, List.length_singleton, List.range_succ, List.all_append, ← Bool.and_assoc]
  congr 1
  · congr 1
    rw [Bool.eq_iff_iff]
    simp only [List.all_eq_true, List.mem_range, decide_eq_true_eq]
    constructor <;> intro h i hi <;> have := h i hi <;> rwa [List.take_append_of_le_length (by omega)] at *
  · simp only [List.all_cons, List.all_nil, Bool.and_true]
    rw [List.take_of_length_le (by simp)]
theorem keeps_rule {m n : Int} {L : List Bool} (h : keeps m n L = true) : isRule m n = true := by
  unfold keeps at h; simp only [Bool.and_eq_true] at h; exact h.1
theorem keeps_late {m n : Int} {L : List Bool} (h : keeps m n L = true) : (late n L : Int) ≤ m := by
  match hL : L.length with
  | 0 =>
    have hn : L = [] := List.eq_nil_of_length_eq_zero hL
    have hr := keeps_rule h
    unfold isRule at hr
    simp at hr
    subst hn
    simp [late, storms]
    omega
  | j + 1 =>
    unfold keeps at h
    simp only [Bool.and_eq_true, List.all_eq_true, List.mem_range, decide_eq_true_eq] at h
    have := h.2 j (by omega)
    rwa [List.take_of_length_le (by omega)] at this
theorem keeps_true {m n : Int} {L : List Bool} (h : keeps m n L = true) : keeps m n (L ++ [true]) = mayStorm m n L := by
  have hr := keeps_rule h
  rw [keeps_next, h, Bool.true_and]
  obtain ⟨M, N, rfl, rfl, hM, hN⟩ := rule_nat hr
  rw [mayStorm_may hr, late_lastN]
  unfold may
  obtain ⟨k, rfl⟩ : ∃ k, N = k + 1 := ⟨N - 1, by omega⟩
  rw [lastN_next, Nat.add_sub_cancel]
  exact decide_eq_decide.2 (by simp; omega)
theorem keeps_false {m n : Int} {L : List Bool} (h : keeps m n L = true) : keeps m n (L ++ [false]) = true := by
  have hr := keeps_rule h
  have hk := keeps_late h
  rw [keeps_next, h, Bool.true_and]
  obtain ⟨M, N, rfl, rfl, hM, hN⟩ := rule_nat hr
  rw [late_lastN] at hk ⊢
  obtain ⟨k, rfl⟩ : ∃ k, N = k + 1 := ⟨N - 1, by omega⟩
  have := lastN_mono (show k ≤ k + 1 by omega) L
  rw [lastN_next]
  simp only [decide_eq_true_eq]
  simp
  omega
theorem addDay_pos (L : List Bool) (s : Bool) : 0 < (addDay L s).length := by unfold addDay; simp; omega
theorem addDay_last (L : List Bool) (s : Bool) : (addDay L s).getD ((addDay L s).length - 1) false = s := by
  unfold addDay
  rw [List.drop_append_of_le_length (by omega), List.getD_eq_getElem?_getD, List.length_append, List.length_singleton, Nat.add_sub_cancel, List.getElem?_append_right (Nat.le_refl _)]
  simp
theorem addDay_calm (L : List Bool) (s : Bool) : (calm (addDay L s) = 0) = (s = true) := by
  unfold addDay calm
  rw [List.drop_append_of_le_length (by omega), List.reverse_append]
  cases s <;> simp
end Go.Proofs.Ytbpiojnehomljaa.Stm

namespace Go.Proofs.Ytbpiojnehomljaa.Crw
open Rg

def okMem (m : Mem) : Bool := decide (1 ≤ m.id ∧ m.id ≤ 99) && (decide (0 ≤ m.str ∧ m.str ≤ 100) && decide (1 ≤ m.need ∧ m.need ≤ 10))
def dM : Mem := ⟨0, 0, 0, false⟩
/-- The first j members are valid, and ascend. -/
def upTo (L : List Mem) (j : Nat) : Prop := ∀ i, i < j → okMem (L.getD i dM) = true ∧ (0 < i → (L.getD (i - 1) dM).id < (L.getD i dM).id)
instance (L : List Mem) (j : Nat) : Decidable (upTo L j) := by unfold upTo; infer_instance
def areCrew (L : List Mem) : Bool := decide (1 ≤ L.length ∧ L.length ≤ 8) && decide (upTo L L.length)
theorem upTo_zero (L : List Mem) : upTo L 0 := fun i h => absurd h (Nat.not_lt_zero _)
theorem upTo_next {L : List Mem} {j : Nat} (h : upTo L j) (h1 : okMem (L.getD j dM) = true) (h2 : 0 < j → (L.getD (j - 1) dM).id < (L.getD j dM).id) : upTo L (j + 1) := fun i hi => by
  by_cases h' : i < j
  · exact h i h'
  · obtain rfl : i = j := by omega
    exact ⟨h1, h2⟩
theorem upTo_down {L : List Mem} {j k : Nat} (h : upTo L k) (hj : j ≤ k) : upTo L j := fun i hi => h i (by omega)
theorem crew_yes {L : List Mem} (h1 : 1 ≤ L.length ∧ L.length ≤ 8) (h2 : upTo L L.length) : areCrew L = true := by
  unfold areCrew; rw [decide_eq_true h1, decide_eq_true h2]; rfl
theorem crew_long {L : List Mem} (h1 : ¬ (1 ≤ L.length ∧ L.length ≤ 8)) : areCrew L = false := by
  unfold areCrew; rw [decide_eq_false h1]; rfl
theorem crew_bad {L : List Mem} {j : Nat} (hj : j < L.length) (h : okMem (L.getD j dM) = false ∨ (0 < j ∧ ¬ (L.getD (j - 1) dM).id < (L.getD j dM).id)) : areCrew L = false := by
  unfold areCrew
  have : ¬ upTo L L.length := fun hu => by
    have := hu j hj
    rcases h with h | ⟨h0, h⟩
    · rw [this.1] at h; cases h
    · exact h (this.2 h0)
  rw [decide_eq_false this, Bool.and_false]
theorem crew_len {L : List Mem} (h : areCrew L = true) : 1 ≤ L.length ∧ L.length ≤ 8 := by
  unfold areCrew at h; simp only [Bool.and_eq_true, decide_eq_true_eq] at h; exact h.1
theorem crew_up {L : List Mem} (h : areCrew L = true) : upTo L L.length := by
  unfold areCrew at h; simp only [Bool.and_eq_true, decide_eq_true_eq] at h; exact h.2
theorem ok_of {m : Mem} (h : okMem m = true) : (1 ≤ m.id ∧ m.id ≤ 99) ∧ (0 ≤ m.str ∧ m.str ≤ 100) ∧ (1 ≤ m.need ∧ m.need ≤ 10) := by
  unfold okMem at h; simp only [Bool.and_eq_true, decide_eq_true_eq] at h; exact ⟨h.1, h.2.1, h.2.2⟩
theorem crew_at {L : List Mem} (h : areCrew L = true) {j : Nat} (hj : j < L.length) : (1 ≤ (L.getD j dM).id ∧ (L.getD j dM).id ≤ 99) ∧ (0 ≤ (L.getD j dM).str ∧ (L.getD j dM).str ≤ 100) ∧ (1 ≤ (L.getD j dM).need ∧ (L.getD j dM).need ≤ 10) := ok_of ((crew_up h) j hj).1
theorem up_lt {L : List Mem} {n : Nat} (h : upTo L n) : ∀ {j i : Nat}, i < j → j < n → (L.getD i dM).id < (L.getD j dM).id
  | 0, i, hi, _ => by omega
  | j + 1, i, hi, hj => by
    have h1 := (h (j + 1) hj).2 (by omega)
    rw [Nat.add_sub_cancel] at h1
    by_cases e : i = j
    · subst e; exact h1
    · exact Int.lt_trans (up_lt h (by omega) (by omega)) h1

/-- Sums over the first members. -/
def sumTo (f : Mem → Int) (L : List Mem) (j : Nat) : Int := ((L.take j).map f).sum
theorem sumTo_zero (f : Mem → Int) (L : List Mem) : sumTo f L 0 = 0 := by simp [sumTo]
theorem sumTo_next {f : Mem → Int} {L : List Mem} {j : Nat} (hj : j < L.length) : sumTo f L (j + 1) = sumTo f L j + f (L.getD j dM) := by
  unfold sumTo
  rw [List.take_add_one, List.map_append, List.sum_append]
  congr 1
  simp [hj]
def eats (m : Mem) : Int := m.need
def carries (m : Mem) : Int := if m.ill = true then 0 else m.str
def needOf (L : List Mem) : Int := if areCrew L = true then sumTo eats L L.length else 0
def capOf (L : List Mem) : Int := if areCrew L = true then sumTo carries L L.length else 0
theorem sumTo_bound {f : Mem → Int} {L : List Mem} (b : Int) (hb : 0 ≤ b) (h : ∀ j, j < L.length → 0 ≤ f (L.getD j dM) ∧ f (L.getD j dM) ≤ b) : ∀ j, j ≤ L.length → 0 ≤ sumTo f L j ∧ sumTo f L j ≤ j * b
  | 0, _ => by rw [sumTo_zero]; simp
  | j + 1, hj => by
    have h1 := sumTo_bound b hb h j (by omega)
    have h2 := h j (by omega)
    rw [sumTo_next (by omega), show ((j + 1 : Nat) : Int) * b = j * b + b by rw [Int.natCast_add, Int.add_mul]; simp]
    omega
theorem eats_at {L : List Mem} (h : areCrew L = true) {j : Nat} (hj : j < L.length) : 0 ≤ eats (L.getD j dM) ∧ eats (L.getD j dM) ≤ 100 := by
  have := crew_at h hj; unfold eats; omega
theorem carries_at {L : List Mem} (h : areCrew L = true) {j : Nat} (hj : j < L.length) : 0 ≤ carries (L.getD j dM) ∧ carries (L.getD j dM) ≤ 100 := by
  have := crew_at h hj; unfold carries; split <;> omega
theorem sum_small {f : Mem → Int} {L : List Mem} (h : areCrew L = true) (hf : ∀ j, j < L.length → 0 ≤ f (L.getD j dM) ∧ f (L.getD j dM) ≤ 100) {j : Nat} (hj : j ≤ L.length) : 0 ≤ sumTo f L j ∧ sumTo f L j ≤ 800 := by
  have h1 := sumTo_bound 100 (by omega) hf j hj
  have h2 := crew_len h
  omega
theorem needOf_bound (L : List Mem) : 0 ≤ needOf L ∧ needOf L ≤ 800 := by
  unfold needOf
  split
  · rename_i h; exact sum_small h (fun j hj => eats_at h hj) (Nat.le_refl _)
  · omega
theorem capOf_bound (L : List Mem) : 0 ≤ capOf L ∧ capOf L ≤ 800 := by
  unfold capOf
  split
  · rename_i h; exact sum_small h (fun j hj => carries_at h hj) (Nat.le_refl _)
  · omega
theorem needOf_pos {L : List Mem} (h : areCrew L = true) : 0 < needOf L := by
  have hl := crew_len h
  unfold needOf
  rw [if_pos h]
  have h1 := sumTo_next (f := eats) (L := L) (j := 0) (by omega)
  have h2 := crew_at h (j := 0) (by omega)
  have : ∀ k, 1 ≤ k → k ≤ L.length → 0 < sumTo eats L k := by
    intro k hk
    induction k with
    | zero => omega
    | succ k ih =>
      intro hle
      rw [sumTo_next (by omega)]
      have h3 := eats_at h (j := k) (by omega)
      by_cases e : k = 0
      · subst e; rw [sumTo_zero]; unfold eats; omega
      · have := ih (by omega) (by omega); omega
  exact this _ hl.1 (Nat.le_refl _)
theorem needOf_zero {L : List Mem} (h : areCrew L = false) : needOf L = 0 := by unfold needOf; rw [h]; rfl
theorem capOf_zero {L : List Mem} (h : areCrew L = false) : capOf L = 0 := by unfold capOf; rw [h]; rfl

def setOne (id : Int) (ill : Bool) (m : Mem) : Mem := if m.id = id then { m with ill := ill } else m
def hasId (L : List Mem) (id : Int) : Bool := L.any (fun m => decide (m.id = id))
/-- What becomes of the first j members. -/
def setTo (L : List Mem) (id : Int) (ill : Bool) (j : Nat) : List Mem := (L.map (setOne id ill)).take j ++ L.drop j
def setIll (L : List Mem) (id : Int) (ill : Bool) : List Mem := if areCrew L = true then L.map (setOne id ill) else L
def setOk (L : List Mem) (id : Int) : Bool := areCrew L && hasId L id

def healthy (L : List Mem) : List Int := (L.filter (fun m => !m.ill)).map (·.id)
theorem healthy_next {L : List Mem} {j : Nat} (hj : j < L.length) : healthy (L.take (j + 1)) = healthy (L.take j) ++ (if (L.getD j dM).ill = true then [] else [(L.getD j dM).id]) := by
  unfold healthy
  rw [List.take_add_one, List.filter_append, List.map_append]
  congr 1
  have : L[j]? = some (L.getD j dM) := by simp [hj]
  rw [this, Option.toList_some]
  generalize L.getD j dM = x
  cases h : x.ill <;> simp [h]
theorem healthy_len (L : List Mem) : (healthy L).length ≤ L.length := by
  unfold healthy; rw [List.length_map]; exact List.length_filter_le _ _

/-- The place of the strongest of the first j who are well; -1: none. -/
def best (L : List Mem) : Nat → Int
  | 0 => -1
  | j + 1 => if (L.getD j dM).ill = false ∧ (best L j < 0 ∨ (L.getD (best L j).toNat dM).str < (L.getD j dM).str) then (j : Int) else best L j
theorem best_lt (L : List Mem) : ∀ j, -1 ≤ best L j ∧ best L j < j
  | 0 => by simp [best]
  | j + 1 => by
    have := best_lt L j
    unfold best; split <;> omega
def strongest (L : List Mem) : Int := if best L L.length < 0 then 0 else (L.getD (best L L.length).toNat dM).id
end Go.Proofs.Ytbpiojnehomljaa.Crw
