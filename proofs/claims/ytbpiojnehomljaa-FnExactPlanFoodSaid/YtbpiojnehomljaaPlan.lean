/- Contracts of plans and search areas, of the program and of its model. -/
import Derived.Test.YtbpiojnehomljaaG19
import Derived.Test.YtbpiojnehomljaaWayL
import Derived.Test.YtbpiojnehomljaaG16
import Derived.Test.YtbpiojnehomljaaRowM
import Derived.IntWalk
import Derived.Deep.RegionHeld3
namespace Go.Proofs.Ytbpiojnehomljaa.Pln
open Go.RowKit Kit Rw Rg Ld Wf

abbrev G2 := Int × Int
def CrInb (n l h : Int) : Bool := decide (l ≤ n ∧ n ≤ h)
theorem inR_b (n l h : Int) (w : World) : Calls Try.prog 69 #[.int .i64 n, .int .i64 l, .int .i64 h] w fun e w' => e = .returned (.bool (CrInb n l h)) ∧ w = w' := Md.inRange_any n l h w
theorem l1In_c (n l h : Int) (w : World) : Calls Try.prog 66 #[.int .i64 n, .int .i64 l, .int .i64 h] w fun e w' => e = .returned (.bool (CrInb n l h)) ∧ w = w' := Md.l1In_any n l h w
theorem boxTwo {w : World} {b : Nat} {x y : Value} {T : TypeId} (h : Box w b #[x, y] T) : w.cell? ⟨b, 0, none⟩ = some x ∧ w.cell? ⟨b, 1, none⟩ = some y := ⟨h.cell 0, h.cell 1⟩
def legAt (frm : Int) (L : List G2) : Nat → Int
  | 0 => frm
  | j + 1 => (L.getD j (0, 0)).1
def okLeg (W H : Int) (X : List Int) (frm : Int) (L : List G2) (j : Nat) : Prop := 0 ≤ daysOf W H X (legAt frm L j) (L.getD j (0, 0)).1 ∧ (0 ≤ (L.getD j (0, 0)).2 ∧ (L.getD j (0, 0)).2 ≤ 30)
noncomputable instance (W H : Int) (X : List Int) (frm : Int) (L : List G2) (j : Nat) : Decidable (okLeg W H X frm L j) := by unfold okLeg; infer_instance
def upL (W H : Int) (X : List Int) (frm : Int) (L : List G2) (j : Nat) : Prop := ∀ i, i < j → okLeg W H X frm L i
noncomputable instance (W H : Int) (X : List Int) (frm : Int) (L : List G2) (j : Nat) : Decidable (upL W H X frm L j) := by unfold upL; infer_instance
noncomputable def isPlan (W H : Int) (X : List Int) (frm : Int) (L : List G2) : Bool := isOpen W H X frm && (decide (L.length ≤ 10) && decide (upL W H X frm L L.length))
section
variable {W H : Int} {X : List Int} {frm : Int} {L : List G2} {j : Nat}
theorem upL_zero : upL W H X frm L 0 := fun i h => absurd h (Nat.not_lt_zero _)
theorem upL_next (h : upL W H X frm L j) (h1 : okLeg W H X frm L j) : upL W H X frm L (j + 1) := fun i hi => by
  by_cases e : i = j
  · subst e; exact h1
  · exact h i (by omega)
theorem plan_bad (hj : j < L.length) (h : ¬ okLeg W H X frm L j) : isPlan W H X frm L = false := by
  unfold isPlan; rw [decide_eq_false (p := upL W H X frm L L.length) (fun hu => h (hu j hj)), Bool.and_false, Bool.and_false]
theorem plan_end (h : upL W H X frm L L.length) : isPlan W H X frm L = (isOpen W H X frm && decide (L.length ≤ 10)) := by
  unfold isPlan; rw [decide_eq_true h, Bool.and_true]
theorem plan_closed (h : isOpen W H X frm = false) : isPlan W H X frm L = false := by unfold isPlan; rw [h]; rfl
theorem plan_long (h : ¬ L.length ≤ 10) : isPlan W H X frm L = false := by unfold isPlan; rw [decide_eq_false h]; simp
end

set_option maxRecDepth 20000 in
set_option maxHeartbeats 2000000 in
theorem iPlan_any (w : World) (W H frm : Int) (x v : Value) (X : List Int) (L : List G2) (hx : Sees .i64 w x X) (hv : SeesG encP w v L) :
    Calls Try.prog 50 #[.agg #[.int .i64 W, .int .i64 H, x], .int .i64 frm, v] w fun e w' => e = .returned (.bool (isPlan W H X frm L)) ∧ w.grownBy w' none := by
  have hl := hv.len
  have hg0 := World.grownBy_alloc w (.cells #[.int .i64 W, .int .i64 H, x] 29 (0, 0)) (none : Option Nat)
  have HB := Lib.hid (box_new w #[.int .i64 W, .int .i64 H, x] 29)
  have HX := Lib.hid (hx.grown hg0)
  have HV := Lib.hid (hv.grown hg0)
  have HG := Lib.hid hg0
  have HOP := Lib.hid (LandI.isOpen_any _ W H frm _ _ (hx.grown hg0))
  obtain ⟨a, cap, rfl, _⟩ := hv
  obtain ⟨c0, c1, c2⟩ := HB.out.three
  clear hx hg0
  go_enter Try.func50, Try.ntmps50
  go_wp2_with fail
  generalize w.alloc (.cells #[.int .i64 W, .int .i64 H, x] 29 (0, 0)) = w1 at *
  refine HOP.out.mono ?_
  rintro e w2 ⟨rfl, hg⟩
  have HG2 := Lib.hid hg
  clear hg c0 c1 c2
  cases hop : isOpen W H X frm
  · have HR : Hid (isPlan W H X frm L = false) := plan_closed hop
    clear hop
    go_wp2
    go_ret
    exact ⟨ret_bool HR.out.symm, grownN_trans HG.out HG2.out⟩
  · have HOPN := Lib.hid hop
    clear hop
    by_cases hlen : L.length ≤ 10
    · have HLEN := Lib.hid hlen
      have hb10 : decide (10 < (L.length : Int)) = false := decide_eq_false (by omega)
      go_wp2
      go_loopw [7, 22] (fun p i wr => ∃ j : Nat, j ≤ L.length ∧ i = .int .i64 j ∧ p = .int .i64 (legAt frm L j) ∧ Hid (upL W H X frm L j) ∧ Hid (w1.grownBy wr none)) (fun _ i _ => L.length - (intOf i).toNat)
      case atStart => exact ⟨0, Nat.zero_le _, rfl, rfl, upL_zero, HG2⟩
      case round =>
        rename_i _ _ wr
        obtain ⟨j, hj, rfl, rfl, HU, HG3⟩ := hrel
        by_cases hlt : j < L.length
        · obtain ⟨b, o, rfl, _, _⟩ := HV.out.at_row hlt
          obtain ⟨y, hy⟩ : ∃ y, L.getD j (0, 0) = y := ⟨_, rfl⟩
          obtain ⟨d0, d1⟩ := atP_in HV.out HG3.out hlt hy
          have HY := Lib.hid hy
          have HNX : Hid (legAt frm L (j + 1) = y.1) := by show _ = _; rw [← hy]; rfl
          clear hy
          obtain ⟨y0, y1⟩ := y
          dsimp only at d0 d1 HNX
          obtain ⟨p, hp⟩ : ∃ p, p = legAt frm L j := ⟨_, rfl⟩
          rw [← hp]
          have HP := Lib.hid hp
          clear hp
          have hga := World.grownBy_alloc wr (.cells #[.int .i64 y0, .int .i64 y1] 72 (0, 0)) none
          have HG4 := Lib.hid (grownN_trans HG3.out hga)
          have HBY := Lib.hid (box_new wr #[.int .i64 y0, .int .i64 y1] 72)
          have HD := Lib.hid (WayI.days_any _ W H p y0 x X (HX.out.grown HG4.out))
          clear hga
          by_cases hs : 0 ≤ y1 ∧ y1 ≤ 30
          · have hb : CrInb y1 0 30 = true := decide_eq_true hs
            obtain ⟨c0, c1, c2⟩ := (HB.out.grown HG4.out).three
            obtain ⟨n, hn⟩ : ∃ n, n = daysOf W H X p y0 := ⟨_, rfl⟩
            rw [← hn] at HD
            by_cases hn0 : n < 0
            · have HR : Hid (isPlan W H X frm L = false) := plan_bad hlt (fun h => by have := h.1; rw [HY.out, ← HP.out, ← hn] at this; omega)
              clear hs hn
              go_wp2_with (first | (go_at_call 69; refine (inR_b _ _ _ _).mono ?_; rintro e w6 ⟨rfl, rfl⟩; try rw [hb]) | (go_at_call 92; refine HD.out.mono ?_; rintro e w7 ⟨rfl, hg⟩; have HG7 := Lib.hid (grownN_trans HG4.out hg); clear hg))
              go_ret
              exact ⟨ret_bool HR.out.symm, grownN_trans HG.out HG7.out⟩
            · have HU2 : Hid (upL W H X frm L (j + 1)) := upL_next HU.out ⟨by rw [HY.out, ← HP.out, ← hn]; omega, by rw [HY.out]; exact hs⟩
              clear hs hn
              go_wp2_with (first | (go_at_call 69; refine (inR_b _ _ _ _).mono ?_; rintro e w6 ⟨rfl, rfl⟩; try rw [hb]) | (go_at_call 92; refine HD.out.mono ?_; rintro e w7 ⟨rfl, hg⟩; have HG7 := Lib.hid (grownN_trans HG4.out hg); obtain ⟨q0, q1⟩ := boxTwo (HBY.out.grown hg); clear hg))
              go_roundw
              case rel => exact ⟨j + 1, by omega, by go_num, by rw [HNX.out], HU2, HG7⟩
              case measure => simp [intOf]; omega
          · have hb : CrInb y1 0 30 = false := decide_eq_false hs
            have HR : Hid (isPlan W H X frm L = false) := plan_bad hlt (fun h => by have := h.2; rw [HY.out] at this; exact hs this)
            clear hs
            go_wp2_with (go_at_call 69; refine (inR_b _ _ _ _).mono ?_; rintro e w6 ⟨rfl, rfl⟩; try rw [hb])
            go_ret
            exact ⟨ret_bool HR.out.symm, grownN_trans HG.out HG4.out⟩
        · have : j = L.length := by omega
          subst this
          have HR : Hid (isPlan W H X frm L = true) := by show _ = _; rw [plan_end HU.out, HOPN.out, decide_eq_true HLEN.out]; rfl
          go_wp2
          go_ret
          exact ⟨ret_bool HR.out.symm, grownN_trans HG.out HG3.out⟩
    · have HR : Hid (isPlan W H X frm L = false) := plan_long hlen
      have hb10 : decide (10 < (L.length : Int)) = true := decide_eq_true (by omega)
      go_wp2
      go_ret
      exact ⟨ret_bool HR.out.symm, grownN_trans HG.out HG2.out⟩

set_option maxRecDepth 20000 in
set_option maxHeartbeats 2000000 in
theorem sPlan_any (w : World) (W H frm : Int) (x v : Value) (X : List Int) (L : List G2) (hx : Sees .i64 w x X) (hv : SeesG encP w v L) :
    Calls Try.prog 46 #[.agg #[.int .i64 W, .int .i64 H, x], .int .i64 frm, v] w fun e w' => e = .returned (.bool (isPlan W H X frm L)) ∧ w.grownBy w' none := by
  have hl := hv.len
  have hg0 := World.grownBy_alloc w (.cells #[.int .i64 W, .int .i64 H, x] 29 (0, 0)) (none : Option Nat)
  have HB := Lib.hid (box_new w #[.int .i64 W, .int .i64 H, x] 29)
  have HX := Lib.hid (hx.grown hg0)
  have HV := Lib.hid (hv.grown hg0)
  have HG := Lib.hid hg0
  obtain ⟨a, cap, rfl, _⟩ := hv
  clear hx hg0
  go_enter Try.func46, Try.ntmps46
  go_wp2
  generalize w.alloc (.cells #[.int .i64 W, .int .i64 H, x] 29 (0, 0)) = w1 at *
  generalize w.heap.size = B at *
  go_loopw [7, 8] (fun p i wr => ∃ j : Nat, j ≤ L.length ∧ i = .int .i64 j ∧ p = .int .i64 (legAt frm L j) ∧ Hid (upL W H X frm L j) ∧ Hid (w1.grownBy wr none)) (fun _ i _ => L.length - (intOf i).toNat)
  case atStart => exact ⟨0, Nat.zero_le _, rfl, rfl, upL_zero, World.grownBy.refl _ _⟩
  case round =>
    rename_i _ _ wr
    obtain ⟨j, hj, rfl, rfl, HU, HG3⟩ := hrel
    by_cases hlt : j < L.length
    · have hltI : (j : Int) < (L.length : Int) := by omega
      have hj0 : (0 : Int) ≤ (j : Int) := by omega
      obtain ⟨b, o, rfl, _, _⟩ := HV.out.at_row hlt
      obtain ⟨y, hy⟩ : ∃ y, L.getD j (0, 0) = y := ⟨_, rfl⟩
      have HDY := Lib.hid (fun w' (hg : w1.grownBy w' none) => atP_in HV.out hg hlt hy)
      have HBX := Lib.hid (fun w' (hg : w1.grownBy w' none) => (HB.out.grown hg).three)
      have HY := Lib.hid hy
      have HNX : Hid (legAt frm L (j + 1) = y.1) := by show _ = _; rw [← hy]; rfl
      clear hy
      obtain ⟨y0, y1⟩ := y
      dsimp only at HDY HNX
      obtain ⟨p, hp⟩ : ∃ p, p = legAt frm L j := ⟨_, rfl⟩
      rw [← hp]
      have HP := Lib.hid hp
      clear hp
      have HG4 := Lib.hid (grownN_trans HG3.out (grown_drew (World.grownBy.refl wr none)))
      have HD := Lib.hid (fun w' (hg : w1.grownBy w' none) => WayS.sDays_any w' W H p y0 x X (HX.out.grown hg))
      obtain ⟨n, hn⟩ : ∃ n, n = daysOf W H X p y0 := ⟨_, rfl⟩
      rw [← hn] at HD
      by_cases hn0 : n < 0
      · have HR : Hid (isPlan W H X frm L = false) := plan_bad hlt (fun h => by have := h.1; rw [HY.out, ← HP.out, ← hn] at this; omega)
        have hdn : decide (n < 0) = true := decide_eq_true hn0
        clear hn
        go_wp2_with fail
        refine wp_region_held_drew (S := fun w' => (w'.cell? ⟨B, 0, none⟩ = some (.int .i64 W) ∧ w'.cell? ⟨B, 1, none⟩ = some (.int .i64 H) ∧ w'.cell? ⟨B, 2, none⟩ = some x) ∧ (w'.cell? ⟨b, o + j * 2, none⟩ = some (.int .i64 y0) ∧ w'.cell? ⟨b, o + j * 2 + 1, none⟩ = some (.int .i64 y1))) (by kernel_rfl) ⟨HBX.out _ HG4.out, HDY.out _ HG4.out⟩ (fun hHeld => ?_)
        refine wpAnyH_take (i := 0) (v := ?_) rfl (by kernel_rfl) (by kernel_rfl) (by kernel_rfl) (fun _ _ _ h => h) (Or.inl ⟨by rfl, ?_⟩) (by assumption) ?_; rotate_left; (focus (intro wS hSw; (try dsimp only at hSw); go_simp <;> with_reducible rfl)); (try simp only [Act.put, List.getElem_toArray, List.getElem_cons_succ, List.getElem_cons_zero, List.setIfInBounds_toArray, List.set_cons_zero, List.set_cons_succ])
        refine wpAnyH_take (i := 1) (v := ?_) rfl (by kernel_rfl) (by kernel_rfl) (by kernel_rfl) (fun _ _ _ h => h) (Or.inl ⟨by rfl, ?_⟩) (by assumption) ?_; rotate_left; (focus (intro wS hSw; (try dsimp only at hSw); go_simp <;> with_reducible rfl)); (try simp only [Act.put, List.getElem_toArray, List.getElem_cons_succ, List.getElem_cons_zero, List.setIfInBounds_toArray, List.set_cons_zero, List.set_cons_succ])
        refine wpAnyH_take (i := 2) (v := ?_) rfl (by kernel_rfl) (by kernel_rfl) (by kernel_rfl) (fun _ _ _ h => h) (Or.inl ⟨by rfl, ?_⟩) (by assumption) ?_; rotate_left; (focus (intro wS hSw; (try dsimp only at hSw); go_simp <;> with_reducible rfl)); (try simp only [Act.put, List.getElem_toArray, List.getElem_cons_succ, List.getElem_cons_zero, List.setIfInBounds_toArray, List.set_cons_zero, List.set_cons_succ])
        refine wpAnyH_take (i := 3) (v := ?_) rfl (by kernel_rfl) (by kernel_rfl) (by kernel_rfl) (fun _ _ _ h => h) (Or.inl ⟨by rfl, ?_⟩) (by assumption) ?_; rotate_left; (focus (intro wS hSw; (try dsimp only at hSw); go_simp <;> with_reducible rfl)); (try simp only [Act.put, List.getElem_toArray, List.getElem_cons_succ, List.getElem_cons_zero, List.setIfInBounds_toArray, List.set_cons_zero, List.set_cons_succ])
        refine wpAnyH_take (i := 4) (v := ?_) rfl (by kernel_rfl) (by kernel_rfl) (by kernel_rfl) (fun _ _ _ h => h) (Or.inl ⟨by rfl, ?_⟩) (by assumption) ?_; rotate_left; (focus (intro wS hSw; (try dsimp only at hSw); go_simp <;> with_reducible rfl)); (try simp only [Act.put, List.getElem_toArray, List.getElem_cons_succ, List.getElem_cons_zero, List.setIfInBounds_toArray, List.set_cons_zero, List.set_cons_succ])
        refine wpAnyH_take (i := 5) (v := ?_) rfl (by kernel_rfl) (by kernel_rfl) (by kernel_rfl) (fun _ _ _ h => h) (Or.inl ⟨by rfl, ?_⟩) (by assumption) ?_; rotate_left; (focus (intro wS hSw; (try dsimp only at hSw); go_simp <;> with_reducible rfl)); (try simp only [Act.put, List.getElem_toArray, List.getElem_cons_succ, List.getElem_cons_zero, List.setIfInBounds_toArray, List.set_cons_zero, List.set_cons_succ])
        refine wpAnyH_take (i := 6) (v := ?_) rfl (by kernel_rfl) (by kernel_rfl) (by kernel_rfl) (fun _ _ _ h => h) (Or.inl ⟨by rfl, ?_⟩) (by assumption) ?_; rotate_left; (focus (intro wS hSw; (try dsimp only at hSw); go_simp <;> with_reducible rfl)); (try simp only [Act.put, List.getElem_toArray, List.getElem_cons_succ, List.getElem_cons_zero, List.setIfInBounds_toArray, List.set_cons_zero, List.set_cons_succ])
        refine wpAnyH_ready (rs := [7]) (by kernel_rfl) (by simp) ?_; refine AllReadyH.cons rfl (fun K hK => ?_) AllReadyH.nil; go_simp; (go_at_call 87; refine (HD.out _ HG4.out).mono ?_; rintro e w5 ⟨rfl, hg⟩; have HG5 := Lib.hid (grownN_trans HG4.out hg); clear hg)
        refine hK.out _ _ ?_ (fun hHeld => ?_)
        · exact ⟨HBX.out _ HG5.out, HDY.out _ HG5.out⟩
        clear hK K
        (try simp only [Act.put, List.getElem_toArray, List.getElem_cons_succ, List.getElem_cons_zero, List.setIfInBounds_toArray, List.set_cons_zero, List.set_cons_succ])
        refine wpAnyH_take (i := 8) (v := ?_) rfl (by kernel_rfl) (by kernel_rfl) (by kernel_rfl) (fun _ _ _ h => h) (Or.inl ⟨by rfl, ?_⟩) (by assumption) ?_; rotate_left; (focus (intro wS hSw; (try dsimp only at hSw); go_simp <;> with_reducible rfl)); (try simp only [Act.put, List.getElem_toArray, List.getElem_cons_succ, List.getElem_cons_zero, List.setIfInBounds_toArray, List.set_cons_zero, List.set_cons_succ])
        refine wpAnyH_take (i := 9) (v := ?_) rfl (by kernel_rfl) (by kernel_rfl) (by kernel_rfl) (fun _ _ _ h => h) (Or.inl ⟨by rfl, ?_⟩) (by assumption) ?_; rotate_left; (focus (intro wS hSw; (try dsimp only at hSw); go_simp <;> with_reducible rfl)); (try simp only [Act.put, List.getElem_toArray, List.getElem_cons_succ, List.getElem_cons_zero, List.setIfInBounds_toArray, List.set_cons_zero, List.set_cons_succ])
        refine wpAnyH_take (i := 10) (v := undef) rfl (by kernel_rfl) (by kernel_rfl) (by kernel_rfl) (fun _ _ _ h => h) (Or.inr ⟨by rfl, rfl⟩) (by assumption) ?_; (try simp only [Act.put, List.getElem_toArray, List.getElem_cons_succ, List.getElem_cons_zero, List.setIfInBounds_toArray, List.set_cons_zero, List.set_cons_succ])
        refine wpAnyH_take (i := 11) (v := undef) rfl (by kernel_rfl) (by kernel_rfl) (by kernel_rfl) (fun _ _ _ h => h) (Or.inr ⟨by rfl, rfl⟩) (by assumption) ?_; (try simp only [Act.put, List.getElem_toArray, List.getElem_cons_succ, List.getElem_cons_zero, List.setIfInBounds_toArray, List.set_cons_zero, List.set_cons_succ])
        refine wpAnyH_take (i := 12) (v := undef) rfl (by kernel_rfl) (by kernel_rfl) (by kernel_rfl) (fun _ _ _ h => h) (Or.inr ⟨by rfl, rfl⟩) (by assumption) ?_; (try simp only [Act.put, List.getElem_toArray, List.getElem_cons_succ, List.getElem_cons_zero, List.setIfInBounds_toArray, List.set_cons_zero, List.set_cons_succ])
        refine wpAnyH_take (i := 13) (v := undef) rfl (by kernel_rfl) (by kernel_rfl) (by kernel_rfl) (fun _ _ _ h => h) (Or.inr ⟨by rfl, rfl⟩) (by assumption) ?_; (try simp only [Act.put, List.getElem_toArray, List.getElem_cons_succ, List.getElem_cons_zero, List.setIfInBounds_toArray, List.set_cons_zero, List.set_cons_succ])
        refine wpAnyH_take (i := 14) (v := undef) rfl (by kernel_rfl) (by kernel_rfl) (by kernel_rfl) (fun _ _ _ h => h) (Or.inr ⟨by rfl, rfl⟩) (by assumption) ?_; (try simp only [Act.put, List.getElem_toArray, List.getElem_cons_succ, List.getElem_cons_zero, List.setIfInBounds_toArray, List.set_cons_zero, List.set_cons_succ])
        refine wpAnyH_take (i := 15) (v := undef) rfl (by kernel_rfl) (by kernel_rfl) (by kernel_rfl) (fun _ _ _ h => h) (Or.inr ⟨by rfl, rfl⟩) (by assumption) ?_; (try simp only [Act.put, List.getElem_toArray, List.getElem_cons_succ, List.getElem_cons_zero, List.setIfInBounds_toArray, List.set_cons_zero, List.set_cons_succ])
        refine wpAnyH_take (i := 16) (v := undef) rfl (by kernel_rfl) (by kernel_rfl) (by kernel_rfl) (fun _ _ _ h => h) (Or.inr ⟨by rfl, rfl⟩) (by assumption) ?_; (try simp only [Act.put, List.getElem_toArray, List.getElem_cons_succ, List.getElem_cons_zero, List.setIfInBounds_toArray, List.set_cons_zero, List.set_cons_succ])
        refine wpAnyH_take (i := 17) (v := ?_) rfl (by kernel_rfl) (by kernel_rfl) (by kernel_rfl) (fun _ _ _ h => h) (Or.inl ⟨by rfl, ?_⟩) (by assumption) ?_; rotate_left; (focus (intro wS hSw; (try dsimp only at hSw); go_simp <;> with_reducible rfl)); (try simp only [Act.put, List.getElem_toArray, List.getElem_cons_succ, List.getElem_cons_zero, List.setIfInBounds_toArray, List.set_cons_zero, List.set_cons_succ])
        refine wpAnyH_done (by kernel_rfl) ?_ _
        (try simp only [Act.put, List.getElem_toArray, List.getElem_cons_succ, List.getElem_cons_zero, List.setIfInBounds_toArray, List.set_cons_zero, List.set_cons_succ])
        go_wp2
        go_ret
        exact ⟨ret_bool HR.out.symm, grownN_trans HG.out HG5.out⟩
      · have hdn : decide (n < 0) = false := decide_eq_false hn0
        by_cases hs : 0 ≤ y1 ∧ y1 ≤ 30
        · have hb : CrInb y1 0 30 = true := decide_eq_true hs
          have HU2 : Hid (upL W H X frm L (j + 1)) := upL_next HU.out ⟨by rw [HY.out, ← HP.out, ← hn]; omega, by rw [HY.out]; exact hs⟩
          clear hs hn
          go_wp2_with fail
          refine wp_region_held_drew (S := fun w' => (w'.cell? ⟨B, 0, none⟩ = some (.int .i64 W) ∧ w'.cell? ⟨B, 1, none⟩ = some (.int .i64 H) ∧ w'.cell? ⟨B, 2, none⟩ = some x) ∧ (w'.cell? ⟨b, o + j * 2, none⟩ = some (.int .i64 y0) ∧ w'.cell? ⟨b, o + j * 2 + 1, none⟩ = some (.int .i64 y1))) (by kernel_rfl) ⟨HBX.out _ HG4.out, HDY.out _ HG4.out⟩ (fun hHeld => ?_)
          refine wpAnyH_take (i := 0) (v := ?_) rfl (by kernel_rfl) (by kernel_rfl) (by kernel_rfl) (fun _ _ _ h => h) (Or.inl ⟨by rfl, ?_⟩) (by assumption) ?_; rotate_left; (focus (intro wS hSw; (try dsimp only at hSw); go_simp <;> with_reducible rfl)); (try simp only [Act.put, List.getElem_toArray, List.getElem_cons_succ, List.getElem_cons_zero, List.setIfInBounds_toArray, List.set_cons_zero, List.set_cons_succ])
          refine wpAnyH_take (i := 1) (v := ?_) rfl (by kernel_rfl) (by kernel_rfl) (by kernel_rfl) (fun _ _ _ h => h) (Or.inl ⟨by rfl, ?_⟩) (by assumption) ?_; rotate_left; (focus (intro wS hSw; (try dsimp only at hSw); go_simp <;> with_reducible rfl)); (try simp only [Act.put, List.getElem_toArray, List.getElem_cons_succ, List.getElem_cons_zero, List.setIfInBounds_toArray, List.set_cons_zero, List.set_cons_succ])
          refine wpAnyH_take (i := 2) (v := ?_) rfl (by kernel_rfl) (by kernel_rfl) (by kernel_rfl) (fun _ _ _ h => h) (Or.inl ⟨by rfl, ?_⟩) (by assumption) ?_; rotate_left; (focus (intro wS hSw; (try dsimp only at hSw); go_simp <;> with_reducible rfl)); (try simp only [Act.put, List.getElem_toArray, List.getElem_cons_succ, List.getElem_cons_zero, List.setIfInBounds_toArray, List.set_cons_zero, List.set_cons_succ])
          refine wpAnyH_take (i := 3) (v := ?_) rfl (by kernel_rfl) (by kernel_rfl) (by kernel_rfl) (fun _ _ _ h => h) (Or.inl ⟨by rfl, ?_⟩) (by assumption) ?_; rotate_left; (focus (intro wS hSw; (try dsimp only at hSw); go_simp <;> with_reducible rfl)); (try simp only [Act.put, List.getElem_toArray, List.getElem_cons_succ, List.getElem_cons_zero, List.setIfInBounds_toArray, List.set_cons_zero, List.set_cons_succ])
          refine wpAnyH_take (i := 4) (v := ?_) rfl (by kernel_rfl) (by kernel_rfl) (by kernel_rfl) (fun _ _ _ h => h) (Or.inl ⟨by rfl, ?_⟩) (by assumption) ?_; rotate_left; (focus (intro wS hSw; (try dsimp only at hSw); go_simp <;> with_reducible rfl)); (try simp only [Act.put, List.getElem_toArray, List.getElem_cons_succ, List.getElem_cons_zero, List.setIfInBounds_toArray, List.set_cons_zero, List.set_cons_succ])
          refine wpAnyH_take (i := 5) (v := ?_) rfl (by kernel_rfl) (by kernel_rfl) (by kernel_rfl) (fun _ _ _ h => h) (Or.inl ⟨by rfl, ?_⟩) (by assumption) ?_; rotate_left; (focus (intro wS hSw; (try dsimp only at hSw); go_simp <;> with_reducible rfl)); (try simp only [Act.put, List.getElem_toArray, List.getElem_cons_succ, List.getElem_cons_zero, List.setIfInBounds_toArray, List.set_cons_zero, List.set_cons_succ])
          refine wpAnyH_take (i := 6) (v := ?_) rfl (by kernel_rfl) (by kernel_rfl) (by kernel_rfl) (fun _ _ _ h => h) (Or.inl ⟨by rfl, ?_⟩) (by assumption) ?_; rotate_left; (focus (intro wS hSw; (try dsimp only at hSw); go_simp <;> with_reducible rfl)); (try simp only [Act.put, List.getElem_toArray, List.getElem_cons_succ, List.getElem_cons_zero, List.setIfInBounds_toArray, List.set_cons_zero, List.set_cons_succ])
          refine wpAnyH_ready (rs := [7]) (by kernel_rfl) (by simp) ?_; refine AllReadyH.cons rfl (fun K hK => ?_) AllReadyH.nil; go_simp; (go_at_call 87; refine (HD.out _ HG4.out).mono ?_; rintro e w5 ⟨rfl, hg⟩; have HG5 := Lib.hid (grownN_trans HG4.out hg); clear hg)
          refine hK.out _ _ ?_ (fun hHeld => ?_)
          · exact ⟨HBX.out _ HG5.out, HDY.out _ HG5.out⟩
          clear hK K
          (try simp only [Act.put, List.getElem_toArray, List.getElem_cons_succ, List.getElem_cons_zero, List.setIfInBounds_toArray, List.set_cons_zero, List.set_cons_succ])
          refine wpAnyH_take (i := 8) (v := ?_) rfl (by kernel_rfl) (by kernel_rfl) (by kernel_rfl) (fun _ _ _ h => h) (Or.inl ⟨by rfl, ?_⟩) (by assumption) ?_; rotate_left; (focus (intro wS hSw; (try dsimp only at hSw); go_simp <;> with_reducible rfl)); (try simp only [Act.put, List.getElem_toArray, List.getElem_cons_succ, List.getElem_cons_zero, List.setIfInBounds_toArray, List.set_cons_zero, List.set_cons_succ])
          refine wpAnyH_take (i := 9) (v := ?_) rfl (by kernel_rfl) (by kernel_rfl) (by kernel_rfl) (fun _ _ _ h => h) (Or.inl ⟨by rfl, ?_⟩) (by assumption) ?_; rotate_left; (focus (intro wS hSw; (try dsimp only at hSw); go_simp <;> with_reducible rfl)); (try simp only [Act.put, List.getElem_toArray, List.getElem_cons_succ, List.getElem_cons_zero, List.setIfInBounds_toArray, List.set_cons_zero, List.set_cons_succ])
          refine wpAnyH_take (i := 10) (v := ?_) rfl (by kernel_rfl) (by kernel_rfl) (by kernel_rfl) (fun _ _ _ h => h) (Or.inl ⟨by rfl, ?_⟩) (by assumption) ?_; rotate_left; (focus (intro wS hSw; (try dsimp only at hSw); go_simp <;> with_reducible rfl)); (try simp only [Act.put, List.getElem_toArray, List.getElem_cons_succ, List.getElem_cons_zero, List.setIfInBounds_toArray, List.set_cons_zero, List.set_cons_succ])
          refine wpAnyH_take (i := 11) (v := ?_) rfl (by kernel_rfl) (by kernel_rfl) (by kernel_rfl) (fun _ _ _ h => h) (Or.inl ⟨by rfl, ?_⟩) (by assumption) ?_; rotate_left; (focus (intro wS hSw; (try dsimp only at hSw); go_simp <;> with_reducible rfl)); (try simp only [Act.put, List.getElem_toArray, List.getElem_cons_succ, List.getElem_cons_zero, List.setIfInBounds_toArray, List.set_cons_zero, List.set_cons_succ])
          refine wpAnyH_take (i := 12) (v := ?_) rfl (by kernel_rfl) (by kernel_rfl) (by kernel_rfl) (fun _ _ _ h => h) (Or.inl ⟨by rfl, ?_⟩) (by assumption) ?_; rotate_left; (focus (intro wS hSw; (try dsimp only at hSw); go_simp <;> with_reducible rfl)); (try simp only [Act.put, List.getElem_toArray, List.getElem_cons_succ, List.getElem_cons_zero, List.setIfInBounds_toArray, List.set_cons_zero, List.set_cons_succ])
          refine wpAnyH_take (i := 13) (v := ?_) rfl (by kernel_rfl) (by kernel_rfl) (by kernel_rfl) (fun _ _ _ h => h) (Or.inl ⟨by rfl, ?_⟩) (by assumption) ?_; rotate_left; (focus (intro wS hSw; (try dsimp only at hSw); go_simp <;> with_reducible rfl)); (try simp only [Act.put, List.getElem_toArray, List.getElem_cons_succ, List.getElem_cons_zero, List.setIfInBounds_toArray, List.set_cons_zero, List.set_cons_succ])
          refine wpAnyH_take (i := 14) (v := ?_) rfl (by kernel_rfl) (by kernel_rfl) (by kernel_rfl) (fun _ _ _ h => h) (Or.inl ⟨by rfl, ?_⟩) (by assumption) ?_; rotate_left; (focus (intro wS hSw; (try dsimp only at hSw); go_simp <;> with_reducible rfl)); (try simp only [Act.put, List.getElem_toArray, List.getElem_cons_succ, List.getElem_cons_zero, List.setIfInBounds_toArray, List.set_cons_zero, List.set_cons_succ])
          refine wpAnyH_ready (rs := [15]) (by kernel_rfl) (by simp) ?_; refine AllReadyH.cons rfl (fun K hK => ?_) AllReadyH.nil; go_simp; (go_at_call 66; refine (l1In_c _ _ _ _).mono ?_; rintro e w6 ⟨rfl, rfl⟩; rw [hb])
          refine hK.out _ _ ?_ (fun hHeld => ?_)
          · exact ⟨HBX.out _ HG5.out, HDY.out _ HG5.out⟩
          clear hK K
          (try simp only [Act.put, List.getElem_toArray, List.getElem_cons_succ, List.getElem_cons_zero, List.setIfInBounds_toArray, List.set_cons_zero, List.set_cons_succ])
          refine wpAnyH_take (i := 16) (v := ?_) rfl (by kernel_rfl) (by kernel_rfl) (by kernel_rfl) (fun _ _ _ h => h) (Or.inl ⟨by rfl, ?_⟩) (by assumption) ?_; rotate_left; (focus (intro wS hSw; (try dsimp only at hSw); go_simp <;> with_reducible rfl)); (try simp only [Act.put, List.getElem_toArray, List.getElem_cons_succ, List.getElem_cons_zero, List.setIfInBounds_toArray, List.set_cons_zero, List.set_cons_succ])
          refine wpAnyH_take (i := 17) (v := ?_) rfl (by kernel_rfl) (by kernel_rfl) (by kernel_rfl) (fun _ _ _ h => h) (Or.inl ⟨by rfl, ?_⟩) (by assumption) ?_; rotate_left; (focus (intro wS hSw; (try dsimp only at hSw); go_simp <;> with_reducible rfl)); (try simp only [Act.put, List.getElem_toArray, List.getElem_cons_succ, List.getElem_cons_zero, List.setIfInBounds_toArray, List.set_cons_zero, List.set_cons_succ])
          refine wpAnyH_done (by kernel_rfl) ?_ _
          (try simp only [Act.put, List.getElem_toArray, List.getElem_cons_succ, List.getElem_cons_zero, List.setIfInBounds_toArray, List.set_cons_zero, List.set_cons_succ])
          obtain ⟨d0, d1⟩ := HDY.out _ HG5.out
          go_wp2
          go_roundw
          case rel => exact ⟨j + 1, by omega, by go_num, by rw [HNX.out], HU2, HG5⟩
          case measure => simp [intOf]; omega
        · have hb : CrInb y1 0 30 = false := decide_eq_false hs
          have HR : Hid (isPlan W H X frm L = false) := plan_bad hlt (fun h => by have := h.2; rw [HY.out] at this; exact hs this)
          clear hs hn
          go_wp2_with fail
          refine wp_region_held_drew (S := fun w' => (w'.cell? ⟨B, 0, none⟩ = some (.int .i64 W) ∧ w'.cell? ⟨B, 1, none⟩ = some (.int .i64 H) ∧ w'.cell? ⟨B, 2, none⟩ = some x) ∧ (w'.cell? ⟨b, o + j * 2, none⟩ = some (.int .i64 y0) ∧ w'.cell? ⟨b, o + j * 2 + 1, none⟩ = some (.int .i64 y1))) (by kernel_rfl) ⟨HBX.out _ HG4.out, HDY.out _ HG4.out⟩ (fun hHeld => ?_)
          refine wpAnyH_take (i := 0) (v := ?_) rfl (by kernel_rfl) (by kernel_rfl) (by kernel_rfl) (fun _ _ _ h => h) (Or.inl ⟨by rfl, ?_⟩) (by assumption) ?_; rotate_left; (focus (intro wS hSw; (try dsimp only at hSw); go_simp <;> with_reducible rfl)); (try simp only [Act.put, List.getElem_toArray, List.getElem_cons_succ, List.getElem_cons_zero, List.setIfInBounds_toArray, List.set_cons_zero, List.set_cons_succ])
          refine wpAnyH_take (i := 1) (v := ?_) rfl (by kernel_rfl) (by kernel_rfl) (by kernel_rfl) (fun _ _ _ h => h) (Or.inl ⟨by rfl, ?_⟩) (by assumption) ?_; rotate_left; (focus (intro wS hSw; (try dsimp only at hSw); go_simp <;> with_reducible rfl)); (try simp only [Act.put, List.getElem_toArray, List.getElem_cons_succ, List.getElem_cons_zero, List.setIfInBounds_toArray, List.set_cons_zero, List.set_cons_succ])
          refine wpAnyH_take (i := 2) (v := ?_) rfl (by kernel_rfl) (by kernel_rfl) (by kernel_rfl) (fun _ _ _ h => h) (Or.inl ⟨by rfl, ?_⟩) (by assumption) ?_; rotate_left; (focus (intro wS hSw; (try dsimp only at hSw); go_simp <;> with_reducible rfl)); (try simp only [Act.put, List.getElem_toArray, List.getElem_cons_succ, List.getElem_cons_zero, List.setIfInBounds_toArray, List.set_cons_zero, List.set_cons_succ])
          refine wpAnyH_take (i := 3) (v := ?_) rfl (by kernel_rfl) (by kernel_rfl) (by kernel_rfl) (fun _ _ _ h => h) (Or.inl ⟨by rfl, ?_⟩) (by assumption) ?_; rotate_left; (focus (intro wS hSw; (try dsimp only at hSw); go_simp <;> with_reducible rfl)); (try simp only [Act.put, List.getElem_toArray, List.getElem_cons_succ, List.getElem_cons_zero, List.setIfInBounds_toArray, List.set_cons_zero, List.set_cons_succ])
          refine wpAnyH_take (i := 4) (v := ?_) rfl (by kernel_rfl) (by kernel_rfl) (by kernel_rfl) (fun _ _ _ h => h) (Or.inl ⟨by rfl, ?_⟩) (by assumption) ?_; rotate_left; (focus (intro wS hSw; (try dsimp only at hSw); go_simp <;> with_reducible rfl)); (try simp only [Act.put, List.getElem_toArray, List.getElem_cons_succ, List.getElem_cons_zero, List.setIfInBounds_toArray, List.set_cons_zero, List.set_cons_succ])
          refine wpAnyH_take (i := 5) (v := ?_) rfl (by kernel_rfl) (by kernel_rfl) (by kernel_rfl) (fun _ _ _ h => h) (Or.inl ⟨by rfl, ?_⟩) (by assumption) ?_; rotate_left; (focus (intro wS hSw; (try dsimp only at hSw); go_simp <;> with_reducible rfl)); (try simp only [Act.put, List.getElem_toArray, List.getElem_cons_succ, List.getElem_cons_zero, List.setIfInBounds_toArray, List.set_cons_zero, List.set_cons_succ])
          refine wpAnyH_take (i := 6) (v := ?_) rfl (by kernel_rfl) (by kernel_rfl) (by kernel_rfl) (fun _ _ _ h => h) (Or.inl ⟨by rfl, ?_⟩) (by assumption) ?_; rotate_left; (focus (intro wS hSw; (try dsimp only at hSw); go_simp <;> with_reducible rfl)); (try simp only [Act.put, List.getElem_toArray, List.getElem_cons_succ, List.getElem_cons_zero, List.setIfInBounds_toArray, List.set_cons_zero, List.set_cons_succ])
          refine wpAnyH_ready (rs := [7]) (by kernel_rfl) (by simp) ?_; refine AllReadyH.cons rfl (fun K hK => ?_) AllReadyH.nil; go_simp; (go_at_call 87; refine (HD.out _ HG4.out).mono ?_; rintro e w5 ⟨rfl, hg⟩; have HG5 := Lib.hid (grownN_trans HG4.out hg); clear hg)
          refine hK.out _ _ ?_ (fun hHeld => ?_)
          · exact ⟨HBX.out _ HG5.out, HDY.out _ HG5.out⟩
          clear hK K
          (try simp only [Act.put, List.getElem_toArray, List.getElem_cons_succ, List.getElem_cons_zero, List.setIfInBounds_toArray, List.set_cons_zero, List.set_cons_succ])
          refine wpAnyH_take (i := 8) (v := ?_) rfl (by kernel_rfl) (by kernel_rfl) (by kernel_rfl) (fun _ _ _ h => h) (Or.inl ⟨by rfl, ?_⟩) (by assumption) ?_; rotate_left; (focus (intro wS hSw; (try dsimp only at hSw); go_simp <;> with_reducible rfl)); (try simp only [Act.put, List.getElem_toArray, List.getElem_cons_succ, List.getElem_cons_zero, List.setIfInBounds_toArray, List.set_cons_zero, List.set_cons_succ])
          refine wpAnyH_take (i := 9) (v := ?_) rfl (by kernel_rfl) (by kernel_rfl) (by kernel_rfl) (fun _ _ _ h => h) (Or.inl ⟨by rfl, ?_⟩) (by assumption) ?_; rotate_left; (focus (intro wS hSw; (try dsimp only at hSw); go_simp <;> with_reducible rfl)); (try simp only [Act.put, List.getElem_toArray, List.getElem_cons_succ, List.getElem_cons_zero, List.setIfInBounds_toArray, List.set_cons_zero, List.set_cons_succ])
          refine wpAnyH_take (i := 10) (v := ?_) rfl (by kernel_rfl) (by kernel_rfl) (by kernel_rfl) (fun _ _ _ h => h) (Or.inl ⟨by rfl, ?_⟩) (by assumption) ?_; rotate_left; (focus (intro wS hSw; (try dsimp only at hSw); go_simp <;> with_reducible rfl)); (try simp only [Act.put, List.getElem_toArray, List.getElem_cons_succ, List.getElem_cons_zero, List.setIfInBounds_toArray, List.set_cons_zero, List.set_cons_succ])
          refine wpAnyH_take (i := 11) (v := ?_) rfl (by kernel_rfl) (by kernel_rfl) (by kernel_rfl) (fun _ _ _ h => h) (Or.inl ⟨by rfl, ?_⟩) (by assumption) ?_; rotate_left; (focus (intro wS hSw; (try dsimp only at hSw); go_simp <;> with_reducible rfl)); (try simp only [Act.put, List.getElem_toArray, List.getElem_cons_succ, List.getElem_cons_zero, List.setIfInBounds_toArray, List.set_cons_zero, List.set_cons_succ])
          refine wpAnyH_take (i := 12) (v := ?_) rfl (by kernel_rfl) (by kernel_rfl) (by kernel_rfl) (fun _ _ _ h => h) (Or.inl ⟨by rfl, ?_⟩) (by assumption) ?_; rotate_left; (focus (intro wS hSw; (try dsimp only at hSw); go_simp <;> with_reducible rfl)); (try simp only [Act.put, List.getElem_toArray, List.getElem_cons_succ, List.getElem_cons_zero, List.setIfInBounds_toArray, List.set_cons_zero, List.set_cons_succ])
          refine wpAnyH_take (i := 13) (v := ?_) rfl (by kernel_rfl) (by kernel_rfl) (by kernel_rfl) (fun _ _ _ h => h) (Or.inl ⟨by rfl, ?_⟩) (by assumption) ?_; rotate_left; (focus (intro wS hSw; (try dsimp only at hSw); go_simp <;> with_reducible rfl)); (try simp only [Act.put, List.getElem_toArray, List.getElem_cons_succ, List.getElem_cons_zero, List.setIfInBounds_toArray, List.set_cons_zero, List.set_cons_succ])
          refine wpAnyH_take (i := 14) (v := ?_) rfl (by kernel_rfl) (by kernel_rfl) (by kernel_rfl) (fun _ _ _ h => h) (Or.inl ⟨by rfl, ?_⟩) (by assumption) ?_; rotate_left; (focus (intro wS hSw; (try dsimp only at hSw); go_simp <;> with_reducible rfl)); (try simp only [Act.put, List.getElem_toArray, List.getElem_cons_succ, List.getElem_cons_zero, List.setIfInBounds_toArray, List.set_cons_zero, List.set_cons_succ])
          refine wpAnyH_ready (rs := [15]) (by kernel_rfl) (by simp) ?_; refine AllReadyH.cons rfl (fun K hK => ?_) AllReadyH.nil; go_simp; (go_at_call 66; refine (l1In_c _ _ _ _).mono ?_; rintro e w6 ⟨rfl, rfl⟩; rw [hb])
          refine hK.out _ _ ?_ (fun hHeld => ?_)
          · exact ⟨HBX.out _ HG5.out, HDY.out _ HG5.out⟩
          clear hK K
          (try simp only [Act.put, List.getElem_toArray, List.getElem_cons_succ, List.getElem_cons_zero, List.setIfInBounds_toArray, List.set_cons_zero, List.set_cons_succ])
          refine wpAnyH_take (i := 16) (v := ?_) rfl (by kernel_rfl) (by kernel_rfl) (by kernel_rfl) (fun _ _ _ h => h) (Or.inl ⟨by rfl, ?_⟩) (by assumption) ?_; rotate_left; (focus (intro wS hSw; (try dsimp only at hSw); go_simp <;> with_reducible rfl)); (try simp only [Act.put, List.getElem_toArray, List.getElem_cons_succ, List.getElem_cons_zero, List.setIfInBounds_toArray, List.set_cons_zero, List.set_cons_succ])
          refine wpAnyH_take (i := 17) (v := ?_) rfl (by kernel_rfl) (by kernel_rfl) (by kernel_rfl) (fun _ _ _ h => h) (Or.inl ⟨by rfl, ?_⟩) (by assumption) ?_; rotate_left; (focus (intro wS hSw; (try dsimp only at hSw); go_simp <;> with_reducible rfl)); (try simp only [Act.put, List.getElem_toArray, List.getElem_cons_succ, List.getElem_cons_zero, List.setIfInBounds_toArray, List.set_cons_zero, List.set_cons_succ])
          refine wpAnyH_done (by kernel_rfl) ?_ _
          (try simp only [Act.put, List.getElem_toArray, List.getElem_cons_succ, List.getElem_cons_zero, List.setIfInBounds_toArray, List.set_cons_zero, List.set_cons_succ])
          go_wp2
          go_ret
          exact ⟨ret_bool HR.out.symm, grownN_trans HG.out HG5.out⟩
    · have : j = L.length := by omega
      subst this
      obtain ⟨c0, c1, c2⟩ := (HB.out.grown HG3.out).three
      have HO := Lib.hid (LandS.sIsOpen_any wr W H frm x X (HX.out.grown HG3.out))
      have HR := Lib.hid (plan_end HU.out)
      go_wp2_with fail
      refine HO.out.mono ?_
      rintro e w5 ⟨rfl, hg⟩
      have HG5 := Lib.hid (grownN_trans HG3.out hg)
      clear hg
      cases hop : isOpen W H X frm
      · rw [hop] at HR
        clear hop
        go_wp2
        go_ret
        exact ⟨ret_bool HR.out.symm, grownN_trans HG.out HG5.out⟩
      · rw [hop, Bool.true_and] at HR
        clear hop
        by_cases hlen : L.length ≤ 10
        · rw [decide_eq_true hlen] at HR
          have hb10 : decide ((L.length : Int) ≤ 10) = true := decide_eq_true (by omega)
          go_wp2
          go_ret
          exact ⟨ret_bool HR.out.symm, grownN_trans HG.out HG5.out⟩
        · rw [decide_eq_false hlen] at HR
          have hb10 : decide ((L.length : Int) ≤ 10) = false := decide_eq_false (by omega)
          go_wp2
          go_ret
          exact ⟨ret_bool HR.out.symm, grownN_trans HG.out HG5.out⟩

end Go.Proofs.Ytbpiojnehomljaa.Pln
