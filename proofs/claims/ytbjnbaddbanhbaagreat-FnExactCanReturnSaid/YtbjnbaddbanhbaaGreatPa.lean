/- Contracts of DaysOfFood, RoomFor and IsParty of the program and of their models. -/
import Derived.Test.YtbjnbaddbanhbaaGreatG9
import Derived.Test.YtbjnbaddbanhbaaGreatG15
import Derived.Test.YtbjnbaddbanhbaaGreatG16
import Derived.Test.YtbjnbaddbanhbaaGreatG17
import Derived.IntWalk
import Derived.Deep.RegionHeld3
namespace Go.Proofs.YtbjnbaddbanhbaaGreat.Pa
open Go.RowKit Kit Rw Rg Crw Four Md Ld Mn

def daysOf (L : List Mem) (f : Int) : Int := if areCrew L = true ∧ 0 ≤ f then f / needOf L else 0
def roomOf (L : List Mem) (f : Int) : Int := if f < 0 ∨ capOf L ≤ f then 0 else capOf L - f
def isParty (W H : Int) (X : List Int) (n f : Int) (L : List Mem) (P : List Bool) : Bool := isOpen W H X n && (areCrew L && (decide (0 ≤ f ∧ f ≤ 10000) && decide (P.length ≤ 10)))
theorem daysOf_no {L : List Mem} {f : Int} (h : areCrew L = false) : daysOf L f = 0 := by unfold daysOf; rw [h]; simp
theorem daysOf_neg {L : List Mem} {f : Int} (h : f < 0) : daysOf L f = 0 := by unfold daysOf; exact if_neg (fun h' => by omega)
theorem daysOf_yes {L : List Mem} {f : Int} (h : areCrew L = true) (hf : 0 ≤ f) : daysOf L f = f / needOf L := if_pos ⟨h, hf⟩
theorem quo_pos {f q : Int} (h0 : 0 ≤ f) (h1 : f ≤ 9223372036854775807) (hq : 0 < q) : f.tdiv q = f / q ∧ 0 ≤ f / q ∧ f / q ≤ f := by
  refine ⟨Int.tdiv_eq_ediv_of_nonneg h0, Int.ediv_nonneg h0 (by omega), ?_⟩
  exact Int.ediv_le_self _ h0
theorem wrap_quo {f q : Int} (h0 : 0 ≤ f) (h1 : f ≤ 9223372036854775807) (hq : 0 < q) : IntKind.i64.wrap (f.tdiv q) = f / q := by
  have := quo_pos h0 h1 hq
  rw [this.1]
  exact IntWalk.i64_in _ (by omega)

set_option maxRecDepth 20000 in
set_option maxHeartbeats 2000000 in
theorem sRoom_any (w : World) (n f : Int) (cv pv : Value) (L : List Mem) (hf : (Lit.int .i64 f).wf = true) (hc : SeesG encM w cv L) :
    Calls Tryz.prog 121 #[.agg #[.int .i64 n, .int .i64 f, cv, pv]] w fun e w' => e = .returned (.int .i64 (roomOf L f)) ∧ w.grownBy w' none := by
  have g0 := World.grownBy_alloc w (.cells #[.int .i64 n, .int .i64 f, cv, pv] 44 (0, 0)) (none : Option Nat)
  have b0 := box_new w #[.int .i64 n, .int .i64 f, cv, pv] 44
  have HG := Lib.hid g0
  have HC := Lib.hid (hc.grown g0)
  have B0 := Lib.hid b0
  obtain ⟨c0, c1, c2, c3⟩ := four b0
  have HF := Lib.hid hf
  have hfb := i64_of hf
  clear hc g0 b0 hf
  obtain ⟨q, hq⟩ : ∃ q, q = capOf L := ⟨_, rfl⟩
  have hqb := capOf_bound L
  rw [← hq] at hqb
  have HQ := Lib.hid hq
  by_cases h0 : f < 0 ∨ q ≤ f
  · have HR : Hid (roomOf L f = 0) := if_pos (by rw [← hq]; exact h0)
    clear hq
    rcases h0 with h0 | h0
    · skip
      go_enter Tryz.func121, Tryz.ntmps121
      go_wp2_with fail
      refine (CrS.sCapOf_any _ cv L HC.out).mono ?_
      rintro e w2 ⟨rfl, hg⟩
      rw [← HQ.out]
      have HG2 := Lib.hid (grownN_trans HG.out hg)
      obtain ⟨c0, c1, c2, c3⟩ := four (B0.out.grown hg)
      clear hg
      go_wp2
      go_ret
      exact ⟨ret_i64 HR.out.symm, HG2.out⟩
    · by_cases h1 : f < 0
      · omega
      · skip
        go_enter Tryz.func121, Tryz.ntmps121
        go_wp2_with fail
        refine (CrS.sCapOf_any _ cv L HC.out).mono ?_
        rintro e w2 ⟨rfl, hg⟩
        rw [← HQ.out]
        have HG2 := Lib.hid (grownN_trans HG.out hg)
        obtain ⟨c0, c1, c2, c3⟩ := four (B0.out.grown hg)
        clear hg
        go_wp2
        go_ret
        exact ⟨ret_i64 HR.out.symm, HG2.out⟩
  · have HR : Hid (roomOf L f = q - f) := (if_neg (by rw [← hq]; exact h0)).trans (by rw [← hq])
    have h1 : ¬ f < 0 := fun h => h0 (.inl h)
    have h2 : ¬ q ≤ f := fun h => h0 (.inr h)
    clear hq h0
    go_enter Tryz.func121, Tryz.ntmps121
    go_wp2_with fail
    refine (CrS.sCapOf_any _ cv L HC.out).mono ?_
    rintro e w2 ⟨rfl, hg⟩
    rw [← HQ.out]
    have HG2 := Lib.hid (grownN_trans HG.out hg)
    obtain ⟨c0, c1, c2, c3⟩ := four (B0.out.grown hg)
    clear hg
    go_wp2
    go_ret
    exact ⟨ret_i64 (by rw [HR.out]), HG2.out⟩

set_option maxRecDepth 20000 in
set_option maxHeartbeats 2000000 in
theorem iRoom_any (w : World) (n f : Int) (cv pv : Value) (L : List Mem) (hf : (Lit.int .i64 f).wf = true) (hc : SeesG encM w cv L) :
    Calls Tryz.prog 161 #[.agg #[.int .i64 n, .int .i64 f, cv, pv]] w fun e w' => e = .returned (.int .i64 (roomOf L f)) ∧ w.grownBy w' none := by
  have g0 := World.grownBy_alloc w (.cells #[.int .i64 n, .int .i64 f, cv, pv] 44 (0, 0)) (none : Option Nat)
  have b0 := box_new w #[.int .i64 n, .int .i64 f, cv, pv] 44
  have HG := Lib.hid g0
  have HC := Lib.hid (hc.grown g0)
  have B0 := Lib.hid b0
  obtain ⟨c0, c1, c2, c3⟩ := four b0
  have HF := Lib.hid hf
  have hfb := i64_of hf
  clear hc g0 b0 hf
  obtain ⟨q, hq⟩ : ∃ q, q = capOf L := ⟨_, rfl⟩
  have hqb := capOf_bound L
  rw [← hq] at hqb
  have HQ := Lib.hid hq
  by_cases h0 : f < 0
  · have HR : Hid (roomOf L f = 0) := if_pos (.inl h0)
    clear hq
    go_enter Tryz.func161, Tryz.ntmps161
    go_wp2
    go_ret
    exact ⟨ret_i64 HR.out.symm, HG.out⟩
  · have hm : most 0 (q - f) = roomOf L f := by
      unfold most roomOf
      rw [← hq]
      split <;> split <;> omega
    have HM := Lib.hid hm
    have hw : IntKind.i64.wrap (q - f) = q - f := IntWalk.i64_in _ (by omega)
    clear hq hm
    go_enter Tryz.func161, Tryz.ntmps161
    have hd := grown_drew (World.grownBy.refl (w.alloc (.cells #[.int .i64 n, .int .i64 f, cv, pv] 44 (0, 0))) none)
    have HD := Lib.hid hd
    clear hd
    go_wp2_with fail
    generalize w.alloc (.cells #[.int .i64 n, .int .i64 f, cv, pv] 44 (0, 0)) = w1 at *
    refine wp_region_held_drew (S := fun w' => w'.cell? ⟨w.heap.size, 1, none⟩ = some (.int .i64 f) ∧ w'.cell? ⟨w.heap.size, 2, none⟩ = some cv) (by kernel_rfl) ⟨c1, c2⟩ (fun hHeld => ?_)
    refine wpAnyH_take (i := 0) (v := ?_) rfl (by kernel_rfl) (by kernel_rfl) (by kernel_rfl) (fun _ _ _ h => h) (Or.inl ⟨by rfl, ?_⟩) (by assumption) ?_; rotate_left; (focus (intro wS hSw; (try dsimp only at hSw); go_simp <;> with_reducible rfl)); (try simp only [Act.put, List.getElem_toArray, List.getElem_cons_succ, List.getElem_cons_zero, List.setIfInBounds_toArray, List.set_cons_zero, List.set_cons_succ])
    refine wpAnyH_take (i := 1) (v := ?_) rfl (by kernel_rfl) (by kernel_rfl) (by kernel_rfl) (fun _ _ _ h => h) (Or.inl ⟨by rfl, ?_⟩) (by assumption) ?_; rotate_left; (focus (intro wS hSw; (try dsimp only at hSw); go_simp <;> with_reducible rfl)); (try simp only [Act.put, List.getElem_toArray, List.getElem_cons_succ, List.getElem_cons_zero, List.setIfInBounds_toArray, List.set_cons_zero, List.set_cons_succ])
    refine wpAnyH_take (i := 3) (v := ?_) rfl (by kernel_rfl) (by kernel_rfl) (by kernel_rfl) (fun _ _ _ h => h) (Or.inl ⟨by rfl, ?_⟩) (by assumption) ?_; rotate_left; (focus (intro wS hSw; (try dsimp only at hSw); go_simp <;> with_reducible rfl)); (try simp only [Act.put, List.getElem_toArray, List.getElem_cons_succ, List.getElem_cons_zero, List.setIfInBounds_toArray, List.set_cons_zero, List.set_cons_succ])
    refine wpAnyH_take (i := 4) (v := ?_) rfl (by kernel_rfl) (by kernel_rfl) (by kernel_rfl) (fun _ _ _ h => h) (Or.inl ⟨by rfl, ?_⟩) (by assumption) ?_; rotate_left; (focus (intro wS hSw; (try dsimp only at hSw); go_simp <;> with_reducible rfl)); (try simp only [Act.put, List.getElem_toArray, List.getElem_cons_succ, List.getElem_cons_zero, List.setIfInBounds_toArray, List.set_cons_zero, List.set_cons_succ])
    refine wpAnyH_ready (rs := [2]) (by kernel_rfl) (by simp) ?_; refine AllReadyH.cons rfl (fun K hK => ?_) AllReadyH.nil; go_simp; (go_at_call 183; refine (CrI.iCapOf_any w1.drew cv L (HC.out.grown HD.out)).mono ?_; rintro e w3 ⟨rfl, hg⟩; rw [← HQ.out]; have HG3 := Lib.hid (grownN_trans HG.out (grown_old' HD.out hg)); have B3 := Lib.hid (B0.out.grown (grown_old' HD.out hg)); clear hg)
    refine hK.out _ _ ?_ (fun hHeld => ?_)
    · exact ⟨B3.out.cell 1, B3.out.cell 2⟩
    clear hK K
    (try simp only [Act.put, List.getElem_toArray, List.getElem_cons_succ, List.getElem_cons_zero, List.setIfInBounds_toArray, List.set_cons_zero, List.set_cons_succ])
    refine wpAnyH_take (i := 5) (v := ?_) rfl (by kernel_rfl) (by kernel_rfl) (by kernel_rfl) (fun _ _ _ h => h) (Or.inl ⟨by rfl, ?_⟩) (by assumption) ?_; rotate_left; (focus (intro wS hSw; (try dsimp only at hSw); go_simp <;> with_reducible rfl)); (try simp only [Act.put, List.getElem_toArray, List.getElem_cons_succ, List.getElem_cons_zero, List.setIfInBounds_toArray, List.set_cons_zero, List.set_cons_succ])
    refine wpAnyH_ready (rs := [6]) (by kernel_rfl) (by simp) ?_; refine AllReadyH.cons rfl (fun K hK => ?_) AllReadyH.nil; go_simp; (go_at_call 159; (try rw [hw]); refine (max_any 0 (q - f) w3).mono ?_; rintro e w4 ⟨rfl, hg⟩; rw [HM.out]; have HG4 := Lib.hid (grownN_trans HG3.out hg); have B4 := Lib.hid (B3.out.grown hg); clear hg)
    refine hK.out _ _ ?_ (fun hHeld => ?_)
    · exact ⟨B4.out.cell 1, B4.out.cell 2⟩
    clear hK K
    (try simp only [Act.put, List.getElem_toArray, List.getElem_cons_succ, List.getElem_cons_zero, List.setIfInBounds_toArray, List.set_cons_zero, List.set_cons_succ])
    refine wpAnyH_take (i := 7) (v := ?_) rfl (by kernel_rfl) (by kernel_rfl) (by kernel_rfl) (fun _ _ _ h => h) (Or.inl ⟨by rfl, ?_⟩) (by assumption) ?_; rotate_left; (focus (intro wS hSw; (try dsimp only at hSw); go_simp <;> with_reducible rfl)); (try simp only [Act.put, List.getElem_toArray, List.getElem_cons_succ, List.getElem_cons_zero, List.setIfInBounds_toArray, List.set_cons_zero, List.set_cons_succ])
    refine wpAnyH_done (by kernel_rfl) ?_ _
    (try simp only [Act.put, List.getElem_toArray, List.getElem_cons_succ, List.getElem_cons_zero, List.setIfInBounds_toArray, List.set_cons_zero, List.set_cons_succ])
    go_wp2
    go_ret
    exact ⟨rfl, HG4.out⟩

set_option maxRecDepth 20000 in
set_option maxHeartbeats 2000000 in
theorem sIsParty_any (w : World) (W H : Int) (x : Value) (X : List Int) (n f : Int) (cv pv : Value) (L : List Mem) (P : List Bool) (hx : Sees .i64 w x X) (hc : SeesG encM w cv L) (hp : SeesG encB w pv P) :
    Calls Tryz.prog 108 #[.agg #[.int .i64 W, .int .i64 H, x], .agg #[.int .i64 n, .int .i64 f, cv, pv]] w fun e w' => e = .returned (.bool (isParty W H X n f L P)) ∧ w.grownBy w' none := by
  have ga := World.grownBy_alloc w (.cells #[.int .i64 W, .int .i64 H, x] 36 (0, 0)) (none : Option Nat)
  have gb := World.grownBy_alloc (w.alloc (.cells #[.int .i64 W, .int .i64 H, x] 36 (0, 0))) (.cells #[.int .i64 n, .int .i64 f, cv, pv] 44 (0, 0)) (none : Option Nat)
  have b0 := (box_new w #[.int .i64 W, .int .i64 H, x] 36).grown gb
  have b1 := box_new (w.alloc (.cells #[.int .i64 W, .int .i64 H, x] 36 (0, 0))) #[.int .i64 n, .int .i64 f, cv, pv] 44
  simp only [World.size_alloc] at b1
  have HG := Lib.hid (grownN_trans ga gb)
  have HX := Lib.hid (hx.grown HG.out)
  have HC := Lib.hid (hc.grown HG.out)
  have hpl := hp.len
  obtain ⟨pa, pn, pc, hpe, HPN⟩ := hp.shape
  subst hpe
  have hpn : pn ≤ 9223372036854775807 := by rw [← HPN.out]; exact hpl
  have B0 := Lib.hid b0
  have B1 := Lib.hid b1
  obtain ⟨d0, d1, d2⟩ := b0.three
  obtain ⟨c0, c1, c2, c3⟩ := four b1
  clear hx hc hp ga gb b0 b1 hpl
  have hO := fun w' hs => LandS.sIsOpen_any w' W H n x X hs
  have hA := fun w' hs => CrS.sAreCrew_any w' cv L hs
  cases hop : isOpen W H X n
  · have HR : Hid (isParty W H X n f L P = false) := by show _ = _; unfold isParty; rw [hop]; rfl
    simp only [hop] at hO
    have HO := Lib.hid hO
    clear hO hA hop
    go_enter Tryz.func108, Tryz.ntmps108
    go_wp2_with fail
    skip
    refine (HO.out _ HX.out).mono ?_
    rintro e w2 ⟨rfl, hg⟩
    have HG2 := Lib.hid (grownN_trans HG.out hg)
    have HC2 := Lib.hid (HC.out.grown hg)
    have B2 := Lib.hid (B1.out.grown hg)
    obtain ⟨c0, c1, c2, c3⟩ := four B2.out
    clear hg
    go_wp2
    go_ret
    exact ⟨ret_bool (by first | exact HR.out.symm | (rw [HR.out]; simp; omega) | (rw [HR.out]; simp)), HG2.out⟩
  · simp only [hop] at hO
    have HO := Lib.hid hO
    cases hcr : areCrew L
    · have HR : Hid (isParty W H X n f L P = false) := by show _ = _; unfold isParty; rw [hop, hcr]; rfl
      simp only [hcr] at hA
      have HA := Lib.hid hA
      clear hO hA hop hcr
      go_enter Tryz.func108, Tryz.ntmps108
      go_wp2_with fail
      skip
      refine (HO.out _ HX.out).mono ?_
      rintro e w2 ⟨rfl, hg⟩
      have HG2 := Lib.hid (grownN_trans HG.out hg)
      have HC2 := Lib.hid (HC.out.grown hg)
      have B2 := Lib.hid (B1.out.grown hg)
      obtain ⟨c0, c1, c2, c3⟩ := four B2.out
      clear hg
      go_wp2_with fail
      refine (HA.out _ HC2.out).mono ?_
      rintro e w3 ⟨rfl, hg⟩
      have HG3 := Lib.hid (grownN_trans HG2.out hg)
      have B3 := Lib.hid (B2.out.grown hg)
      obtain ⟨c0, c1, c2, c3⟩ := four B3.out
      clear hg
      go_wp2
      go_ret
      exact ⟨ret_bool (by first | exact HR.out.symm | (rw [HR.out]; simp; omega) | (rw [HR.out]; simp)), HG3.out⟩
    · simp only [hcr] at hA
      have HA := Lib.hid hA
      by_cases hf : 0 ≤ f ∧ f ≤ 10000
      · have hb : CrS.inb f 0 10000 = true := decide_eq_true hf
        by_cases hl : pn ≤ 10
        · have HR : Hid (isParty W H X n f L P = true) := by show _ = _; unfold isParty; rw [hop, hcr, decide_eq_true hf, decide_eq_true (show P.length ≤ 10 by rw [HPN.out]; exact hl)]; rfl
          clear hO hA hop hcr hf
          go_enter Tryz.func108, Tryz.ntmps108
          go_wp2_with fail
          skip
          refine (HO.out _ HX.out).mono ?_
          rintro e w2 ⟨rfl, hg⟩
          have HG2 := Lib.hid (grownN_trans HG.out hg)
          have HC2 := Lib.hid (HC.out.grown hg)
          have B2 := Lib.hid (B1.out.grown hg)
          obtain ⟨c0, c1, c2, c3⟩ := four B2.out
          clear hg
          go_wp2_with fail
          refine (HA.out _ HC2.out).mono ?_
          rintro e w3 ⟨rfl, hg⟩
          have HG3 := Lib.hid (grownN_trans HG2.out hg)
          have B3 := Lib.hid (B2.out.grown hg)
          obtain ⟨c0, c1, c2, c3⟩ := four B3.out
          clear hg
          go_wp2_with fail
          refine (CrS.l1In_b _ _ _ _).mono ?_
          rintro e w4 ⟨rfl, rfl⟩
          rw [hb]
          go_wp2
          go_ret
          exact ⟨ret_bool (by first | exact HR.out.symm | (rw [HR.out]; simp; omega) | (rw [HR.out]; simp)), HG3.out⟩
        · have HR : Hid (isParty W H X n f L P = false) := by show _ = _; unfold isParty; rw [hop, hcr, decide_eq_true hf, decide_eq_false (show ¬ P.length ≤ 10 by rw [HPN.out]; exact hl)]; rfl
          clear hO hA hop hcr hf
          go_enter Tryz.func108, Tryz.ntmps108
          go_wp2_with fail
          skip
          refine (HO.out _ HX.out).mono ?_
          rintro e w2 ⟨rfl, hg⟩
          have HG2 := Lib.hid (grownN_trans HG.out hg)
          have HC2 := Lib.hid (HC.out.grown hg)
          have B2 := Lib.hid (B1.out.grown hg)
          obtain ⟨c0, c1, c2, c3⟩ := four B2.out
          clear hg
          go_wp2_with fail
          refine (HA.out _ HC2.out).mono ?_
          rintro e w3 ⟨rfl, hg⟩
          have HG3 := Lib.hid (grownN_trans HG2.out hg)
          have B3 := Lib.hid (B2.out.grown hg)
          obtain ⟨c0, c1, c2, c3⟩ := four B3.out
          clear hg
          go_wp2_with fail
          refine (CrS.l1In_b _ _ _ _).mono ?_
          rintro e w4 ⟨rfl, rfl⟩
          rw [hb]
          go_wp2
          go_ret
          exact ⟨ret_bool (by first | exact HR.out.symm | (rw [HR.out]; simp; omega) | (rw [HR.out]; simp)), HG3.out⟩
      · have hb : CrS.inb f 0 10000 = false := decide_eq_false hf
        have HR : Hid (isParty W H X n f L P = false) := by show _ = _; unfold isParty; rw [hop, hcr, decide_eq_false hf]; rfl
        clear hO hA hop hcr hf
        go_enter Tryz.func108, Tryz.ntmps108
        go_wp2_with fail
        skip
        refine (HO.out _ HX.out).mono ?_
        rintro e w2 ⟨rfl, hg⟩
        have HG2 := Lib.hid (grownN_trans HG.out hg)
        have HC2 := Lib.hid (HC.out.grown hg)
        have B2 := Lib.hid (B1.out.grown hg)
        obtain ⟨c0, c1, c2, c3⟩ := four B2.out
        clear hg
        go_wp2_with fail
        refine (HA.out _ HC2.out).mono ?_
        rintro e w3 ⟨rfl, hg⟩
        have HG3 := Lib.hid (grownN_trans HG2.out hg)
        have B3 := Lib.hid (B2.out.grown hg)
        obtain ⟨c0, c1, c2, c3⟩ := four B3.out
        clear hg
        go_wp2_with fail
        refine (CrS.l1In_b _ _ _ _).mono ?_
        rintro e w4 ⟨rfl, rfl⟩
        rw [hb]
        go_wp2
        go_ret
        exact ⟨ret_bool (by first | exact HR.out.symm | (rw [HR.out]; simp; omega) | (rw [HR.out]; simp)), HG3.out⟩

set_option maxRecDepth 20000 in
set_option maxHeartbeats 2000000 in
theorem iIsParty_any (w : World) (W H : Int) (x : Value) (X : List Int) (n f : Int) (cv pv : Value) (L : List Mem) (P : List Bool) (hx : Sees .i64 w x X) (hc : SeesG encM w cv L) (hp : SeesG encB w pv P) :
    Calls Tryz.prog 71 #[.agg #[.int .i64 W, .int .i64 H, x], .agg #[.int .i64 n, .int .i64 f, cv, pv]] w fun e w' => e = .returned (.bool (isParty W H X n f L P)) ∧ w.grownBy w' none := by
  have ga := World.grownBy_alloc w (.cells #[.int .i64 W, .int .i64 H, x] 36 (0, 0)) (none : Option Nat)
  have gb := World.grownBy_alloc (w.alloc (.cells #[.int .i64 W, .int .i64 H, x] 36 (0, 0))) (.cells #[.int .i64 n, .int .i64 f, cv, pv] 44 (0, 0)) (none : Option Nat)
  have b0 := (box_new w #[.int .i64 W, .int .i64 H, x] 36).grown gb
  have b1 := box_new (w.alloc (.cells #[.int .i64 W, .int .i64 H, x] 36 (0, 0))) #[.int .i64 n, .int .i64 f, cv, pv] 44
  simp only [World.size_alloc] at b1
  have HG := Lib.hid (grownN_trans ga gb)
  have HX := Lib.hid (hx.grown HG.out)
  have HC := Lib.hid (hc.grown HG.out)
  have hpl := hp.len
  obtain ⟨pa, pn, pc, hpe, HPN⟩ := hp.shape
  subst hpe
  have hpn : pn ≤ 9223372036854775807 := by rw [← HPN.out]; exact hpl
  have B0 := Lib.hid b0
  have B1 := Lib.hid b1
  obtain ⟨d0, d1, d2⟩ := b0.three
  obtain ⟨c0, c1, c2, c3⟩ := four b1
  clear hx hc hp ga gb b0 b1 hpl
  have hO := fun w' hs => LandI.isOpen_any w' W H n x X hs
  have hA := fun w' hs => CrI.iAreCrew_any w' cv L hs
  cases hop : isOpen W H X n
  · have HR : Hid (isParty W H X n f L P = false) := by show _ = _; unfold isParty; rw [hop]; rfl
    simp only [hop] at hO
    have HO := Lib.hid hO
    clear hO hA hop
    go_enter Tryz.func71, Tryz.ntmps71
    go_wp2_with fail
    skip
    refine (HO.out _ HX.out).mono ?_
    rintro e w2 ⟨rfl, hg⟩
    have HG2 := Lib.hid (grownN_trans HG.out hg)
    have HC2 := Lib.hid (HC.out.grown hg)
    have B2 := Lib.hid (B1.out.grown hg)
    obtain ⟨c0, c1, c2, c3⟩ := four B2.out
    clear hg
    go_wp2
    go_ret
    exact ⟨ret_bool (by first | exact HR.out.symm | (rw [HR.out]; simp; omega) | (rw [HR.out]; simp)), HG2.out⟩
  · simp only [hop] at hO
    have HO := Lib.hid hO
    cases hcr : areCrew L
    · have HR : Hid (isParty W H X n f L P = false) := by show _ = _; unfold isParty; rw [hop, hcr]; rfl
      simp only [hcr] at hA
      have HA := Lib.hid hA
      clear hO hA hop hcr
      go_enter Tryz.func71, Tryz.ntmps71
      go_wp2_with fail
      skip
      refine (HO.out _ HX.out).mono ?_
      rintro e w2 ⟨rfl, hg⟩
      have HG2 := Lib.hid (grownN_trans HG.out hg)
      have HC2 := Lib.hid (HC.out.grown hg)
      have B2 := Lib.hid (B1.out.grown hg)
      obtain ⟨c0, c1, c2, c3⟩ := four B2.out
      clear hg
      go_wp2_with fail
      refine (HA.out _ HC2.out).mono ?_
      rintro e w3 ⟨rfl, hg⟩
      have HG3 := Lib.hid (grownN_trans HG2.out hg)
      have B3 := Lib.hid (B2.out.grown hg)
      obtain ⟨c0, c1, c2, c3⟩ := four B3.out
      clear hg
      go_wp2
      go_ret
      exact ⟨ret_bool (by first | exact HR.out.symm | (rw [HR.out]; simp; omega) | (rw [HR.out]; simp)), HG3.out⟩
    · simp only [hcr] at hA
      have HA := Lib.hid hA
      by_cases hf : 0 ≤ f ∧ f ≤ 10000
      · have hb : CrI.inb f 0 10000 = true := decide_eq_true hf
        by_cases hl : pn ≤ 10
        · have HR : Hid (isParty W H X n f L P = true) := by show _ = _; unfold isParty; rw [hop, hcr, decide_eq_true hf, decide_eq_true (show P.length ≤ 10 by rw [HPN.out]; exact hl)]; rfl
          clear hO hA hop hcr hf
          go_enter Tryz.func71, Tryz.ntmps71
          go_wp2_with fail
          skip
          refine (HO.out _ HX.out).mono ?_
          rintro e w2 ⟨rfl, hg⟩
          have HG2 := Lib.hid (grownN_trans HG.out hg)
          have HC2 := Lib.hid (HC.out.grown hg)
          have B2 := Lib.hid (B1.out.grown hg)
          obtain ⟨c0, c1, c2, c3⟩ := four B2.out
          clear hg
          go_wp2_with fail
          refine (HA.out _ HC2.out).mono ?_
          rintro e w3 ⟨rfl, hg⟩
          have HG3 := Lib.hid (grownN_trans HG2.out hg)
          have B3 := Lib.hid (B2.out.grown hg)
          obtain ⟨c0, c1, c2, c3⟩ := four B3.out
          clear hg
          go_wp2_with fail
          refine (CrI.inR_b _ _ _ _).mono ?_
          rintro e w4 ⟨rfl, rfl⟩
          rw [hb]
          go_wp2
          go_ret
          exact ⟨ret_bool (by first | exact HR.out.symm | (rw [HR.out]; simp; omega) | (rw [HR.out]; simp)), HG3.out⟩
        · have HR : Hid (isParty W H X n f L P = false) := by show _ = _; unfold isParty; rw [hop, hcr, decide_eq_true hf, decide_eq_false (show ¬ P.length ≤ 10 by rw [HPN.out]; exact hl)]; rfl
          clear hO hA hop hcr hf
          go_enter Tryz.func71, Tryz.ntmps71
          go_wp2_with fail
          skip
          refine (HO.out _ HX.out).mono ?_
          rintro e w2 ⟨rfl, hg⟩
          have HG2 := Lib.hid (grownN_trans HG.out hg)
          have HC2 := Lib.hid (HC.out.grown hg)
          have B2 := Lib.hid (B1.out.grown hg)
          obtain ⟨c0, c1, c2, c3⟩ := four B2.out
          clear hg
          go_wp2_with fail
          refine (HA.out _ HC2.out).mono ?_
          rintro e w3 ⟨rfl, hg⟩
          have HG3 := Lib.hid (grownN_trans HG2.out hg)
          have B3 := Lib.hid (B2.out.grown hg)
          obtain ⟨c0, c1, c2, c3⟩ := four B3.out
          clear hg
          go_wp2_with fail
          refine (CrI.inR_b _ _ _ _).mono ?_
          rintro e w4 ⟨rfl, rfl⟩
          rw [hb]
          go_wp2
          go_ret
          exact ⟨ret_bool (by first | exact HR.out.symm | (rw [HR.out]; simp; omega) | (rw [HR.out]; simp)), HG3.out⟩
      · have hb : CrI.inb f 0 10000 = false := decide_eq_false hf
        have HR : Hid (isParty W H X n f L P = false) := by show _ = _; unfold isParty; rw [hop, hcr, decide_eq_false hf]; rfl
        clear hO hA hop hcr hf
        go_enter Tryz.func71, Tryz.ntmps71
        go_wp2_with fail
        skip
        refine (HO.out _ HX.out).mono ?_
        rintro e w2 ⟨rfl, hg⟩
        have HG2 := Lib.hid (grownN_trans HG.out hg)
        have HC2 := Lib.hid (HC.out.grown hg)
        have B2 := Lib.hid (B1.out.grown hg)
        obtain ⟨c0, c1, c2, c3⟩ := four B2.out
        clear hg
        go_wp2_with fail
        refine (HA.out _ HC2.out).mono ?_
        rintro e w3 ⟨rfl, hg⟩
        have HG3 := Lib.hid (grownN_trans HG2.out hg)
        have B3 := Lib.hid (B2.out.grown hg)
        obtain ⟨c0, c1, c2, c3⟩ := four B3.out
        clear hg
        go_wp2_with fail
        refine (CrI.inR_b _ _ _ _).mono ?_
        rintro e w4 ⟨rfl, rfl⟩
        rw [hb]
        go_wp2
        go_ret
        exact ⟨ret_bool (by first | exact HR.out.symm | (rw [HR.out]; simp; omega) | (rw [HR.out]; simp)), HG3.out⟩

end Go.Proofs.YtbjnbaddbanhbaaGreat.Pa
