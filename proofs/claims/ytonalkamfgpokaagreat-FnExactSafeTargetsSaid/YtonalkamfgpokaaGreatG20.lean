/- Contracts of DaysOfFood, RoomFor and IsParty of the program and of their models. Contracts of the models of Eat and PickUp. -/
import Derived.Test.YtonalkamfgpokaaGreatG5
import Derived.Test.YtonalkamfgpokaaGreatG18
import Derived.Test.YtonalkamfgpokaaGreatG19
import Derived.IntWalk
import Derived.Deep.RegionHeld3
import Derived.Test.YtonalkamfgpokaaGreatG16
namespace Go.Proofs.YtonalkamfgpokaaGreat.Pa
open Go.RowKit Kit Rw Rg Crw Four Md Ld Mn

def daysOf (L : List Mem) (f : Int) : Int := if areCrew L = true ∧ 0 ≤ f then f / needOf L else 0
def roomOf (L : List Mem) (f : Int) : Int := if f < 0 ∨ capOf L ≤ f then 0 else capOf L - f
def isParty (W H : Int) (X : List Int) (n f : Int) (L : List Mem) (P : List Bool) : Bool := isOpen W H X n && (areCrew L && (decide (0 ≤ f ∧ f ≤ 10000) && decide (P.length ≤ 10)))
set_option maxRecDepth 20000 in
set_option maxHeartbeats 2000000 in
theorem sRoom_any (w : World) (n f : Int) (cv pv : Value) (L : List Mem) (hf : (Lit.int .i64 f).wf = true) (hc : SeesG encM w cv L) :
    Calls Tryz.prog 113 #[.agg #[.int .i64 n, .int .i64 f, cv, pv]] w fun e w' => e = .returned (.int .i64 (roomOf L f)) ∧ w.grownBy w' none := by
  have g0 := World.grownBy_alloc w (.cells #[.int .i64 n, .int .i64 f, cv, pv] 42 (0, 0)) (none : Option Nat)
  have b0 := box_new w #[.int .i64 n, .int .i64 f, cv, pv] 42
  have HG := Lib.hid g0
  have HC := Lib.hid (hc.grown g0)
  have B0 := Lib.hid b0
  obtain ⟨c0, c1, c2, c3⟩ := four b0
  have HF := Lib.hid hf
  have hfb := i64_of hf
  clear hc g0 b0 hf
  obtain ⟨q, hq⟩ : ∃ q, q = capOf L := ⟨_, rfl⟩
  have hqb := capOf_bound L
  rw [← hq] at hqb
  have HQ := Lib.hid hq
  by_cases h0 : f < 0 ∨ q ≤ f
  · have HR : Hid (roomOf L f = 0) := if_pos (by rw [← hq]; exact h0)
    clear hq
    rcases h0 with h0 | h0
    · skip
      go_enter Tryz.func113, Tryz.ntmps113
      go_wp2_with fail
      refine (CrS.sCapOf_any _ cv L HC.out).mono ?_
      rintro e w2 ⟨rfl, hg⟩
      rw [← HQ.out]
      have HG2 := Lib.hid (grownN_trans HG.out hg)
      obtain ⟨c0, c1, c2, c3⟩ := four (B0.out.grown hg)
      clear hg
      go_wp2
      go_ret
      exact ⟨ret_i64 HR.out.symm, HG2.out⟩
    · by_cases h1 : f < 0
      · omega
      · skip
        go_enter Tryz.func113, Tryz.ntmps113
        go_wp2_with fail
        refine (CrS.sCapOf_any _ cv L HC.out).mono ?_
        rintro e w2 ⟨rfl, hg⟩
        rw [← HQ.out]
        have HG2 := Lib.hid (grownN_trans HG.out hg)
        obtain ⟨c0, c1, c2, c3⟩ := four (B0.out.grown hg)
        clear hg
        go_wp2
        go_ret
        exact ⟨ret_i64 HR.out.symm, HG2.out⟩
  · have HR : Hid (roomOf L f = q - f) := (if_neg (by rw [← hq]; exact h0)).trans (by rw [← hq])
    have h1 : ¬ f < 0 := fun h => h0 (.inl h)
    have h2 : ¬ q ≤ f := fun h => h0 (.inr h)
    clear hq h0
    go_enter Tryz.func113, Tryz.ntmps113
    go_wp2_with fail
    refine (CrS.sCapOf_any _ cv L HC.out).mono ?_
    rintro e w2 ⟨rfl, hg⟩
    rw [← HQ.out]
    have HG2 := Lib.hid (grownN_trans HG.out hg)
    obtain ⟨c0, c1, c2, c3⟩ := four (B0.out.grown hg)
    clear hg
    go_wp2
    go_ret
    exact ⟨ret_i64 (by rw [HR.out]), HG2.out⟩

set_option maxRecDepth 20000 in
set_option maxHeartbeats 2000000 in
theorem iRoom_any (w : World) (n f : Int) (cv pv : Value) (L : List Mem) (hf : (Lit.int .i64 f).wf = true) (hc : SeesG encM w cv L) :
    Calls Tryz.prog 114 #[.agg #[.int .i64 n, .int .i64 f, cv, pv]] w fun e w' => e = .returned (.int .i64 (roomOf L f)) ∧ w.grownBy w' none := by
  have g0 := World.grownBy_alloc w (.cells #[.int .i64 n, .int .i64 f, cv, pv] 42 (0, 0)) (none : Option Nat)
  have b0 := box_new w #[.int .i64 n, .int .i64 f, cv, pv] 42
  have HG := Lib.hid g0
  have HC := Lib.hid (hc.grown g0)
  have B0 := Lib.hid b0
  obtain ⟨c0, c1, c2, c3⟩ := four b0
  have HF := Lib.hid hf
  have hfb := i64_of hf
  clear hc g0 b0 hf
  obtain ⟨q, hq⟩ : ∃ q, q = capOf L := ⟨_, rfl⟩
  have hqb := capOf_bound L
  rw [← hq] at hqb
  have HQ := Lib.hid hq
  by_cases h0 : f < 0
  · have HR : Hid (roomOf L f = 0) := if_pos (.inl h0)
    clear hq
    go_enter Tryz.func114, Tryz.ntmps114
    go_wp2
    go_ret
    exact ⟨ret_i64 HR.out.symm, HG.out⟩
  · have hm : most 0 (q - f) = roomOf L f := by
      unfold most roomOf
      rw [← hq]
      split <;> split <;> omega
    have HM := Lib.hid hm
    have hw : IntKind.i64.wrap (q - f) = q - f := IntWalk.i64_in _ (by omega)
    clear hq hm
    go_enter Tryz.func114, Tryz.ntmps114
    have hd := grown_drew (World.grownBy.refl (w.alloc (.cells #[.int .i64 n, .int .i64 f, cv, pv] 42 (0, 0))) none)
    have HD := Lib.hid hd
    clear hd
    go_wp2_with fail
    generalize w.alloc (.cells #[.int .i64 n, .int .i64 f, cv, pv] 42 (0, 0)) = w1 at *
    refine wp_region_held_drew (S := fun w' => w'.cell? ⟨w.heap.size, 1, none⟩ = some (.int .i64 f) ∧ w'.cell? ⟨w.heap.size, 2, none⟩ = some cv) (by kernel_rfl) ⟨c1, c2⟩ (fun hHeld => ?_)
    refine wpAnyH_take (i := 0) (v := ?_) rfl (by kernel_rfl) (by kernel_rfl) (by kernel_rfl) (fun _ _ _ h => h) (Or.inl ⟨by rfl, ?_⟩) (by assumption) ?_; rotate_left; (focus (intro wS hSw; (try dsimp only at hSw); go_simp <;> with_reducible rfl)); (try simp only [Act.put, List.getElem_toArray, List.getElem_cons_succ, List.getElem_cons_zero, List.setIfInBounds_toArray, List.set_cons_zero, List.set_cons_succ])
    refine wpAnyH_take (i := 1) (v := ?_) rfl (by kernel_rfl) (by kernel_rfl) (by kernel_rfl) (fun _ _ _ h => h) (Or.inl ⟨by rfl, ?_⟩) (by assumption) ?_; rotate_left; (focus (intro wS hSw; (try dsimp only at hSw); go_simp <;> with_reducible rfl)); (try simp only [Act.put, List.getElem_toArray, List.getElem_cons_succ, List.getElem_cons_zero, List.setIfInBounds_toArray, List.set_cons_zero, List.set_cons_succ])
    refine wpAnyH_take (i := 3) (v := ?_) rfl (by kernel_rfl) (by kernel_rfl) (by kernel_rfl) (fun _ _ _ h => h) (Or.inl ⟨by rfl, ?_⟩) (by assumption) ?_; rotate_left; (focus (intro wS hSw; (try dsimp only at hSw); go_simp <;> with_reducible rfl)); (try simp only [Act.put, List.getElem_toArray, List.getElem_cons_succ, List.getElem_cons_zero, List.setIfInBounds_toArray, List.set_cons_zero, List.set_cons_succ])
    refine wpAnyH_take (i := 4) (v := ?_) rfl (by kernel_rfl) (by kernel_rfl) (by kernel_rfl) (fun _ _ _ h => h) (Or.inl ⟨by rfl, ?_⟩) (by assumption) ?_; rotate_left; (focus (intro wS hSw; (try dsimp only at hSw); go_simp <;> with_reducible rfl)); (try simp only [Act.put, List.getElem_toArray, List.getElem_cons_succ, List.getElem_cons_zero, List.setIfInBounds_toArray, List.set_cons_zero, List.set_cons_succ])
    refine wpAnyH_ready (rs := [2]) (by kernel_rfl) (by simp) ?_; refine AllReadyH.cons rfl (fun K hK => ?_) AllReadyH.nil; go_simp; (go_at_call 164; refine (CrI.iCapOf_any w1.drew cv L (HC.out.grown HD.out)).mono ?_; rintro e w3 ⟨rfl, hg⟩; rw [← HQ.out]; have HG3 := Lib.hid (grownN_trans HG.out (grown_old' HD.out hg)); have B3 := Lib.hid (B0.out.grown (grown_old' HD.out hg)); clear hg)
    refine hK.out _ _ ?_ (fun hHeld => ?_)
    · exact ⟨B3.out.cell 1, B3.out.cell 2⟩
    clear hK K
    (try simp only [Act.put, List.getElem_toArray, List.getElem_cons_succ, List.getElem_cons_zero, List.setIfInBounds_toArray, List.set_cons_zero, List.set_cons_succ])
    refine wpAnyH_take (i := 5) (v := ?_) rfl (by kernel_rfl) (by kernel_rfl) (by kernel_rfl) (fun _ _ _ h => h) (Or.inl ⟨by rfl, ?_⟩) (by assumption) ?_; rotate_left; (focus (intro wS hSw; (try dsimp only at hSw); go_simp <;> with_reducible rfl)); (try simp only [Act.put, List.getElem_toArray, List.getElem_cons_succ, List.getElem_cons_zero, List.setIfInBounds_toArray, List.set_cons_zero, List.set_cons_succ])
    refine wpAnyH_ready (rs := [6]) (by kernel_rfl) (by simp) ?_; refine AllReadyH.cons rfl (fun K hK => ?_) AllReadyH.nil; go_simp; (go_at_call 163; (try rw [hw]); refine (max_any 0 (q - f) w3).mono ?_; rintro e w4 ⟨rfl, hg⟩; rw [HM.out]; have HG4 := Lib.hid (grownN_trans HG3.out hg); have B4 := Lib.hid (B3.out.grown hg); clear hg)
    refine hK.out _ _ ?_ (fun hHeld => ?_)
    · exact ⟨B4.out.cell 1, B4.out.cell 2⟩
    clear hK K
    (try simp only [Act.put, List.getElem_toArray, List.getElem_cons_succ, List.getElem_cons_zero, List.setIfInBounds_toArray, List.set_cons_zero, List.set_cons_succ])
    refine wpAnyH_take (i := 7) (v := ?_) rfl (by kernel_rfl) (by kernel_rfl) (by kernel_rfl) (fun _ _ _ h => h) (Or.inl ⟨by rfl, ?_⟩) (by assumption) ?_; rotate_left; (focus (intro wS hSw; (try dsimp only at hSw); go_simp <;> with_reducible rfl)); (try simp only [Act.put, List.getElem_toArray, List.getElem_cons_succ, List.getElem_cons_zero, List.setIfInBounds_toArray, List.set_cons_zero, List.set_cons_succ])
    refine wpAnyH_done (by kernel_rfl) ?_ _
    (try simp only [Act.put, List.getElem_toArray, List.getElem_cons_succ, List.getElem_cons_zero, List.setIfInBounds_toArray, List.set_cons_zero, List.set_cons_succ])
    go_wp2
    go_ret
    exact ⟨rfl, HG4.out⟩

set_option maxRecDepth 20000 in
set_option maxHeartbeats 2000000 in
theorem sIsParty_any (w : World) (W H : Int) (x : Value) (X : List Int) (n f : Int) (cv pv : Value) (L : List Mem) (P : List Bool) (hx : Sees .i64 w x X) (hc : SeesG encM w cv L) (hp : SeesG encB w pv P) :
    Calls Tryz.prog 170 #[.agg #[.int .i64 W, .int .i64 H, x], .agg #[.int .i64 n, .int .i64 f, cv, pv]] w fun e w' => e = .returned (.bool (isParty W H X n f L P)) ∧ w.grownBy w' none := by
  have ga := World.grownBy_alloc w (.cells #[.int .i64 W, .int .i64 H, x] 37 (0, 0)) (none : Option Nat)
  have gb := World.grownBy_alloc (w.alloc (.cells #[.int .i64 W, .int .i64 H, x] 37 (0, 0))) (.cells #[.int .i64 n, .int .i64 f, cv, pv] 42 (0, 0)) (none : Option Nat)
  have b0 := (box_new w #[.int .i64 W, .int .i64 H, x] 37).grown gb
  have b1 := box_new (w.alloc (.cells #[.int .i64 W, .int .i64 H, x] 37 (0, 0))) #[.int .i64 n, .int .i64 f, cv, pv] 42
  simp only [World.size_alloc] at b1
  have HG := Lib.hid (grownN_trans ga gb)
  have HX := Lib.hid (hx.grown HG.out)
  have HC := Lib.hid (hc.grown HG.out)
  have hpl := hp.len
  obtain ⟨pa, pn, pc, hpe, HPN⟩ := hp.shape
  subst hpe
  have hpn : pn ≤ 9223372036854775807 := by rw [← HPN.out]; exact hpl
  have B0 := Lib.hid b0
  have B1 := Lib.hid b1
  obtain ⟨d0, d1, d2⟩ := b0.three
  obtain ⟨c0, c1, c2, c3⟩ := four b1
  clear hx hc hp ga gb b0 b1 hpl
  have hO := fun w' hs => LandS.sIsOpen_any w' W H n x X hs
  have hA := fun w' hs => CrS.sAreCrew_any w' cv L hs
  cases hop : isOpen W H X n
  · have HR : Hid (isParty W H X n f L P = false) := by show _ = _; unfold isParty; rw [hop]; rfl
    simp only [hop] at hO
    have HO := Lib.hid hO
    clear hO hA hop
    go_enter Tryz.func170, Tryz.ntmps170
    go_wp2_with fail
    skip
    refine (HO.out _ HX.out).mono ?_
    rintro e w2 ⟨rfl, hg⟩
    have HG2 := Lib.hid (grownN_trans HG.out hg)
    have HC2 := Lib.hid (HC.out.grown hg)
    have B2 := Lib.hid (B1.out.grown hg)
    obtain ⟨c0, c1, c2, c3⟩ := four B2.out
    clear hg
    go_wp2
    go_ret
    exact ⟨ret_bool (by first | exact HR.out.symm | (rw [HR.out]; simp; omega) | (rw [HR.out]; simp)), HG2.out⟩
  · simp only [hop] at hO
    have HO := Lib.hid hO
    cases hcr : areCrew L
    · have HR : Hid (isParty W H X n f L P = false) := by show _ = _; unfold isParty; rw [hop, hcr]; rfl
      simp only [hcr] at hA
      have HA := Lib.hid hA
      clear hO hA hop hcr
      go_enter Tryz.func170, Tryz.ntmps170
      go_wp2_with fail
      skip
      refine (HO.out _ HX.out).mono ?_
      rintro e w2 ⟨rfl, hg⟩
      have HG2 := Lib.hid (grownN_trans HG.out hg)
      have HC2 := Lib.hid (HC.out.grown hg)
      have B2 := Lib.hid (B1.out.grown hg)
      obtain ⟨c0, c1, c2, c3⟩ := four B2.out
      clear hg
      go_wp2_with fail
      refine (HA.out _ HC2.out).mono ?_
      rintro e w3 ⟨rfl, hg⟩
      have HG3 := Lib.hid (grownN_trans HG2.out hg)
      have B3 := Lib.hid (B2.out.grown hg)
      obtain ⟨c0, c1, c2, c3⟩ := four B3.out
      clear hg
      go_wp2
      go_ret
      exact ⟨ret_bool (by first | exact HR.out.symm | (rw [HR.out]; simp; omega) | (rw [HR.out]; simp)), HG3.out⟩
    · simp only [hcr] at hA
      have HA := Lib.hid hA
      by_cases hf : 0 ≤ f ∧ f ≤ 10000
      · have hb : CrS.inb f 0 10000 = true := decide_eq_true hf
        by_cases hl : pn ≤ 10
        · have HR : Hid (isParty W H X n f L P = true) := by show _ = _; unfold isParty; rw [hop, hcr, decide_eq_true hf, decide_eq_true (show P.length ≤ 10 by rw [HPN.out]; exact hl)]; rfl
          clear hO hA hop hcr hf
          go_enter Tryz.func170, Tryz.ntmps170
          go_wp2_with fail
          skip
          refine (HO.out _ HX.out).mono ?_
          rintro e w2 ⟨rfl, hg⟩
          have HG2 := Lib.hid (grownN_trans HG.out hg)
          have HC2 := Lib.hid (HC.out.grown hg)
          have B2 := Lib.hid (B1.out.grown hg)
          obtain ⟨c0, c1, c2, c3⟩ := four B2.out
          clear hg
          go_wp2_with fail
          refine (HA.out _ HC2.out).mono ?_
          rintro e w3 ⟨rfl, hg⟩
          have HG3 := Lib.hid (grownN_trans HG2.out hg)
          have B3 := Lib.hid (B2.out.grown hg)
          obtain ⟨c0, c1, c2, c3⟩ := four B3.out
          clear hg
          go_wp2_with fail
          refine (CrS.l1In_b _ _ _ _).mono ?_
          rintro e w4 ⟨rfl, rfl⟩
          rw [hb]
          go_wp2
          go_ret
          exact ⟨ret_bool (by first | exact HR.out.symm | (rw [HR.out]; simp; omega) | (rw [HR.out]; simp)), HG3.out⟩
        · have HR : Hid (isParty W H X n f L P = false) := by show _ = _; unfold isParty; rw [hop, hcr, decide_eq_true hf, decide_eq_false (show ¬ P.length ≤ 10 by rw [HPN.out]; exact hl)]; rfl
          clear hO hA hop hcr hf
          go_enter Tryz.func170, Tryz.ntmps170
          go_wp2_with fail
          skip
          refine (HO.out _ HX.out).mono ?_
          rintro e w2 ⟨rfl, hg⟩
          have HG2 := Lib.hid (grownN_trans HG.out hg)
          have HC2 := Lib.hid (HC.out.grown hg)
          have B2 := Lib.hid (B1.out.grown hg)
          obtain ⟨c0, c1, c2, c3⟩ := four B2.out
          clear hg
          go_wp2_with fail
          refine (HA.out _ HC2.out).mono ?_
          rintro e w3 ⟨rfl, hg⟩
          have HG3 := Lib.hid (grownN_trans HG2.out hg)
          have B3 := Lib.hid (B2.out.grown hg)
          obtain ⟨c0, c1, c2, c3⟩ := four B3.out
          clear hg
          go_wp2_with fail
          refine (CrS.l1In_b _ _ _ _).mono ?_
          rintro e w4 ⟨rfl, rfl⟩
          rw [hb]
          go_wp2
          go_ret
          exact ⟨ret_bool (by first | exact HR.out.symm | (rw [HR.out]; simp; omega) | (rw [HR.out]; simp)), HG3.out⟩
      · have hb : CrS.inb f 0 10000 = false := decide_eq_false hf
        have HR : Hid (isParty W H X n f L P = false) := by show _ = _; unfold isParty; rw [hop, hcr, decide_eq_false hf]; rfl
        clear hO hA hop hcr hf
        go_enter Tryz.func170, Tryz.ntmps170
        go_wp2_with fail
        skip
        refine (HO.out _ HX.out).mono ?_
        rintro e w2 ⟨rfl, hg⟩
        have HG2 := Lib.hid (grownN_trans HG.out hg)
        have HC2 := Lib.hid (HC.out.grown hg)
        have B2 := Lib.hid (B1.out.grown hg)
        obtain ⟨c0, c1, c2, c3⟩ := four B2.out
        clear hg
        go_wp2_with fail
        refine (HA.out _ HC2.out).mono ?_
        rintro e w3 ⟨rfl, hg⟩
        have HG3 := Lib.hid (grownN_trans HG2.out hg)
        have B3 := Lib.hid (B2.out.grown hg)
        obtain ⟨c0, c1, c2, c3⟩ := four B3.out
        clear hg
        go_wp2_with fail
        refine (CrS.l1In_b _ _ _ _).mono ?_
        rintro e w4 ⟨rfl, rfl⟩
        rw [hb]
        go_wp2
        go_ret
        exact ⟨ret_bool (by first | exact HR.out.symm | (rw [HR.out]; simp; omega) | (rw [HR.out]; simp)), HG3.out⟩

set_option maxRecDepth 20000 in
set_option maxHeartbeats 2000000 in
theorem iIsParty_any (w : World) (W H : Int) (x : Value) (X : List Int) (n f : Int) (cv pv : Value) (L : List Mem) (P : List Bool) (hx : Sees .i64 w x X) (hc : SeesG encM w cv L) (hp : SeesG encB w pv P) :
    Calls Tryz.prog 172 #[.agg #[.int .i64 W, .int .i64 H, x], .agg #[.int .i64 n, .int .i64 f, cv, pv]] w fun e w' => e = .returned (.bool (isParty W H X n f L P)) ∧ w.grownBy w' none := by
  have ga := World.grownBy_alloc w (.cells #[.int .i64 W, .int .i64 H, x] 37 (0, 0)) (none : Option Nat)
  have gb := World.grownBy_alloc (w.alloc (.cells #[.int .i64 W, .int .i64 H, x] 37 (0, 0))) (.cells #[.int .i64 n, .int .i64 f, cv, pv] 42 (0, 0)) (none : Option Nat)
  have b0 := (box_new w #[.int .i64 W, .int .i64 H, x] 37).grown gb
  have b1 := box_new (w.alloc (.cells #[.int .i64 W, .int .i64 H, x] 37 (0, 0))) #[.int .i64 n, .int .i64 f, cv, pv] 42
  simp only [World.size_alloc] at b1
  have HG := Lib.hid (grownN_trans ga gb)
  have HX := Lib.hid (hx.grown HG.out)
  have HC := Lib.hid (hc.grown HG.out)
  have hpl := hp.len
  obtain ⟨pa, pn, pc, hpe, HPN⟩ := hp.shape
  subst hpe
  have hpn : pn ≤ 9223372036854775807 := by rw [← HPN.out]; exact hpl
  have B0 := Lib.hid b0
  have B1 := Lib.hid b1
  obtain ⟨d0, d1, d2⟩ := b0.three
  obtain ⟨c0, c1, c2, c3⟩ := four b1
  clear hx hc hp ga gb b0 b1 hpl
  have hO := fun w' hs => LandI.isOpen_any w' W H n x X hs
  have hA := fun w' hs => CrI.iAreCrew_any w' cv L hs
  cases hop : isOpen W H X n
  · have HR : Hid (isParty W H X n f L P = false) := by show _ = _; unfold isParty; rw [hop]; rfl
    simp only [hop] at hO
    have HO := Lib.hid hO
    clear hO hA hop
    go_enter Tryz.func172, Tryz.ntmps172
    go_wp2_with fail
    skip
    refine (HO.out _ HX.out).mono ?_
    rintro e w2 ⟨rfl, hg⟩
    have HG2 := Lib.hid (grownN_trans HG.out hg)
    have HC2 := Lib.hid (HC.out.grown hg)
    have B2 := Lib.hid (B1.out.grown hg)
    obtain ⟨c0, c1, c2, c3⟩ := four B2.out
    clear hg
    go_wp2
    go_ret
    exact ⟨ret_bool (by first | exact HR.out.symm | (rw [HR.out]; simp; omega) | (rw [HR.out]; simp)), HG2.out⟩
  · simp only [hop] at hO
    have HO := Lib.hid hO
    cases hcr : areCrew L
    · have HR : Hid (isParty W H X n f L P = false) := by show _ = _; unfold isParty; rw [hop, hcr]; rfl
      simp only [hcr] at hA
      have HA := Lib.hid hA
      clear hO hA hop hcr
      go_enter Tryz.func172, Tryz.ntmps172
      go_wp2_with fail
      skip
      refine (HO.out _ HX.out).mono ?_
      rintro e w2 ⟨rfl, hg⟩
      have HG2 := Lib.hid (grownN_trans HG.out hg)
      have HC2 := Lib.hid (HC.out.grown hg)
      have B2 := Lib.hid (B1.out.grown hg)
      obtain ⟨c0, c1, c2, c3⟩ := four B2.out
      clear hg
      go_wp2_with fail
      refine (HA.out _ HC2.out).mono ?_
      rintro e w3 ⟨rfl, hg⟩
      have HG3 := Lib.hid (grownN_trans HG2.out hg)
      have B3 := Lib.hid (B2.out.grown hg)
      obtain ⟨c0, c1, c2, c3⟩ := four B3.out
      clear hg
      go_wp2
      go_ret
      exact ⟨ret_bool (by first | exact HR.out.symm | (rw [HR.out]; simp; omega) | (rw [HR.out]; simp)), HG3.out⟩
    · simp only [hcr] at hA
      have HA := Lib.hid hA
      by_cases hf : 0 ≤ f ∧ f ≤ 10000
      · have hb : CrI.inb f 0 10000 = true := decide_eq_true hf
        by_cases hl : pn ≤ 10
        · have HR : Hid (isParty W H X n f L P = true) := by show _ = _; unfold isParty; rw [hop, hcr, decide_eq_true hf, decide_eq_true (show P.length ≤ 10 by rw [HPN.out]; exact hl)]; rfl
          clear hO hA hop hcr hf
          go_enter Tryz.func172, Tryz.ntmps172
          go_wp2_with fail
          skip
          refine (HO.out _ HX.out).mono ?_
          rintro e w2 ⟨rfl, hg⟩
          have HG2 := Lib.hid (grownN_trans HG.out hg)
          have HC2 := Lib.hid (HC.out.grown hg)
          have B2 := Lib.hid (B1.out.grown hg)
          obtain ⟨c0, c1, c2, c3⟩ := four B2.out
          clear hg
          go_wp2_with fail
          refine (HA.out _ HC2.out).mono ?_
          rintro e w3 ⟨rfl, hg⟩
          have HG3 := Lib.hid (grownN_trans HG2.out hg)
          have B3 := Lib.hid (B2.out.grown hg)
          obtain ⟨c0, c1, c2, c3⟩ := four B3.out
          clear hg
          go_wp2_with fail
          refine (CrI.inR_b _ _ _ _).mono ?_
          rintro e w4 ⟨rfl, rfl⟩
          rw [hb]
          go_wp2
          go_ret
          exact ⟨ret_bool (by first | exact HR.out.symm | (rw [HR.out]; simp; omega) | (rw [HR.out]; simp)), HG3.out⟩
        · have HR : Hid (isParty W H X n f L P = false) := by show _ = _; unfold isParty; rw [hop, hcr, decide_eq_true hf, decide_eq_false (show ¬ P.length ≤ 10 by rw [HPN.out]; exact hl)]; rfl
          clear hO hA hop hcr hf
          go_enter Tryz.func172, Tryz.ntmps172
          go_wp2_with fail
          skip
          refine (HO.out _ HX.out).mono ?_
          rintro e w2 ⟨rfl, hg⟩
          have HG2 := Lib.hid (grownN_trans HG.out hg)
          have HC2 := Lib.hid (HC.out.grown hg)
          have B2 := Lib.hid (B1.out.grown hg)
          obtain ⟨c0, c1, c2, c3⟩ := four B2.out
          clear hg
          go_wp2_with fail
          refine (HA.out _ HC2.out).mono ?_
          rintro e w3 ⟨rfl, hg⟩
          have HG3 := Lib.hid (grownN_trans HG2.out hg)
          have B3 := Lib.hid (B2.out.grown hg)
          obtain ⟨c0, c1, c2, c3⟩ := four B3.out
          clear hg
          go_wp2_with fail
          refine (CrI.inR_b _ _ _ _).mono ?_
          rintro e w4 ⟨rfl, rfl⟩
          rw [hb]
          go_wp2
          go_ret
          exact ⟨ret_bool (by first | exact HR.out.symm | (rw [HR.out]; simp; omega) | (rw [HR.out]; simp)), HG3.out⟩
      · have hb : CrI.inb f 0 10000 = false := decide_eq_false hf
        have HR : Hid (isParty W H X n f L P = false) := by show _ = _; unfold isParty; rw [hop, hcr, decide_eq_false hf]; rfl
        clear hO hA hop hcr hf
        go_enter Tryz.func172, Tryz.ntmps172
        go_wp2_with fail
        skip
        refine (HO.out _ HX.out).mono ?_
        rintro e w2 ⟨rfl, hg⟩
        have HG2 := Lib.hid (grownN_trans HG.out hg)
        have HC2 := Lib.hid (HC.out.grown hg)
        have B2 := Lib.hid (B1.out.grown hg)
        obtain ⟨c0, c1, c2, c3⟩ := four B2.out
        clear hg
        go_wp2_with fail
        refine (HA.out _ HC2.out).mono ?_
        rintro e w3 ⟨rfl, hg⟩
        have HG3 := Lib.hid (grownN_trans HG2.out hg)
        have B3 := Lib.hid (B2.out.grown hg)
        obtain ⟨c0, c1, c2, c3⟩ := four B3.out
        clear hg
        go_wp2_with fail
        refine (CrI.inR_b _ _ _ _).mono ?_
        rintro e w4 ⟨rfl, rfl⟩
        rw [hb]
        go_wp2
        go_ret
        exact ⟨ret_bool (by first | exact HR.out.symm | (rw [HR.out]; simp; omega) | (rw [HR.out]; simp)), HG3.out⟩

end Go.Proofs.YtonalkamfgpokaaGreat.Pa

namespace Go.Proofs.YtonalkamfgpokaaGreat.Pd
open Go.RowKit Kit Rw Rg Crw Four PartyL Pc Pa Mn

def eatB (L : List Mem) (f : Int) : Bool := areCrew L && decide (needOf L ≤ f)
def eatF (L : List Mem) (f : Int) : Int := if eatB L f = true then f - needOf L else f
theorem eatB_no {L : List Mem} {f : Int} (h : areCrew L = false) : eatB L f = false := by unfold eatB; rw [h]; rfl
theorem eatB_few {L : List Mem} {f : Int} (h : f < needOf L) : eatB L f = false := by unfold eatB; rw [decide_eq_false (by omega)]; simp
theorem eatB_yes {L : List Mem} {f : Int} (h : areCrew L = true) (h2 : needOf L ≤ f) : eatB L f = true := by unfold eatB; rw [h, decide_eq_true h2]; rfl
theorem eatF_no {L : List Mem} {f : Int} (h : eatB L f = false) : eatF L f = f := by unfold eatF; rw [h]; rfl
theorem eatF_yes {L : List Mem} {f : Int} (h : eatB L f = true) : eatF L f = f - needOf L := by unfold eatF; rw [h]; rfl

set_option maxRecDepth 20000 in
set_option maxHeartbeats 4000000 in
theorem sEat_any (w : World) (n f : Int) (cv pv : Value) (L : List Mem) (P : List Bool) (hf : (Lit.int .i64 f).wf = true) (hc : SeesG encM w cv L) (hp : SeesG encB w pv P) (hL : L.length ≤ 1000000000) (hP : P.length ≤ 1000000000) :
    Calls Tryz.prog 98 #[.agg #[.int .i64 n, .int .i64 f, cv, pv]] w fun e w' => ∃ u t, e = .returned (.tuple #[.agg #[.int .i64 n, .int .i64 (eatF L f), u, t], .bool (eatB L f)]) ∧ PartyOut w w' u t L P := by
  have g0 := World.grownBy_alloc w (.cells #[.int .i64 n, .int .i64 f, cv, pv] 42 (0, 0)) (none : Option Nat)
  have g1 := World.grownBy_alloc (w.alloc (.cells #[.int .i64 n, .int .i64 f, cv, pv] 42 (0, 0))) (.cells #[.int .i64 0, .int .i64 0, .slice none 0 0, .slice none 0 0] 42 (0, 0)) (none : Option Nat)
  have b0 := (box_new w #[.int .i64 n, .int .i64 f, cv, pv] 42).grown g1
  have b1 := box_new (w.alloc (.cells #[.int .i64 n, .int .i64 f, cv, pv] 42 (0, 0))) #[.int .i64 0, .int .i64 0, .slice none 0 0, .slice none 0 0] 42
  simp only [World.size_alloc] at b1
  have HG := Lib.hid (grownN_trans g0 g1)
  have HC := Lib.hid (hc.grown HG.out)
  have HP := Lib.hid (hp.grown HG.out)
  have B0 := Lib.hid b0
  have B1 := Lib.hid b1
  obtain ⟨c0, c1, c2, c3⟩ := four b0
  have HLL := Lib.hid hL
  have HPP := Lib.hid hP
  have HF := Lib.hid hf
  have hfb := i64_of hf
  clear hc hp g0 g1 b0 b1 hL hP hf
  obtain ⟨q, hq⟩ : ∃ q, q = needOf L := ⟨_, rfl⟩
  have hqb := needOf_bound L
  rw [← hq] at hqb
  have HQ := Lib.hid hq
  have key : (q = 0 ∧ eatB L f = false) ∨ (0 < q ∧ f < q ∧ eatB L f = false) ∨ (0 < q ∧ q ≤ f ∧ eatB L f = true) := by
    cases hcr : areCrew L
    · exact .inl ⟨by rw [hq]; exact needOf_zero hcr, eatB_no hcr⟩
    · have h0 : 0 < q := by rw [hq]; exact needOf_pos hcr
      by_cases h : f < q
      · exact .inr (.inl ⟨h0, h, eatB_few (by omega)⟩)
      · exact .inr (.inr ⟨h0, by omega, eatB_yes hcr (by omega)⟩)
  clear hq
  go_enter Tryz.func98, Tryz.ntmps98
  go_wp2_with fail
  generalize (w.alloc (.cells #[.int .i64 n, .int .i64 f, cv, pv] 42 (0, 0))).alloc (.cells #[.int .i64 0, .int .i64 0, .slice none 0 0, .slice none 0 0] 42 (0, 0)) = W at *
  refine (copy_any W n f cv pv L P HC.out HP.out HLL.out HPP.out).mono ?_
  rintro e w2 ⟨u, t, rfl, ho, hto, hap, hg⟩
  obtain ⟨ua, un, uc, hu, HUN⟩ := ho.sees.shape
  obtain ⟨ta, tn, tc, ht, HTN⟩ := hto.sees.shape
  subst hu
  subst ht
  have g3 := World.grownBy_alloc w2 (.cells #[.int .i64 n, .int .i64 f, .slice ua un uc, .slice ta tn tc] 42 (0, 0)) (none : Option Nat)
  have b4 := box_new w2 #[.int .i64 n, .int .i64 f, .slice ua un uc, .slice ta tn tc] 42
  have hWs : w.heap.size + 1 < W.heap.size := B1.out.lt
  have hW2 : W.heap.size ≤ w2.heap.size := hg.size
  have HO := Lib.hid (ho.grown g3)
  have HTO := Lib.hid (hto.grown g3)
  have HAP := Lib.hid hap
  have HOL := Lib.hid ho.lt
  have HTL := Lib.hid hto.lt
  have HG3 := Lib.hid (grownN_trans hg g3)
  have B3 := Lib.hid b4
  obtain ⟨c0, c1, c2, c3⟩ := four (B0.out.grown HG3.out)
  obtain ⟨d0, d1, d2, d3⟩ := four b4
  clear ho hto hap hg g3 b4
  go_wp2_with fail
  generalize w2.alloc (.cells #[.int .i64 n, .int .i64 f, .slice ua un uc, .slice ta tn tc] 42 (0, 0)) = w3 at *
  refine (CrS.sNeedOf_any _ cv L (HC.out.grown HG3.out)).mono ?_
  rintro e w4 ⟨rfl, hg⟩
  rw [← HQ.out]
  have HG4 := Lib.hid (grownN_trans HG3.out hg)
  have HO4 := Lib.hid (HO.out.grown hg)
  have HTO4 := Lib.hid (HTO.out.grown hg)
  have B4 := Lib.hid (B3.out.grown hg)
  have B14 := Lib.hid (B1.out.grown HG4.out)
  obtain ⟨c0, c1, c2, c3⟩ := four (B0.out.grown HG4.out)
  obtain ⟨d0, d1, d2, d3⟩ := four B4.out
  clear hg
  rcases key with ⟨h0, he⟩ | ⟨h0, h1, he⟩ | ⟨h0, h1, he⟩
  · have HR := Lib.hid (eatF_no he)
    have HE := Lib.hid he
    obtain ⟨⟨p0, r0⟩, ⟨p1, r1⟩, ⟨p2, r2⟩, ⟨p3, r3⟩⟩ := put4_on B14.out (.int .i64 n) (.int .i64 f) (.slice ua un uc) (.slice ta tn tc)
    clear he
    go_wp2
    try simp only [Exit.inBlock, Exit.then]
    have hP4 := put4_grown w4 (w.heap.size + 1) (.int .i64 n) (.int .i64 f) (.slice ua un uc) (.slice ta tn tc)
    refine ret_box1 rfl rfl (put4_box (x' := .int .i64 n) (y' := .int .i64 f) (z' := (.slice ua un uc)) (u' := (.slice ta tn tc)) B14.out) Tryz.underlying42 rfl (by kernel_rfl) rfl ?_
    rw [HR.out, HE.out]
    exact ⟨(.slice ua un uc), (.slice ta tn tc), rfl, (HO4.out.kept hP4 (.inr (HO4.out.off (by omega)))).lower (by omega), (HTO4.out.kept hP4 (.inr (HTO4.out.off (by omega)))).lower (by omega), HAP.out, grown_new (grownN_trans HG.out HG4.out) hP4 (fun c h => by injection h with h; omega)⟩
  · have HR := Lib.hid (eatF_no he)
    have HE := Lib.hid he
    have h2 : ¬ q = 0 := by omega
    obtain ⟨⟨p0, r0⟩, ⟨p1, r1⟩, ⟨p2, r2⟩, ⟨p3, r3⟩⟩ := put4_on B14.out (.int .i64 n) (.int .i64 f) (.slice ua un uc) (.slice ta tn tc)
    clear he
    go_wp2
    try simp only [Exit.inBlock, Exit.then]
    have hP4 := put4_grown w4 (w.heap.size + 1) (.int .i64 n) (.int .i64 f) (.slice ua un uc) (.slice ta tn tc)
    refine ret_box1 rfl rfl (put4_box (x' := .int .i64 n) (y' := .int .i64 f) (z' := (.slice ua un uc)) (u' := (.slice ta tn tc)) B14.out) Tryz.underlying42 rfl (by kernel_rfl) rfl ?_
    rw [HR.out, HE.out]
    exact ⟨(.slice ua un uc), (.slice ta tn tc), rfl, (HO4.out.kept hP4 (.inr (HO4.out.off (by omega)))).lower (by omega), (HTO4.out.kept hP4 (.inr (HTO4.out.off (by omega)))).lower (by omega), HAP.out, grown_new (grownN_trans HG.out HG4.out) hP4 (fun c h => by injection h with h; omega)⟩
  · have HR : Hid (eatF L f = f - q) := (eatF_yes he).trans (by rw [HQ.out])
    have HE := Lib.hid he
    have h2 : ¬ q = 0 := by omega
    have h3 : ¬ f < q := by omega
    have h4 : (q == 0) = false := by simp; omega
    have hw : IntKind.i64.wrap (f - q) = f - q := IntWalk.i64_in _ (by omega)
    have hset := grown_set w4 w2.heap.size 1 (.int .i64 (f - q))
    have B5 := Lib.hid (four_set1 (v := .int .i64 (f - q)) B4.out)
    have f4 := B4.out.free 1
    have hs2 : (⟨w.heap.size + 1, 0, none⟩ : Addr).block ≠ w2.heap.size := by show w.heap.size + 1 ≠ _; omega
    have B15 := Lib.hid (B14.out.kept hset (by intro e; injection e with e; omega))
    have HO5 := Lib.hid (HO4.out.kept hset (.inr (fun e => by have := (HOL.out _ e).2; omega)))
    have HTO5 := Lib.hid (HTO4.out.kept hset (.inr (fun e => by have := (HTL.out _ e).2; omega)))
    have HG5 := Lib.hid (grown_new (grownN_trans HG.out HG4.out) hset (fun c h => by injection h with h; omega))
    obtain ⟨e0, e1, e2, e3⟩ := four B5.out
    obtain ⟨⟨p0, r0⟩, ⟨p1, r1⟩, ⟨p2, r2⟩, ⟨p3, r3⟩⟩ := put4_on B15.out (.int .i64 n) (.int .i64 (f - q)) (.slice ua un uc) (.slice ta tn tc)
    clear he hset hs2
    go_wp2
    try simp only [Exit.inBlock, Exit.then]
    have hP4 := put4_grown (w4.setCell ⟨w2.heap.size, 1, none⟩ (.int .i64 (f - q))) (w.heap.size + 1) (.int .i64 n) (.int .i64 (f - q)) (.slice ua un uc) (.slice ta tn tc)
    refine ret_box1 rfl rfl (put4_box (x' := .int .i64 n) (y' := .int .i64 (f - q)) (z' := (.slice ua un uc)) (u' := (.slice ta tn tc)) B15.out) Tryz.underlying42 rfl (by kernel_rfl) rfl ?_
    rw [HR.out, HE.out]
    exact ⟨(.slice ua un uc), (.slice ta tn tc), rfl, (HO5.out.kept hP4 (.inr (HO5.out.off (by omega)))).lower (by omega), (HTO5.out.kept hP4 (.inr (HTO5.out.off (by omega)))).lower (by omega), HAP.out, grown_new HG5.out hP4 (fun c h => by injection h with h; omega)⟩
end Go.Proofs.YtonalkamfgpokaaGreat.Pd
