/- Contracts of mixed days, of the program and of its model. -/
import Derived.Test.YtlhbnkjijggfaaaDoorRaM
namespace Go.Proofs.YtlhbnkjijggfaaaDoor.Rat
open Go.RowKit Kit Rw Rg Crw Md Four

/-- The greatest of so many numbers from 0 on that is right, or -1. -/
def dn (ok : Nat → Bool) : Nat → Int
  | 0 => -1
  | j + 1 => if ok j = true then (j : Int) else dn ok j
theorem dn_yes {ok : Nat → Bool} {j : Nat} (h : ok j = true) : dn ok (j + 1) = j := if_pos h
theorem dn_no {ok : Nat → Bool} {j : Nat} (h : ok j = false) : dn ok (j + 1) = dn ok j := if_neg (by simp [h])
def okM (L : List Mem) (f d : Int) (j : Nat) : Bool := decide ((j : Int) * needAt L 0 + (d - j) * needAt L 1 ≤ f)
def mixed (L : List Mem) (f d : Int) : Int := if areCrew L = true ∧ 0 ≤ d ∧ d ≤ 1000 then dn (okM L f d) (d.toNat + 1) else -1
theorem mixed_no {L : List Mem} {f d : Int} (h : ¬ (areCrew L = true ∧ 0 ≤ d ∧ d ≤ 1000)) : mixed L f d = -1 := if_neg h
theorem mixed_yes {L : List Mem} {f d : Int} (h : areCrew L = true ∧ 0 ≤ d ∧ d ≤ 1000) : mixed L f d = dn (okM L f d) (d.toNat + 1) := if_pos h
theorem mul_bd {j a : Int} (hj : 0 ≤ j ∧ j ≤ 1000) (ha : 0 ≤ a ∧ a ≤ 900) : 0 ≤ j * a ∧ j * a ≤ 900000 := by
  refine ⟨Int.mul_nonneg hj.1 ha.1, ?_⟩
  have h1 : j * a ≤ 1000 * a := Int.mul_le_mul_of_nonneg_right hj.2 ha.1
  omega

set_option maxRecDepth 20000 in
set_option maxHeartbeats 4000000 in
theorem sMixed_any (w : World) (n f : Int) (cv pv : Value) (L : List Mem) (d : Int) (hf : (Lit.int .i64 f).wf = true) (hd : -9223372036854775808 ≤ d ∧ d ≤ 9223372036854775807) (hc : SeesG encM w cv L) :
    Calls Tryd.prog 44 #[.agg #[.int .i64 n, .int .i64 f, cv, pv], .int .i64 d] w fun e w' => e = .returned (.int .i64 (mixed L f d)) ∧ w.grownBy w' none := by
  have g0 := World.grownBy_alloc w (.cells #[.int .i64 n, .int .i64 f, cv, pv] 50 (0, 0)) (none : Option Nat)
  have b0 := box_new w #[.int .i64 n, .int .i64 f, cv, pv] 50
  have HG := Lib.hid g0
  have HC := Lib.hid hc
  have B0 := Lib.hid b0
  have HF := Lib.hid hf
  have hfb := i64_of hf
  have HA := Lib.hid (CrS.sAreCrew_any _ cv L (hc.grown g0))
  have hr := inS_b d 0 1000
  have HNB := Lib.hid (And.intro (needAt_bound L 0) (needAt_bound L 1))
  obtain ⟨c0, c1, c2, c3⟩ := four b0
  by_cases hcr : areCrew L = true
  rotate_left
  · have HR : Hid (mixed L f d = -1) := mixed_no (fun e => hcr e.1)
    rw [Bool.not_eq_true] at hcr
    rw [hcr] at HA
    clear hc g0 b0 hf hr hcr
    go_enter Tryd.func44, Tryd.ntmps44
    go_wp2_with fail
    refine HA.out.mono ?_
    rintro e w2 ⟨rfl, hg⟩
    have HG2 := Lib.hid (grownN_trans HG.out hg)
    clear hg
    go_wp2
    go_ret
    exact ⟨ret_i64 HR.out.symm, HG2.out⟩
  rw [hcr] at HA
  by_cases hin : 0 ≤ d ∧ d ≤ 1000
  rotate_left
  · have HR : Hid (mixed L f d = -1) := mixed_no (fun e => hin e.2)
    have HIN := Lib.hid fun w => hr w
    rw [inb_no hin] at HIN
    clear hc g0 b0 hf hr hcr hin
    go_enter Tryd.func44, Tryd.ntmps44
    go_wp2_with fail
    refine HA.out.mono ?_
    rintro e w2 ⟨rfl, hg⟩
    have HG2 := Lib.hid (grownN_trans HG.out hg)
    clear hg
    go_wp2_with fail
    refine (HIN.out _).mono ?_
    rintro e w3 ⟨rfl, rfl⟩
    go_wp2
    go_ret
    exact ⟨ret_i64 HR.out.symm, HG2.out⟩
  have HR := Lib.hid (mixed_yes (f := f) ⟨hcr, hin⟩)
  have HIN := Lib.hid fun w => hr w
  rw [inb_yes hin] at HIN
  obtain ⟨D, rfl⟩ : ∃ D : Nat, d = D := ⟨d.toNat, by omega⟩
  rw [Int.toNat_natCast] at HR
  have hD : D ≤ 1000 := by omega
  clear hc g0 b0 hf hr hcr hin hd
  go_enter Tryd.func44, Tryd.ntmps44
  go_wp2_with fail
  refine HA.out.mono ?_
  rintro e w2 ⟨rfl, hg⟩
  have HG2 := Lib.hid (grownN_trans HG.out hg)
  have B2 := Lib.hid (B0.out.grown hg)
  clear hg c0 c1 c2 c3
  obtain ⟨c0, c1, c2, c3⟩ := four B2.out
  go_wp2_with fail
  refine (HIN.out _).mono ?_
  rintro e w3 ⟨rfl, rfl⟩
  go_wp2
  go_loopw [5] (fun i wr => ∃ j : Nat, j ≤ D + 1 ∧ i = .int .i64 ((j : Int) - 1) ∧ Hid (dn (okM L f D) (D + 1) = dn (okM L f D) j) ∧ Hid (w2.grownBy wr none)) (fun i _ => (intOf i + 1).toNat)
  case atStart => exact ⟨D + 1, by omega, by simp, rfl, World.grownBy.refl _ _⟩
  case round =>
    rename_i _ wr
    obtain ⟨j, hj, rfl, HM, HGW⟩ := hrel
    have HG6 := Lib.hid (grownN_trans HG2.out HGW.out)
    cases j with
    | zero =>
      have HE : Hid (mixed L f D = -1) := by show _ = _; rw [HR.out, HM.out]; rfl
      go_wp2
      go_ret
      exact ⟨ret_i64 HE.out.symm, HG6.out⟩
    | succ j =>
      have hj1 : ((j + 1 : Nat) : Int) - 1 = (j : Int) := by omega
      rw [hj1]
      obtain ⟨A, hA⟩ : ∃ A, A = needAt L 0 := ⟨_, rfl⟩
      obtain ⟨B, hB⟩ : ∃ B, B = needAt L 1 := ⟨_, rfl⟩
      have hab := HNB.out
      rw [← hA, ← hB] at hab
      have p0 := mul_bd (j := j) (a := A) (by omega) hab.1
      have p1 := mul_bd (j := (D : Int) - j) (a := B) (by omega) hab.2
      obtain ⟨X, hX⟩ : ∃ X, X = (j : Int) * A := ⟨_, rfl⟩
      obtain ⟨Y, hY⟩ : ∃ Y, Y = ((D : Int) - j) * B := ⟨_, rfl⟩
      rw [← hX] at p0
      rw [← hY] at p1
      have q0 : (j : Int) * A = X := hX.symm
      have q1 : ((D : Int) - j) * B = Y := hY.symm
      have HOK : Hid (okM L f D j = decide (X + Y ≤ f)) := by show _ = _; unfold okM; rw [hX, hY, hA, hB]
      have HGD := Lib.hid (grown_drew HGW.out)
      have HGE := Lib.hid (grownN_trans HG2.out HGD.out)
      have BD := Lib.hid (B2.out.grown HGD.out)
      have HN0 := Lib.hid (sNeedAt_any _ cv L 0 (by omega) (HC.out.grown HGE.out))
      have HN1 := Lib.hid fun w' hg => sNeedAt_any w' cv L 1 (by omega) (HC.out.grown hg)
      rw [← hA] at HN0
      rw [← hB] at HN1
      have w0 : IntKind.i64.wrap X = X := IntWalk.i64_in _ (by omega)
      have w1 : IntKind.i64.wrap Y = Y := IntWalk.i64_in _ (by omega)
      have w2' : IntKind.i64.wrap (X + Y) = X + Y := IntWalk.i64_in _ (by omega)
      have w3' : IntKind.i64.wrap ((D : Int) - j) = (D : Int) - j := IntWalk.i64_in _ (by omega)
      clear hX hY hA hB
      by_cases hle : X + Y ≤ f
      · have HE : Hid (mixed L f D = j) := by show _ = _; rw [HR.out, HM.out, dn_yes (by rw [HOK.out]; exact decide_eq_true hle)]
        go_wp2_with fail
        refine wp_region_held_drew (S := fun w' => w'.cell? ⟨w.heap.size, 1, none⟩ = some (.int .i64 f) ∧ w'.cell? ⟨w.heap.size, 2, none⟩ = some cv) (by kernel_rfl) ⟨BD.out.cell 1, BD.out.cell 2⟩ (fun hHeld => ?_)
        refine wpAnyH_take (i := 0) (v := ?_) rfl (by kernel_rfl) (by kernel_rfl) (by kernel_rfl) (fun _ _ _ h => h) (Or.inl ⟨by rfl, ?_⟩) (by assumption) ?_; rotate_left; (focus (intro wS hSw; (try dsimp only at hSw); go_simp <;> with_reducible rfl)); (try simp only [Act.put, List.getElem_toArray, List.getElem_cons_succ, List.getElem_cons_zero, List.setIfInBounds_toArray, List.set_cons_zero, List.set_cons_succ])
        refine wpAnyH_take (i := 1) (v := ?_) rfl (by kernel_rfl) (by kernel_rfl) (by kernel_rfl) (fun _ _ _ h => h) (Or.inl ⟨by rfl, ?_⟩) (by assumption) ?_; rotate_left; (focus (intro wS hSw; (try dsimp only at hSw); go_simp <;> with_reducible rfl)); (try simp only [Act.put, List.getElem_toArray, List.getElem_cons_succ, List.getElem_cons_zero, List.setIfInBounds_toArray, List.set_cons_zero, List.set_cons_succ])
        refine wpAnyH_take (i := 2) (v := ?_) rfl (by kernel_rfl) (by kernel_rfl) (by kernel_rfl) (fun _ _ _ h => h) (Or.inl ⟨by rfl, ?_⟩) (by assumption) ?_; rotate_left; (focus (intro wS hSw; (try dsimp only at hSw); go_simp <;> with_reducible rfl)); (try simp only [Act.put, List.getElem_toArray, List.getElem_cons_succ, List.getElem_cons_zero, List.setIfInBounds_toArray, List.set_cons_zero, List.set_cons_succ])
        refine wpAnyH_take (i := 5) (v := ?_) rfl (by kernel_rfl) (by kernel_rfl) (by kernel_rfl) (fun _ _ _ h => h) (Or.inl ⟨by rfl, ?_⟩) (by assumption) ?_; rotate_left; (focus (intro wS hSw; (try dsimp only at hSw); go_simp <;> with_reducible rfl)); (try simp only [Act.put, List.getElem_toArray, List.getElem_cons_succ, List.getElem_cons_zero, List.setIfInBounds_toArray, List.set_cons_zero, List.set_cons_succ])
        refine wpAnyH_take (i := 6) (v := ?_) rfl (by kernel_rfl) (by kernel_rfl) (by kernel_rfl) (fun _ _ _ h => h) (Or.inl ⟨by rfl, ?_⟩) (by assumption) ?_; rotate_left; (focus (intro wS hSw; (try dsimp only at hSw); go_simp <;> with_reducible rfl)); (try simp only [Act.put, List.getElem_toArray, List.getElem_cons_succ, List.getElem_cons_zero, List.setIfInBounds_toArray, List.set_cons_zero, List.set_cons_succ])
        refine wpAnyH_take (i := 7) (v := ?_) rfl (by kernel_rfl) (by kernel_rfl) (by kernel_rfl) (fun _ _ _ h => h) (Or.inl ⟨by rfl, ?_⟩) (by assumption) ?_; rotate_left; (focus (intro wS hSw; (try dsimp only at hSw); go_simp <;> with_reducible rfl)); (try simp only [Act.put, List.getElem_toArray, List.getElem_cons_succ, List.getElem_cons_zero, List.setIfInBounds_toArray, List.set_cons_zero, List.set_cons_succ])
        refine wpAnyH_take (i := 8) (v := ?_) rfl (by kernel_rfl) (by kernel_rfl) (by kernel_rfl) (fun _ _ _ h => h) (Or.inl ⟨by rfl, ?_⟩) (by assumption) ?_; rotate_left; (focus (intro wS hSw; (try dsimp only at hSw); go_simp <;> with_reducible rfl)); (try simp only [Act.put, List.getElem_toArray, List.getElem_cons_succ, List.getElem_cons_zero, List.setIfInBounds_toArray, List.set_cons_zero, List.set_cons_succ])
        refine wpAnyH_take (i := 9) (v := ?_) rfl (by kernel_rfl) (by kernel_rfl) (by kernel_rfl) (fun _ _ _ h => h) (Or.inl ⟨by rfl, ?_⟩) (by assumption) ?_; rotate_left; (focus (intro wS hSw; (try dsimp only at hSw); go_simp <;> with_reducible rfl)); (try simp only [Act.put, List.getElem_toArray, List.getElem_cons_succ, List.getElem_cons_zero, List.setIfInBounds_toArray, List.set_cons_zero, List.set_cons_succ])
        refine wpAnyH_take (i := 13) (v := ?_) rfl (by kernel_rfl) (by kernel_rfl) (by kernel_rfl) (fun _ _ _ h => h) (Or.inl ⟨by rfl, ?_⟩) (by assumption) ?_; rotate_left; (focus (intro wS hSw; (try dsimp only at hSw); go_simp <;> with_reducible rfl)); (try simp only [Act.put, List.getElem_toArray, List.getElem_cons_succ, List.getElem_cons_zero, List.setIfInBounds_toArray, List.set_cons_zero, List.set_cons_succ])
        refine wpAnyH_take (i := 14) (v := ?_) rfl (by kernel_rfl) (by kernel_rfl) (by kernel_rfl) (fun _ _ _ h => h) (Or.inl ⟨by rfl, ?_⟩) (by assumption) ?_; rotate_left; (focus (intro wS hSw; (try dsimp only at hSw); go_simp <;> with_reducible rfl)); (try simp only [Act.put, List.getElem_toArray, List.getElem_cons_succ, List.getElem_cons_zero, List.setIfInBounds_toArray, List.set_cons_zero, List.set_cons_succ])
        refine wpAnyH_ready (rs := [3]) (by kernel_rfl) (by simp) ?_; refine AllReadyH.cons rfl (fun K hK => ?_) AllReadyH.nil; go_simp; (go_at_call 33; refine HN0.out.mono ?_; rintro e w4 ⟨rfl, hg⟩; have HG4 := Lib.hid (grownN_trans HGE.out hg); have HGX4 := Lib.hid (grownN_trans HGD.out hg); have B4 := Lib.hid (BD.out.grown hg); clear hg)
        refine hK.out _ _ ?_ (fun hHeld => ?_)
        · exact ⟨B4.out.cell 1, B4.out.cell 2⟩
        clear hK K
        (try simp only [Act.put, List.getElem_toArray, List.getElem_cons_succ, List.getElem_cons_zero, List.setIfInBounds_toArray, List.set_cons_zero, List.set_cons_succ])
        refine wpAnyH_take (i := 4) (v := ?_) rfl (by kernel_rfl) (by kernel_rfl) (by kernel_rfl) (fun _ _ _ h => h) (Or.inl ⟨by rfl, ?_⟩) (by assumption) ?_; rotate_left; (focus (intro wS hSw; (try dsimp only at hSw); go_simp <;> with_reducible rfl)); (try simp only [Act.put, List.getElem_toArray, List.getElem_cons_succ, List.getElem_cons_zero, List.setIfInBounds_toArray, List.set_cons_zero, List.set_cons_succ])
        refine wpAnyH_ready (rs := [10]) (by kernel_rfl) (by simp) ?_; refine AllReadyH.cons rfl (fun K hK => ?_) AllReadyH.nil; go_simp; (go_at_call 33; refine (HN1.out _ HG4.out).mono ?_; rintro e w5 ⟨rfl, hg⟩; have HG5 := Lib.hid (grownN_trans HG4.out hg); have HGX := Lib.hid (grownN_trans HGX4.out hg); have B5 := Lib.hid (B4.out.grown hg); clear hg)
        refine hK.out _ _ ?_ (fun hHeld => ?_)
        · exact ⟨B5.out.cell 1, B5.out.cell 2⟩
        clear hK K
        (try simp only [Act.put, List.getElem_toArray, List.getElem_cons_succ, List.getElem_cons_zero, List.setIfInBounds_toArray, List.set_cons_zero, List.set_cons_succ])
        refine wpAnyH_take (i := 11) (v := ?_) rfl (by kernel_rfl) (by kernel_rfl) (by kernel_rfl) (fun _ _ _ h => h) (Or.inl ⟨by rfl, ?_⟩) (by assumption) ?_; rotate_left; (focus (intro wS hSw; (try dsimp only at hSw); go_simp <;> with_reducible rfl)); (try simp only [Act.put, List.getElem_toArray, List.getElem_cons_succ, List.getElem_cons_zero, List.setIfInBounds_toArray, List.set_cons_zero, List.set_cons_succ])
        refine wpAnyH_take (i := 12) (v := ?_) rfl (by kernel_rfl) (by kernel_rfl) (by kernel_rfl) (fun _ _ _ h => h) (Or.inl ⟨by rfl, ?_⟩) (by assumption) ?_; rotate_left; (focus (intro wS hSw; (try dsimp only at hSw); go_simp <;> with_reducible rfl)); (try simp only [Act.put, List.getElem_toArray, List.getElem_cons_succ, List.getElem_cons_zero, List.setIfInBounds_toArray, List.set_cons_zero, List.set_cons_succ])
        refine wpAnyH_take (i := 15) (v := ?_) rfl (by kernel_rfl) (by kernel_rfl) (by kernel_rfl) (fun _ _ _ h => h) (Or.inl ⟨by rfl, ?_⟩) (by assumption) ?_; rotate_left; (focus (intro wS hSw; (try dsimp only at hSw); go_simp <;> with_reducible rfl)); (try simp only [Act.put, List.getElem_toArray, List.getElem_cons_succ, List.getElem_cons_zero, List.setIfInBounds_toArray, List.set_cons_zero, List.set_cons_succ])
        refine wpAnyH_done (by kernel_rfl) ?_ _
        (try simp only [Act.put, List.getElem_toArray, List.getElem_cons_succ, List.getElem_cons_zero, List.setIfInBounds_toArray, List.set_cons_zero, List.set_cons_succ])
        go_wp2
        go_ret
        exact ⟨ret_i64 HE.out.symm, HG5.out⟩
      · have HE : Hid (dn (okM L f D) (D + 1) = dn (okM L f D) j) := by show _ = _; rw [HM.out, dn_no (by rw [HOK.out]; exact decide_eq_false hle)]
        go_wp2_with fail
        refine wp_region_held_drew (S := fun w' => w'.cell? ⟨w.heap.size, 1, none⟩ = some (.int .i64 f) ∧ w'.cell? ⟨w.heap.size, 2, none⟩ = some cv) (by kernel_rfl) ⟨BD.out.cell 1, BD.out.cell 2⟩ (fun hHeld => ?_)
        refine wpAnyH_take (i := 0) (v := ?_) rfl (by kernel_rfl) (by kernel_rfl) (by kernel_rfl) (fun _ _ _ h => h) (Or.inl ⟨by rfl, ?_⟩) (by assumption) ?_; rotate_left; (focus (intro wS hSw; (try dsimp only at hSw); go_simp <;> with_reducible rfl)); (try simp only [Act.put, List.getElem_toArray, List.getElem_cons_succ, List.getElem_cons_zero, List.setIfInBounds_toArray, List.set_cons_zero, List.set_cons_succ])
        refine wpAnyH_take (i := 1) (v := ?_) rfl (by kernel_rfl) (by kernel_rfl) (by kernel_rfl) (fun _ _ _ h => h) (Or.inl ⟨by rfl, ?_⟩) (by assumption) ?_; rotate_left; (focus (intro wS hSw; (try dsimp only at hSw); go_simp <;> with_reducible rfl)); (try simp only [Act.put, List.getElem_toArray, List.getElem_cons_succ, List.getElem_cons_zero, List.setIfInBounds_toArray, List.set_cons_zero, List.set_cons_succ])
        refine wpAnyH_take (i := 2) (v := ?_) rfl (by kernel_rfl) (by kernel_rfl) (by kernel_rfl) (fun _ _ _ h => h) (Or.inl ⟨by rfl, ?_⟩) (by assumption) ?_; rotate_left; (focus (intro wS hSw; (try dsimp only at hSw); go_simp <;> with_reducible rfl)); (try simp only [Act.put, List.getElem_toArray, List.getElem_cons_succ, List.getElem_cons_zero, List.setIfInBounds_toArray, List.set_cons_zero, List.set_cons_succ])
        refine wpAnyH_take (i := 5) (v := ?_) rfl (by kernel_rfl) (by kernel_rfl) (by kernel_rfl) (fun _ _ _ h => h) (Or.inl ⟨by rfl, ?_⟩) (by assumption) ?_; rotate_left; (focus (intro wS hSw; (try dsimp only at hSw); go_simp <;> with_reducible rfl)); (try simp only [Act.put, List.getElem_toArray, List.getElem_cons_succ, List.getElem_cons_zero, List.setIfInBounds_toArray, List.set_cons_zero, List.set_cons_succ])
        refine wpAnyH_take (i := 6) (v := ?_) rfl (by kernel_rfl) (by kernel_rfl) (by kernel_rfl) (fun _ _ _ h => h) (Or.inl ⟨by rfl, ?_⟩) (by assumption) ?_; rotate_left; (focus (intro wS hSw; (try dsimp only at hSw); go_simp <;> with_reducible rfl)); (try simp only [Act.put, List.getElem_toArray, List.getElem_cons_succ, List.getElem_cons_zero, List.setIfInBounds_toArray, List.set_cons_zero, List.set_cons_succ])
        refine wpAnyH_take (i := 7) (v := ?_) rfl (by kernel_rfl) (by kernel_rfl) (by kernel_rfl) (fun _ _ _ h => h) (Or.inl ⟨by rfl, ?_⟩) (by assumption) ?_; rotate_left; (focus (intro wS hSw; (try dsimp only at hSw); go_simp <;> with_reducible rfl)); (try simp only [Act.put, List.getElem_toArray, List.getElem_cons_succ, List.getElem_cons_zero, List.setIfInBounds_toArray, List.set_cons_zero, List.set_cons_succ])
        refine wpAnyH_take (i := 8) (v := ?_) rfl (by kernel_rfl) (by kernel_rfl) (by kernel_rfl) (fun _ _ _ h => h) (Or.inl ⟨by rfl, ?_⟩) (by assumption) ?_; rotate_left; (focus (intro wS hSw; (try dsimp only at hSw); go_simp <;> with_reducible rfl)); (try simp only [Act.put, List.getElem_toArray, List.getElem_cons_succ, List.getElem_cons_zero, List.setIfInBounds_toArray, List.set_cons_zero, List.set_cons_succ])
        refine wpAnyH_take (i := 9) (v := ?_) rfl (by kernel_rfl) (by kernel_rfl) (by kernel_rfl) (fun _ _ _ h => h) (Or.inl ⟨by rfl, ?_⟩) (by assumption) ?_; rotate_left; (focus (intro wS hSw; (try dsimp only at hSw); go_simp <;> with_reducible rfl)); (try simp only [Act.put, List.getElem_toArray, List.getElem_cons_succ, List.getElem_cons_zero, List.setIfInBounds_toArray, List.set_cons_zero, List.set_cons_succ])
        refine wpAnyH_take (i := 13) (v := ?_) rfl (by kernel_rfl) (by kernel_rfl) (by kernel_rfl) (fun _ _ _ h => h) (Or.inl ⟨by rfl, ?_⟩) (by assumption) ?_; rotate_left; (focus (intro wS hSw; (try dsimp only at hSw); go_simp <;> with_reducible rfl)); (try simp only [Act.put, List.getElem_toArray, List.getElem_cons_succ, List.getElem_cons_zero, List.setIfInBounds_toArray, List.set_cons_zero, List.set_cons_succ])
        refine wpAnyH_take (i := 14) (v := ?_) rfl (by kernel_rfl) (by kernel_rfl) (by kernel_rfl) (fun _ _ _ h => h) (Or.inl ⟨by rfl, ?_⟩) (by assumption) ?_; rotate_left; (focus (intro wS hSw; (try dsimp only at hSw); go_simp <;> with_reducible rfl)); (try simp only [Act.put, List.getElem_toArray, List.getElem_cons_succ, List.getElem_cons_zero, List.setIfInBounds_toArray, List.set_cons_zero, List.set_cons_succ])
        refine wpAnyH_ready (rs := [3]) (by kernel_rfl) (by simp) ?_; refine AllReadyH.cons rfl (fun K hK => ?_) AllReadyH.nil; go_simp; (go_at_call 33; refine HN0.out.mono ?_; rintro e w4 ⟨rfl, hg⟩; have HG4 := Lib.hid (grownN_trans HGE.out hg); have HGX4 := Lib.hid (grownN_trans HGD.out hg); have B4 := Lib.hid (BD.out.grown hg); clear hg)
        refine hK.out _ _ ?_ (fun hHeld => ?_)
        · exact ⟨B4.out.cell 1, B4.out.cell 2⟩
        clear hK K
        (try simp only [Act.put, List.getElem_toArray, List.getElem_cons_succ, List.getElem_cons_zero, List.setIfInBounds_toArray, List.set_cons_zero, List.set_cons_succ])
        refine wpAnyH_take (i := 4) (v := ?_) rfl (by kernel_rfl) (by kernel_rfl) (by kernel_rfl) (fun _ _ _ h => h) (Or.inl ⟨by rfl, ?_⟩) (by assumption) ?_; rotate_left; (focus (intro wS hSw; (try dsimp only at hSw); go_simp <;> with_reducible rfl)); (try simp only [Act.put, List.getElem_toArray, List.getElem_cons_succ, List.getElem_cons_zero, List.setIfInBounds_toArray, List.set_cons_zero, List.set_cons_succ])
        refine wpAnyH_ready (rs := [10]) (by kernel_rfl) (by simp) ?_; refine AllReadyH.cons rfl (fun K hK => ?_) AllReadyH.nil; go_simp; (go_at_call 33; refine (HN1.out _ HG4.out).mono ?_; rintro e w5 ⟨rfl, hg⟩; have HG5 := Lib.hid (grownN_trans HG4.out hg); have HGX := Lib.hid (grownN_trans HGX4.out hg); have B5 := Lib.hid (B4.out.grown hg); clear hg)
        refine hK.out _ _ ?_ (fun hHeld => ?_)
        · exact ⟨B5.out.cell 1, B5.out.cell 2⟩
        clear hK K
        (try simp only [Act.put, List.getElem_toArray, List.getElem_cons_succ, List.getElem_cons_zero, List.setIfInBounds_toArray, List.set_cons_zero, List.set_cons_succ])
        refine wpAnyH_take (i := 11) (v := ?_) rfl (by kernel_rfl) (by kernel_rfl) (by kernel_rfl) (fun _ _ _ h => h) (Or.inl ⟨by rfl, ?_⟩) (by assumption) ?_; rotate_left; (focus (intro wS hSw; (try dsimp only at hSw); go_simp <;> with_reducible rfl)); (try simp only [Act.put, List.getElem_toArray, List.getElem_cons_succ, List.getElem_cons_zero, List.setIfInBounds_toArray, List.set_cons_zero, List.set_cons_succ])
        refine wpAnyH_take (i := 12) (v := ?_) rfl (by kernel_rfl) (by kernel_rfl) (by kernel_rfl) (fun _ _ _ h => h) (Or.inl ⟨by rfl, ?_⟩) (by assumption) ?_; rotate_left; (focus (intro wS hSw; (try dsimp only at hSw); go_simp <;> with_reducible rfl)); (try simp only [Act.put, List.getElem_toArray, List.getElem_cons_succ, List.getElem_cons_zero, List.setIfInBounds_toArray, List.set_cons_zero, List.set_cons_succ])
        refine wpAnyH_take (i := 15) (v := ?_) rfl (by kernel_rfl) (by kernel_rfl) (by kernel_rfl) (fun _ _ _ h => h) (Or.inl ⟨by rfl, ?_⟩) (by assumption) ?_; rotate_left; (focus (intro wS hSw; (try dsimp only at hSw); go_simp <;> with_reducible rfl)); (try simp only [Act.put, List.getElem_toArray, List.getElem_cons_succ, List.getElem_cons_zero, List.setIfInBounds_toArray, List.set_cons_zero, List.set_cons_succ])
        refine wpAnyH_done (by kernel_rfl) ?_ _
        (try simp only [Act.put, List.getElem_toArray, List.getElem_cons_succ, List.getElem_cons_zero, List.setIfInBounds_toArray, List.set_cons_zero, List.set_cons_succ])
        go_wp2
        go_roundw
        case rel => exact ⟨j, by omega, by go_num, HE, HGX⟩
        case measure => simp [intOf] <;> omega

set_option maxRecDepth 20000 in
set_option maxHeartbeats 4000000 in
theorem iMixed_any (w : World) (n f : Int) (cv pv : Value) (L : List Mem) (d : Int) (hf : (Lit.int .i64 f).wf = true) (hd : -9223372036854775808 ≤ d ∧ d ≤ 9223372036854775807) (hc : SeesG encM w cv L) (hv : VW w) :
    Calls Tryd.prog 45 #[.agg #[.int .i64 n, .int .i64 f, cv, pv], .int .i64 d] w fun e w' => e = .returned (.int .i64 (mixed L f d)) ∧ w.grownBy w' none := by
  have g0 := World.grownBy_alloc w (.cells #[.int .i64 n, .int .i64 f, cv, pv] 50 (0, 0)) (none : Option Nat)
  have b0 := box_new w #[.int .i64 n, .int .i64 f, cv, pv] 50
  have HG := Lib.hid g0
  have HC := Lib.hid hc
  have HV := Lib.hid hv
  have B0 := Lib.hid b0
  have HF := Lib.hid hf
  have hfb := i64_of hf
  have HA := Lib.hid (CrI.iAreCrew_any _ cv L (hc.grown g0))
  have hr := inR_b d 0 1000
  have HNB := Lib.hid (And.intro (needAt_bound L 0) (needAt_bound L 1))
  obtain ⟨c0, c1, c2, c3⟩ := four b0
  by_cases hcr : areCrew L = true
  rotate_left
  · have HR : Hid (mixed L f d = -1) := mixed_no (fun e => hcr e.1)
    rw [Bool.not_eq_true] at hcr
    rw [hcr] at HA
    clear hc g0 b0 hf hr hcr hv
    go_enter Tryd.func45, Tryd.ntmps45
    go_wp2_with fail
    refine HA.out.mono ?_
    rintro e w2 ⟨rfl, hg⟩
    have HG2 := Lib.hid (grownN_trans HG.out hg)
    clear hg
    go_wp2
    go_ret
    exact ⟨ret_i64 HR.out.symm, HG2.out⟩
  rw [hcr] at HA
  by_cases hin : 0 ≤ d ∧ d ≤ 1000
  rotate_left
  · have HR : Hid (mixed L f d = -1) := mixed_no (fun e => hin e.2)
    have HIN := Lib.hid fun w => hr w
    rw [inb_no hin] at HIN
    clear hc g0 b0 hf hr hcr hin hv
    go_enter Tryd.func45, Tryd.ntmps45
    go_wp2_with fail
    refine HA.out.mono ?_
    rintro e w2 ⟨rfl, hg⟩
    have HG2 := Lib.hid (grownN_trans HG.out hg)
    clear hg
    go_wp2_with fail
    refine (HIN.out _).mono ?_
    rintro e w3 ⟨rfl, rfl⟩
    go_wp2
    go_ret
    exact ⟨ret_i64 HR.out.symm, HG2.out⟩
  have HR := Lib.hid (mixed_yes (f := f) ⟨hcr, hin⟩)
  have HIN := Lib.hid fun w => hr w
  rw [inb_yes hin] at HIN
  obtain ⟨D, rfl⟩ : ∃ D : Nat, d = D := ⟨d.toNat, by omega⟩
  rw [Int.toNat_natCast] at HR
  have hD : D ≤ 1000 := by omega
  clear hc g0 b0 hf hr hcr hin hd hv
  go_enter Tryd.func45, Tryd.ntmps45
  go_wp2_with fail
  refine HA.out.mono ?_
  rintro e w2 ⟨rfl, hg⟩
  have HG2 := Lib.hid (grownN_trans HG.out hg)
  have B2 := Lib.hid (B0.out.grown hg)
  clear hg c0 c1 c2 c3
  obtain ⟨c0, c1, c2, c3⟩ := four B2.out
  go_wp2_with fail
  refine (HIN.out _).mono ?_
  rintro e w3 ⟨rfl, rfl⟩
  go_wp2_with fail
  have HGD := Lib.hid (grown_drew HG2.out)
  have BD := Lib.hid (B2.out.grown (grown_drew (World.grownBy.refl w2 none)))
  have HN0 := Lib.hid (iNeedAt_any _ cv L 0 (by omega) (HC.out.grown HGD.out) (HV.out.grown HGD.out))
  refine wp_region_held_drew (S := fun w' => w'.cell? ⟨w.heap.size, 2, none⟩ = some cv) (by kernel_rfl) (BD.out.cell 2) (fun hHeld => ?_)
  refine wpAnyH_take (i := 0) (v := ?_) rfl (by kernel_rfl) (by kernel_rfl) (by kernel_rfl) (fun _ _ _ h => h) (Or.inl ⟨by rfl, ?_⟩) (by assumption) ?_; rotate_left; (focus (intro wS hSw; (try dsimp only at hSw); go_simp <;> with_reducible rfl)); (try simp only [Act.put, List.getElem_toArray, List.getElem_cons_succ, List.getElem_cons_zero, List.setIfInBounds_toArray, List.set_cons_zero, List.set_cons_succ])
  refine wpAnyH_take (i := 1) (v := ?_) rfl (by kernel_rfl) (by kernel_rfl) (by kernel_rfl) (fun _ _ _ h => h) (Or.inl ⟨by rfl, ?_⟩) (by assumption) ?_; rotate_left; (focus (intro wS hSw; (try dsimp only at hSw); go_simp <;> with_reducible rfl)); (try simp only [Act.put, List.getElem_toArray, List.getElem_cons_succ, List.getElem_cons_zero, List.setIfInBounds_toArray, List.set_cons_zero, List.set_cons_succ])
  refine wpAnyH_take (i := 3) (v := ?_) rfl (by kernel_rfl) (by kernel_rfl) (by kernel_rfl) (fun _ _ _ h => h) (Or.inl ⟨by rfl, ?_⟩) (by assumption) ?_; rotate_left; (focus (intro wS hSw; (try dsimp only at hSw); go_simp <;> with_reducible rfl)); (try simp only [Act.put, List.getElem_toArray, List.getElem_cons_succ, List.getElem_cons_zero, List.setIfInBounds_toArray, List.set_cons_zero, List.set_cons_succ])
  refine wpAnyH_take (i := 4) (v := ?_) rfl (by kernel_rfl) (by kernel_rfl) (by kernel_rfl) (fun _ _ _ h => h) (Or.inl ⟨by rfl, ?_⟩) (by assumption) ?_; rotate_left; (focus (intro wS hSw; (try dsimp only at hSw); go_simp <;> with_reducible rfl)); (try simp only [Act.put, List.getElem_toArray, List.getElem_cons_succ, List.getElem_cons_zero, List.setIfInBounds_toArray, List.set_cons_zero, List.set_cons_succ])
  refine wpAnyH_ready (rs := [2]) (by kernel_rfl) (by simp) ?_; refine AllReadyH.cons rfl (fun K hK => ?_) AllReadyH.nil; go_simp; (go_at_call 35; refine HN0.out.mono ?_; rintro e w4 ⟨rfl, hg⟩; have HG4 := Lib.hid (grownN_trans HGD.out hg); have B4 := Lib.hid (BD.out.grown hg); clear hg; have HN1 := Lib.hid (iNeedAt_any _ cv L 1 (by omega) (HC.out.grown HG4.out) (HV.out.grown HG4.out)))
  refine hK.out _ _ ?_ (fun hHeld => ?_)
  · exact B4.out.cell 2
  clear hK K
  (try simp only [Act.put, List.getElem_toArray, List.getElem_cons_succ, List.getElem_cons_zero, List.setIfInBounds_toArray, List.set_cons_zero, List.set_cons_succ])
  refine wpAnyH_ready (rs := [5]) (by kernel_rfl) (by simp) ?_; refine AllReadyH.cons rfl (fun K hK => ?_) AllReadyH.nil; go_simp; (go_at_call 35; refine HN1.out.mono ?_; rintro e w5 ⟨rfl, hg⟩; have HG5 := Lib.hid (grownN_trans HG4.out hg); have B5 := Lib.hid (B4.out.grown hg); clear hg)
  refine hK.out _ _ ?_ (fun hHeld => ?_)
  · exact B5.out.cell 2
  clear hK K
  (try simp only [Act.put, List.getElem_toArray, List.getElem_cons_succ, List.getElem_cons_zero, List.setIfInBounds_toArray, List.set_cons_zero, List.set_cons_succ])
  refine wpAnyH_take (i := 6) (v := ?_) rfl (by kernel_rfl) (by kernel_rfl) (by kernel_rfl) (fun _ _ _ h => h) (Or.inl ⟨by rfl, ?_⟩) (by assumption) ?_; rotate_left; (focus (intro wS hSw; (try dsimp only at hSw); go_simp <;> with_reducible rfl)); (try simp only [Act.put, List.getElem_toArray, List.getElem_cons_succ, List.getElem_cons_zero, List.setIfInBounds_toArray, List.set_cons_zero, List.set_cons_succ])
  refine wpAnyH_take (i := 7) (v := ?_) rfl (by kernel_rfl) (by kernel_rfl) (by kernel_rfl) (fun _ _ _ h => h) (Or.inl ⟨by rfl, ?_⟩) (by assumption) ?_; rotate_left; (focus (intro wS hSw; (try dsimp only at hSw); go_simp <;> with_reducible rfl)); (try simp only [Act.put, List.getElem_toArray, List.getElem_cons_succ, List.getElem_cons_zero, List.setIfInBounds_toArray, List.set_cons_zero, List.set_cons_succ])
  refine wpAnyH_done (by kernel_rfl) ?_ _
  (try simp only [Act.put, List.getElem_toArray, List.getElem_cons_succ, List.getElem_cons_zero, List.setIfInBounds_toArray, List.set_cons_zero, List.set_cons_succ])
  clear c0 c1 c2 c3
  obtain ⟨A, hA⟩ : ∃ A, A = needAt L 0 := ⟨_, rfl⟩
  obtain ⟨B, hB⟩ : ∃ B, B = needAt L 1 := ⟨_, rfl⟩
  have hab := HNB.out
  rw [← hA, ← hB] at hab ⊢
  have HAQ := Lib.hid hA
  have HBQ := Lib.hid hB
  clear hA hB
  go_wp2
  go_loopw [7] (fun i wr => ∃ j : Nat, j ≤ D + 1 ∧ i = .int .i64 ((j : Int) - 1) ∧ Hid (dn (okM L f D) (D + 1) = dn (okM L f D) j) ∧ Hid (w5.grownBy wr none)) (fun i _ => (intOf i + 1).toNat)
  case atStart => exact ⟨D + 1, by omega, by simp, rfl, World.grownBy.refl _ _⟩
  case round =>
    rename_i _ wr
    obtain ⟨j, hj, rfl, HM, HGW⟩ := hrel
    have HG6 := Lib.hid (grownN_trans HG5.out HGW.out)
    obtain ⟨c0, c1, c2, c3⟩ := four (B5.out.grown HGW.out)
    cases j with
    | zero =>
      have HE : Hid (mixed L f D = -1) := by show _ = _; rw [HR.out, HM.out]; rfl
      go_wp2
      go_ret
      exact ⟨ret_i64 HE.out.symm, HG6.out⟩
    | succ j =>
      have hj1 : ((j + 1 : Nat) : Int) - 1 = (j : Int) := by omega
      rw [hj1]
      have p0 := mul_bd (j := j) (a := A) (by omega) hab.1
      have p1 := mul_bd (j := (D : Int) - j) (a := B) (by omega) hab.2
      obtain ⟨X, hX⟩ : ∃ X, X = (j : Int) * A := ⟨_, rfl⟩
      obtain ⟨Y, hY⟩ : ∃ Y, Y = ((D : Int) - j) * B := ⟨_, rfl⟩
      rw [← hX] at p0
      rw [← hY] at p1
      have q0 : (j : Int) * A = X := hX.symm
      have q1 : ((D : Int) - j) * B = Y := hY.symm
      have HOK : Hid (okM L f D j = decide (X + Y ≤ f)) := by show _ = _; unfold okM; rw [hX, hY, HAQ.out, HBQ.out]
      have w0 : IntKind.i64.wrap X = X := IntWalk.i64_in _ (by omega)
      have w1 : IntKind.i64.wrap Y = Y := IntWalk.i64_in _ (by omega)
      have w2' : IntKind.i64.wrap (X + Y) = X + Y := IntWalk.i64_in _ (by omega)
      have w3' : IntKind.i64.wrap ((D : Int) - j) = (D : Int) - j := IntWalk.i64_in _ (by omega)
      clear hX hY
      by_cases hle : X + Y ≤ f
      · have HE : Hid (mixed L f D = j) := by show _ = _; rw [HR.out, HM.out, dn_yes (by rw [HOK.out]; exact decide_eq_true hle)]
        go_wp2
        go_ret
        exact ⟨ret_i64 HE.out.symm, HG6.out⟩
      · have HE : Hid (dn (okM L f D) (D + 1) = dn (okM L f D) j) := by show _ = _; rw [HM.out, dn_no (by rw [HOK.out]; exact decide_eq_false hle)]
        go_wp2
        go_roundw
        case rel => exact ⟨j, by omega, by go_num, HE, HGW⟩
        case measure => simp [intOf] <;> omega
end Go.Proofs.YtlhbnkjijggfaaaDoor.Rat
