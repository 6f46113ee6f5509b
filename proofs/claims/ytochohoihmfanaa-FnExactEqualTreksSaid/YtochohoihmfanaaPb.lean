/- Contracts of EqualParties of the program and of its model. -/
import Derived.Test.YtochohoihmfanaaEqR
import Derived.Test.YtochohoihmfanaaPa
namespace Go.Proofs.Ytochohoihmfanaa.Pb
open Go.RowKit Kit Rw Rg Crw Four EqM EqR

/-- Two arrays of two ints compared. -/
theorem run_eqA (w : World) (a b c d : Int) : (Op.equalIn 10000 138 (.agg #[.int .i64 a, .int .i64 b]) (.agg #[.int .i64 c, .int .i64 d])).run Try.prog w = .ok (decide (a = c) && decide (b = d)) w := by
  have u3 := Try.underlying3
  have z3 : ∀ w, (sizeOf 3).run Try.prog w = .ok 1 w := fun w => by kernel_rfl
  rw [show (10000 : Nat) = 9999 + 1 from rfl, Op.equalIn]
  simp only [Sem.run_bind, run_underlying Try.underlying138, Result.andThen_ok]
  simp only [z3, Result.andThen_ok, Std.Legacy.Range.forIn_eq_forIn_range', Std.Legacy.Range.size, Nat.sub_zero, Nat.add_sub_cancel, Nat.div_one, List.range'_succ, List.range'_zero, List.forIn_cons, List.forIn_nil]
  go_simp
  by_cases h1 : a = c <;> by_cases h2 : b = d <;> simp [h1, h2]

set_option maxRecDepth 20000 in
set_option maxHeartbeats 1000000 in
theorem numbers_any (w : World) (n f : Int) (cv pv : Value) :
    Calls Try.prog 136 #[.agg #[.int .i64 n, .int .i64 f, cv, pv]] w fun e w' => e = .returned (.agg #[.int .i64 n, .int .i64 f]) ∧ w.grownBy w' none := by
  have g0 := World.grownBy_alloc w (.cells #[.int .i64 n, .int .i64 f, cv, pv] 64 (0, 0)) (none : Option Nat)
  have g1 := World.grownBy_alloc (w.alloc (.cells #[.int .i64 n, .int .i64 f, cv, pv] 64 (0, 0))) (.cells #[.int .i64 n, .int .i64 f] 138 (0, 0)) (none : Option Nat)
  have b1 := box_new (w.alloc (.cells #[.int .i64 n, .int .i64 f, cv, pv] 64 (0, 0))) #[.int .i64 n, .int .i64 f] 138
  simp only [World.size_alloc] at b1
  have HG := Lib.hid (grownN_trans g0 g1)
  have B1 := Lib.hid b1
  clear g0 g1 b1
  go_enter Try.func136, Try.ntmps136
  go_wp2
  try simp only [Exit.inBlock, Exit.then]
  exact ret_box rfl rfl B1.out Try.underlying138 rfl (by kernel_rfl) rfl ⟨rfl, HG.out⟩

def eqP (n f : Int) (L : List Mem) (P : List Bool) (n' f' : Int) (L' : List Mem) (P' : List Bool) : Bool := decide (n = n') && (decide (f = f') && (decide (L = L') && decide (P = P')))

set_option maxRecDepth 20000 in
set_option maxHeartbeats 4000000 in
theorem sEqual_any (w : World) (n f n' f' : Int) (cv pv cv' pv' : Value) (L L' : List Mem) (P P' : List Bool) (hc : SeesG encM w cv L) (hp : SeesG encB w pv P) (hc' : SeesG encM w cv' L') (hp' : SeesG encB w pv' P') :
    Calls Try.prog 105 #[.agg #[.int .i64 n, .int .i64 f, cv, pv], .agg #[.int .i64 n', .int .i64 f', cv', pv']] w fun e w' => e = .returned (.bool (eqP n f L P n' f' L' P')) ∧ w.grownBy w' none := by
  have g0 := World.grownBy_alloc w (.cells #[.int .i64 n, .int .i64 f, cv, pv] 64 (0, 0)) (none : Option Nat)
  have g1 := World.grownBy_alloc (w.alloc (.cells #[.int .i64 n, .int .i64 f, cv, pv] 64 (0, 0))) (.cells #[.int .i64 n', .int .i64 f', cv', pv'] 64 (0, 0)) (none : Option Nat)
  have b0 := (box_new w #[.int .i64 n, .int .i64 f, cv, pv] 64).grown g1
  have b1 := box_new (w.alloc (.cells #[.int .i64 n, .int .i64 f, cv, pv] 64 (0, 0))) #[.int .i64 n', .int .i64 f', cv', pv'] 64
  simp only [World.size_alloc] at b1
  have HG := Lib.hid (grownN_trans g0 g1)
  have HC := Lib.hid (hc.grown HG.out)
  have HP := Lib.hid (hp.grown HG.out)
  have HC' := Lib.hid (hc'.grown HG.out)
  have HP' := Lib.hid (hp'.grown HG.out)
  have B0 := Lib.hid b0
  have B1 := Lib.hid b1
  obtain ⟨c0, c1, c2, c3⟩ := four b0
  obtain ⟨d0, d1, d2, d3⟩ := four b1
  clear hc hp hc' hp' g0 g1 b0 b1
  have hM := fun w hs hs' => crewsE_any w cv cv' L L' hs hs'
  have hB := fun w hs hs' => pastsE_any w pv pv' P P' hs hs'
  by_cases h0 : n = n'
  · subst h0
    by_cases h1 : f = f'
    · subst h1
      cases h2 : decide (L = L')
      · have HR : Hid (eqP n f L P n f L' P' = false) := by show _ = _; unfold eqP; rw [h2]; simp
        simp only [h2] at hM
        have HM := Lib.hid hM
        clear hM hB h2
        go_enter Try.func105, Try.ntmps105
        go_wp2_with fail
        refine (HM.out _ HC.out HC'.out).mono ?_
        rintro e w2 ⟨rfl, hg⟩
        have HG2 := Lib.hid (grownN_trans HG.out hg)
        have HP2 := Lib.hid (HP.out.grown hg)
        have HP2' := Lib.hid (HP'.out.grown hg)
        obtain ⟨c0, c1, c2, c3⟩ := four (B0.out.grown hg)
        obtain ⟨d0, d1, d2, d3⟩ := four (B1.out.grown hg)
        clear hg
        go_wp2
        go_ret
        exact ⟨ret_bool HR.out.symm, HG2.out⟩
      · have hr : eqP n f L P n f L' P' = decide (P = P') := by unfold eqP; rw [h2]; simp
        have HR := Lib.hid hr
        simp only [h2] at hM
        have HM := Lib.hid hM
        have HBB := Lib.hid hB
        clear hM hB h2 hr
        go_enter Try.func105, Try.ntmps105
        go_wp2_with fail
        refine (HM.out _ HC.out HC'.out).mono ?_
        rintro e w2 ⟨rfl, hg⟩
        have HG2 := Lib.hid (grownN_trans HG.out hg)
        have HP2 := Lib.hid (HP.out.grown hg)
        have HP2' := Lib.hid (HP'.out.grown hg)
        obtain ⟨c0, c1, c2, c3⟩ := four (B0.out.grown hg)
        obtain ⟨d0, d1, d2, d3⟩ := four (B1.out.grown hg)
        clear hg
        go_wp2_with fail
        refine (HBB.out _ HP2.out HP2'.out).mono ?_
        rintro e w3 ⟨rfl, hg⟩
        have HG3 := Lib.hid (grownN_trans HG2.out hg)
        clear hg
        go_wp2
        go_ret
        exact ⟨ret_bool HR.out.symm, HG3.out⟩
    · have HR : Hid (eqP n f L P n f' L' P' = false) := by show _ = _; unfold eqP; rw [decide_eq_false h1]; simp
      clear hM hB
      go_enter Try.func105, Try.ntmps105
      go_wp2
      go_ret
      exact ⟨ret_bool HR.out.symm, HG.out⟩
  · have HR : Hid (eqP n f L P n' f' L' P' = false) := by show _ = _; unfold eqP; rw [decide_eq_false h0]; rfl
    clear hM hB
    go_enter Try.func105, Try.ntmps105
    go_wp2
    go_ret
    exact ⟨ret_bool HR.out.symm, HG.out⟩

set_option maxRecDepth 20000 in
set_option maxHeartbeats 4000000 in
theorem iEqual_any (w : World) (n f n' f' : Int) (cv pv cv' pv' : Value) (L L' : List Mem) (P P' : List Bool) (hc : SeesG encM w cv L) (hp : SeesG encB w pv P) (hc' : SeesG encM w cv' L') (hp' : SeesG encB w pv' P') :
    Calls Try.prog 109 #[.agg #[.int .i64 n, .int .i64 f, cv, pv], .agg #[.int .i64 n', .int .i64 f', cv', pv']] w fun e w' => e = .returned (.bool (eqP n f L P n' f' L' P')) ∧ w.grownBy w' none := by
  have g0 := World.grownBy_alloc w (.cells #[.int .i64 n, .int .i64 f, cv, pv] 64 (0, 0)) (none : Option Nat)
  have g1 := World.grownBy_alloc (w.alloc (.cells #[.int .i64 n, .int .i64 f, cv, pv] 64 (0, 0))) (.cells #[.int .i64 n', .int .i64 f', cv', pv'] 64 (0, 0)) (none : Option Nat)
  have b0 := (box_new w #[.int .i64 n, .int .i64 f, cv, pv] 64).grown g1
  have b1 := box_new (w.alloc (.cells #[.int .i64 n, .int .i64 f, cv, pv] 64 (0, 0))) #[.int .i64 n', .int .i64 f', cv', pv'] 64
  simp only [World.size_alloc] at b1
  have HG := Lib.hid (grownN_trans g0 g1)
  have HC := Lib.hid (hc.grown HG.out)
  have HP := Lib.hid (hp.grown HG.out)
  have HC' := Lib.hid (hc'.grown HG.out)
  have HP' := Lib.hid (hp'.grown HG.out)
  have B0 := Lib.hid b0
  have B1 := Lib.hid b1
  obtain ⟨c0, c1, c2, c3⟩ := four b0
  obtain ⟨d0, d1, d2, d3⟩ := four b1
  clear hc hp hc' hp' g0 g1 b0 b1
  have hM := fun w hs hs' => equalM_any w cv cv' L L' hs hs'
  have hB := fun w hs hs' => equalB_any w pv pv' P P' hs hs'
  have hd := grown_drew (World.grownBy.refl ((w.alloc (.cells #[.int .i64 n, .int .i64 f, cv, pv] 64 (0, 0))).alloc (.cells #[.int .i64 n', .int .i64 f', cv', pv'] 64 (0, 0))) none)
  have BA0 := Lib.hid (B0.out.grown hd)
  have BB0 := Lib.hid (B1.out.grown hd)
  have GG0 := Lib.hid (grownN_trans HG.out hd)
  have CA0 := Lib.hid (HC.out.grown hd)
  have CB0 := Lib.hid (HC'.out.grown hd)
  have PA0 := Lib.hid (HP.out.grown hd)
  have PB0 := Lib.hid (HP'.out.grown hd)
  clear hd HG HC HP HC' HP'
  have hq := fun w => run_eqA w n f n' f'
  cases h0 : (decide (n = n') && decide (f = f'))
  · have HR : Hid (eqP n f L P n' f' L' P' = false) := by show _ = _; unfold eqP; rw [← Bool.and_assoc, h0]; rfl
    simp only [h0] at hq
    have hb : ∀ w, (binOp .eql 138 (.agg #[.int .i64 n, .int .i64 f]) (.agg #[.int .i64 n', .int .i64 f'])).run Try.prog w = .ok (.bool false) w := fun w => by rw [run_eql_struct, hq]; rfl
    clear hq hM hB h0
    go_enter Try.func109, Try.ntmps109
    go_wp2_with fail
    refine wp_region_held_drew (S := fun w' => w'.cell? ⟨w.heap.size, 0, none⟩ = some (.int .i64 n) ∧ w'.cell? ⟨w.heap.size, 1, none⟩ = some (.int .i64 f) ∧ w'.cell? ⟨w.heap.size, 2, none⟩ = some (cv) ∧ w'.cell? ⟨w.heap.size, 3, none⟩ = some (pv) ∧ w'.cell? ⟨w.heap.size + 1, 0, none⟩ = some (.int .i64 n') ∧ w'.cell? ⟨w.heap.size + 1, 1, none⟩ = some (.int .i64 f') ∧ w'.cell? ⟨w.heap.size + 1, 2, none⟩ = some (cv') ∧ w'.cell? ⟨w.heap.size + 1, 3, none⟩ = some (pv')) (by kernel_rfl) ⟨c0, c1, c2, c3, d0, d1, d2, d3⟩ (fun hHeld => ?_)
    refine wpAnyH_take (i := 0) (v := ?_) rfl (by kernel_rfl) (by kernel_rfl) (by kernel_rfl) (fun _ _ _ h => h) (Or.inl ⟨by rfl, ?_⟩) (by assumption) ?_; rotate_left; (focus (intro wS hSw; (try dsimp only at hSw); go_simp <;> with_reducible rfl)); (try simp only [Act.put, List.getElem_toArray, List.getElem_cons_succ, List.getElem_cons_zero, List.setIfInBounds_toArray, List.set_cons_zero, List.set_cons_succ])
    refine wpAnyH_take (i := 2) (v := ?_) rfl (by kernel_rfl) (by kernel_rfl) (by kernel_rfl) (fun _ _ _ h => h) (Or.inl ⟨by rfl, ?_⟩) (by assumption) ?_; rotate_left; (focus (intro wS hSw; (try dsimp only at hSw); go_simp <;> with_reducible rfl)); (try simp only [Act.put, List.getElem_toArray, List.getElem_cons_succ, List.getElem_cons_zero, List.setIfInBounds_toArray, List.set_cons_zero, List.set_cons_succ])
    refine wpAnyH_ready (rs := [1]) (by kernel_rfl) (by simp) ?_; refine AllReadyH.cons rfl (fun K hK => ?_) AllReadyH.nil; go_simp; (go_at_call 136; refine (numbers_any _ n f cv pv).mono ?_; rintro e w1 ⟨rfl, hg⟩; have BA1 := Lib.hid (BA0.out.grown hg); have BB1 := Lib.hid (BB0.out.grown hg); have GG1 := Lib.hid (grownN_trans GG0.out hg); have CA1 := Lib.hid (CA0.out.grown hg); have CB1 := Lib.hid (CB0.out.grown hg); have PA1 := Lib.hid (PA0.out.grown hg); have PB1 := Lib.hid (PB0.out.grown hg); clear hg)
    refine hK.out _ _ ?_ (fun hHeld => ?_)
    · exact ⟨BA1.out.cell 0, BA1.out.cell 1, BA1.out.cell 2, BA1.out.cell 3, BB1.out.cell 0, BB1.out.cell 1, BB1.out.cell 2, BB1.out.cell 3⟩
    clear hK K
    (try simp only [Act.put, List.getElem_toArray, List.getElem_cons_succ, List.getElem_cons_zero, List.setIfInBounds_toArray, List.set_cons_zero, List.set_cons_succ])
    refine wpAnyH_ready (rs := [3]) (by kernel_rfl) (by simp) ?_; refine AllReadyH.cons rfl (fun K hK => ?_) AllReadyH.nil; go_simp; (go_at_call 136; refine (numbers_any w1 n' f' cv' pv').mono ?_; rintro e w2 ⟨rfl, hg⟩; have BA2 := Lib.hid (BA1.out.grown hg); have BB2 := Lib.hid (BB1.out.grown hg); have GG2 := Lib.hid (grownN_trans GG1.out hg); have CA2 := Lib.hid (CA1.out.grown hg); have CB2 := Lib.hid (CB1.out.grown hg); have PA2 := Lib.hid (PA1.out.grown hg); have PB2 := Lib.hid (PB1.out.grown hg); clear hg)
    refine hK.out _ _ ?_ (fun hHeld => ?_)
    · exact ⟨BA2.out.cell 0, BA2.out.cell 1, BA2.out.cell 2, BA2.out.cell 3, BB2.out.cell 0, BB2.out.cell 1, BB2.out.cell 2, BB2.out.cell 3⟩
    clear hK K
    (try simp only [Act.put, List.getElem_toArray, List.getElem_cons_succ, List.getElem_cons_zero, List.setIfInBounds_toArray, List.set_cons_zero, List.set_cons_succ])
    refine wpAnyH_take (i := 4) (v := ?_) rfl (by kernel_rfl) (by kernel_rfl) (by kernel_rfl) (fun _ _ _ h => h) (Or.inl ⟨by rfl, ?_⟩) (by assumption) ?_; rotate_left; (focus (intro wS hSw; (try dsimp only at hSw); go_simp <;> with_reducible rfl)); (try simp only [Act.put, List.getElem_toArray, List.getElem_cons_succ, List.getElem_cons_zero, List.setIfInBounds_toArray, List.set_cons_zero, List.set_cons_succ])
    refine wpAnyH_take (i := 5) (v := ?_) rfl (by kernel_rfl) (by kernel_rfl) (by kernel_rfl) (fun _ _ _ h => h) (Or.inl ⟨by rfl, ?_⟩) (by assumption) ?_; rotate_left; (focus (intro wS hSw; (try dsimp only at hSw); go_simp <;> with_reducible rfl)); (try simp only [Act.put, List.getElem_toArray, List.getElem_cons_succ, List.getElem_cons_zero, List.setIfInBounds_toArray, List.set_cons_zero, List.set_cons_succ])
    refine wpAnyH_take (i := 6) (v := undef) rfl (by kernel_rfl) (by kernel_rfl) (by kernel_rfl) (fun _ _ _ h => h) (Or.inr ⟨by rfl, rfl⟩) (by assumption) ?_; (try simp only [Act.put, List.getElem_toArray, List.getElem_cons_succ, List.getElem_cons_zero, List.setIfInBounds_toArray, List.set_cons_zero, List.set_cons_succ])
    refine wpAnyH_take (i := 7) (v := undef) rfl (by kernel_rfl) (by kernel_rfl) (by kernel_rfl) (fun _ _ _ h => h) (Or.inr ⟨by rfl, rfl⟩) (by assumption) ?_; (try simp only [Act.put, List.getElem_toArray, List.getElem_cons_succ, List.getElem_cons_zero, List.setIfInBounds_toArray, List.set_cons_zero, List.set_cons_succ])
    refine wpAnyH_take (i := 8) (v := undef) rfl (by kernel_rfl) (by kernel_rfl) (by kernel_rfl) (fun _ _ _ h => h) (Or.inr ⟨by rfl, rfl⟩) (by assumption) ?_; (try simp only [Act.put, List.getElem_toArray, List.getElem_cons_succ, List.getElem_cons_zero, List.setIfInBounds_toArray, List.set_cons_zero, List.set_cons_succ])
    refine wpAnyH_take (i := 9) (v := undef) rfl (by kernel_rfl) (by kernel_rfl) (by kernel_rfl) (fun _ _ _ h => h) (Or.inr ⟨by rfl, rfl⟩) (by assumption) ?_; (try simp only [Act.put, List.getElem_toArray, List.getElem_cons_succ, List.getElem_cons_zero, List.setIfInBounds_toArray, List.set_cons_zero, List.set_cons_succ])
    refine wpAnyH_take (i := 10) (v := undef) rfl (by kernel_rfl) (by kernel_rfl) (by kernel_rfl) (fun _ _ _ h => h) (Or.inr ⟨by rfl, rfl⟩) (by assumption) ?_; (try simp only [Act.put, List.getElem_toArray, List.getElem_cons_succ, List.getElem_cons_zero, List.setIfInBounds_toArray, List.set_cons_zero, List.set_cons_succ])
    refine wpAnyH_take (i := 11) (v := ?_) rfl (by kernel_rfl) (by kernel_rfl) (by kernel_rfl) (fun _ _ _ h => h) (Or.inl ⟨by rfl, ?_⟩) (by assumption) ?_; rotate_left; (focus (intro wS hSw; (try dsimp only at hSw); go_simp <;> with_reducible rfl)); (try simp only [Act.put, List.getElem_toArray, List.getElem_cons_succ, List.getElem_cons_zero, List.setIfInBounds_toArray, List.set_cons_zero, List.set_cons_succ])
    refine wpAnyH_take (i := 12) (v := ?_) rfl (by kernel_rfl) (by kernel_rfl) (by kernel_rfl) (fun _ _ _ h => h) (Or.inl ⟨by rfl, ?_⟩) (by assumption) ?_; rotate_left; (focus (intro wS hSw; (try dsimp only at hSw); go_simp <;> with_reducible rfl)); (try simp only [Act.put, List.getElem_toArray, List.getElem_cons_succ, List.getElem_cons_zero, List.setIfInBounds_toArray, List.set_cons_zero, List.set_cons_succ])
    refine wpAnyH_take (i := 13) (v := undef) rfl (by kernel_rfl) (by kernel_rfl) (by kernel_rfl) (fun _ _ _ h => h) (Or.inr ⟨by rfl, rfl⟩) (by assumption) ?_; (try simp only [Act.put, List.getElem_toArray, List.getElem_cons_succ, List.getElem_cons_zero, List.setIfInBounds_toArray, List.set_cons_zero, List.set_cons_succ])
    refine wpAnyH_take (i := 14) (v := undef) rfl (by kernel_rfl) (by kernel_rfl) (by kernel_rfl) (fun _ _ _ h => h) (Or.inr ⟨by rfl, rfl⟩) (by assumption) ?_; (try simp only [Act.put, List.getElem_toArray, List.getElem_cons_succ, List.getElem_cons_zero, List.setIfInBounds_toArray, List.set_cons_zero, List.set_cons_succ])
    refine wpAnyH_take (i := 15) (v := undef) rfl (by kernel_rfl) (by kernel_rfl) (by kernel_rfl) (fun _ _ _ h => h) (Or.inr ⟨by rfl, rfl⟩) (by assumption) ?_; (try simp only [Act.put, List.getElem_toArray, List.getElem_cons_succ, List.getElem_cons_zero, List.setIfInBounds_toArray, List.set_cons_zero, List.set_cons_succ])
    refine wpAnyH_take (i := 16) (v := undef) rfl (by kernel_rfl) (by kernel_rfl) (by kernel_rfl) (fun _ _ _ h => h) (Or.inr ⟨by rfl, rfl⟩) (by assumption) ?_; (try simp only [Act.put, List.getElem_toArray, List.getElem_cons_succ, List.getElem_cons_zero, List.setIfInBounds_toArray, List.set_cons_zero, List.set_cons_succ])
    refine wpAnyH_take (i := 17) (v := undef) rfl (by kernel_rfl) (by kernel_rfl) (by kernel_rfl) (fun _ _ _ h => h) (Or.inr ⟨by rfl, rfl⟩) (by assumption) ?_; (try simp only [Act.put, List.getElem_toArray, List.getElem_cons_succ, List.getElem_cons_zero, List.setIfInBounds_toArray, List.set_cons_zero, List.set_cons_succ])
    refine wpAnyH_take (i := 18) (v := ?_) rfl (by kernel_rfl) (by kernel_rfl) (by kernel_rfl) (fun _ _ _ h => h) (Or.inl ⟨by rfl, ?_⟩) (by assumption) ?_; rotate_left; (focus (intro wS hSw; (try dsimp only at hSw); go_simp <;> with_reducible rfl)); (try simp only [Act.put, List.getElem_toArray, List.getElem_cons_succ, List.getElem_cons_zero, List.setIfInBounds_toArray, List.set_cons_zero, List.set_cons_succ])
    refine wpAnyH_take (i := 19) (v := ?_) rfl (by kernel_rfl) (by kernel_rfl) (by kernel_rfl) (fun _ _ _ h => h) (Or.inl ⟨by rfl, ?_⟩) (by assumption) ?_; rotate_left; (focus (intro wS hSw; (try dsimp only at hSw); go_simp <;> with_reducible rfl)); (try simp only [Act.put, List.getElem_toArray, List.getElem_cons_succ, List.getElem_cons_zero, List.setIfInBounds_toArray, List.set_cons_zero, List.set_cons_succ])
    refine wpAnyH_done (by kernel_rfl) ?_ _
    (try simp only [Act.put, List.getElem_toArray, List.getElem_cons_succ, List.getElem_cons_zero, List.setIfInBounds_toArray, List.set_cons_zero, List.set_cons_succ])
    go_wp2
    go_ret
    exact ⟨ret_bool HR.out.symm, GG2.out⟩
  · simp only [h0] at hq
    have hb : ∀ w, (binOp .eql 138 (.agg #[.int .i64 n, .int .i64 f]) (.agg #[.int .i64 n', .int .i64 f'])).run Try.prog w = .ok (.bool true) w := fun w => by rw [run_eql_struct, hq]; rfl
    clear hq
    cases h2 : decide (L = L')
    · have HR : Hid (eqP n f L P n' f' L' P' = false) := by show _ = _; unfold eqP; rw [h2]; simp
      simp only [h2] at hM
      have HM := Lib.hid hM
      clear hM hB h2 h0
      go_enter Try.func109, Try.ntmps109
      go_wp2_with fail
      refine wp_region_held_drew (S := fun w' => w'.cell? ⟨w.heap.size, 0, none⟩ = some (.int .i64 n) ∧ w'.cell? ⟨w.heap.size, 1, none⟩ = some (.int .i64 f) ∧ w'.cell? ⟨w.heap.size, 2, none⟩ = some (cv) ∧ w'.cell? ⟨w.heap.size, 3, none⟩ = some (pv) ∧ w'.cell? ⟨w.heap.size + 1, 0, none⟩ = some (.int .i64 n') ∧ w'.cell? ⟨w.heap.size + 1, 1, none⟩ = some (.int .i64 f') ∧ w'.cell? ⟨w.heap.size + 1, 2, none⟩ = some (cv') ∧ w'.cell? ⟨w.heap.size + 1, 3, none⟩ = some (pv')) (by kernel_rfl) ⟨c0, c1, c2, c3, d0, d1, d2, d3⟩ (fun hHeld => ?_)
      refine wpAnyH_take (i := 0) (v := ?_) rfl (by kernel_rfl) (by kernel_rfl) (by kernel_rfl) (fun _ _ _ h => h) (Or.inl ⟨by rfl, ?_⟩) (by assumption) ?_; rotate_left; (focus (intro wS hSw; (try dsimp only at hSw); go_simp <;> with_reducible rfl)); (try simp only [Act.put, List.getElem_toArray, List.getElem_cons_succ, List.getElem_cons_zero, List.setIfInBounds_toArray, List.set_cons_zero, List.set_cons_succ])
      refine wpAnyH_take (i := 2) (v := ?_) rfl (by kernel_rfl) (by kernel_rfl) (by kernel_rfl) (fun _ _ _ h => h) (Or.inl ⟨by rfl, ?_⟩) (by assumption) ?_; rotate_left; (focus (intro wS hSw; (try dsimp only at hSw); go_simp <;> with_reducible rfl)); (try simp only [Act.put, List.getElem_toArray, List.getElem_cons_succ, List.getElem_cons_zero, List.setIfInBounds_toArray, List.set_cons_zero, List.set_cons_succ])
      refine wpAnyH_ready (rs := [1]) (by kernel_rfl) (by simp) ?_; refine AllReadyH.cons rfl (fun K hK => ?_) AllReadyH.nil; go_simp; (go_at_call 136; refine (numbers_any _ n f cv pv).mono ?_; rintro e w1 ⟨rfl, hg⟩; have BA1 := Lib.hid (BA0.out.grown hg); have BB1 := Lib.hid (BB0.out.grown hg); have GG1 := Lib.hid (grownN_trans GG0.out hg); have CA1 := Lib.hid (CA0.out.grown hg); have CB1 := Lib.hid (CB0.out.grown hg); have PA1 := Lib.hid (PA0.out.grown hg); have PB1 := Lib.hid (PB0.out.grown hg); clear hg)
      refine hK.out _ _ ?_ (fun hHeld => ?_)
      · exact ⟨BA1.out.cell 0, BA1.out.cell 1, BA1.out.cell 2, BA1.out.cell 3, BB1.out.cell 0, BB1.out.cell 1, BB1.out.cell 2, BB1.out.cell 3⟩
      clear hK K
      (try simp only [Act.put, List.getElem_toArray, List.getElem_cons_succ, List.getElem_cons_zero, List.setIfInBounds_toArray, List.set_cons_zero, List.set_cons_succ])
      refine wpAnyH_ready (rs := [3]) (by kernel_rfl) (by simp) ?_; refine AllReadyH.cons rfl (fun K hK => ?_) AllReadyH.nil; go_simp; (go_at_call 136; refine (numbers_any w1 n' f' cv' pv').mono ?_; rintro e w2 ⟨rfl, hg⟩; have BA2 := Lib.hid (BA1.out.grown hg); have BB2 := Lib.hid (BB1.out.grown hg); have GG2 := Lib.hid (grownN_trans GG1.out hg); have CA2 := Lib.hid (CA1.out.grown hg); have CB2 := Lib.hid (CB1.out.grown hg); have PA2 := Lib.hid (PA1.out.grown hg); have PB2 := Lib.hid (PB1.out.grown hg); clear hg)
      refine hK.out _ _ ?_ (fun hHeld => ?_)
      · exact ⟨BA2.out.cell 0, BA2.out.cell 1, BA2.out.cell 2, BA2.out.cell 3, BB2.out.cell 0, BB2.out.cell 1, BB2.out.cell 2, BB2.out.cell 3⟩
      clear hK K
      (try simp only [Act.put, List.getElem_toArray, List.getElem_cons_succ, List.getElem_cons_zero, List.setIfInBounds_toArray, List.set_cons_zero, List.set_cons_succ])
      refine wpAnyH_take (i := 4) (v := ?_) rfl (by kernel_rfl) (by kernel_rfl) (by kernel_rfl) (fun _ _ _ h => h) (Or.inl ⟨by rfl, ?_⟩) (by assumption) ?_; rotate_left; (focus (intro wS hSw; (try dsimp only at hSw); go_simp <;> with_reducible rfl)); (try simp only [Act.put, List.getElem_toArray, List.getElem_cons_succ, List.getElem_cons_zero, List.setIfInBounds_toArray, List.set_cons_zero, List.set_cons_succ])
      refine wpAnyH_take (i := 5) (v := ?_) rfl (by kernel_rfl) (by kernel_rfl) (by kernel_rfl) (fun _ _ _ h => h) (Or.inl ⟨by rfl, ?_⟩) (by assumption) ?_; rotate_left; (focus (intro wS hSw; (try dsimp only at hSw); go_simp <;> with_reducible rfl)); (try simp only [Act.put, List.getElem_toArray, List.getElem_cons_succ, List.getElem_cons_zero, List.setIfInBounds_toArray, List.set_cons_zero, List.set_cons_succ])
      refine wpAnyH_take (i := 6) (v := ?_) rfl (by kernel_rfl) (by kernel_rfl) (by kernel_rfl) (fun _ _ _ h => h) (Or.inl ⟨by rfl, ?_⟩) (by assumption) ?_; rotate_left; (focus (intro wS hSw; (try dsimp only at hSw); go_simp <;> with_reducible rfl)); (try simp only [Act.put, List.getElem_toArray, List.getElem_cons_succ, List.getElem_cons_zero, List.setIfInBounds_toArray, List.set_cons_zero, List.set_cons_succ])
      refine wpAnyH_take (i := 7) (v := ?_) rfl (by kernel_rfl) (by kernel_rfl) (by kernel_rfl) (fun _ _ _ h => h) (Or.inl ⟨by rfl, ?_⟩) (by assumption) ?_; rotate_left; (focus (intro wS hSw; (try dsimp only at hSw); go_simp <;> with_reducible rfl)); (try simp only [Act.put, List.getElem_toArray, List.getElem_cons_succ, List.getElem_cons_zero, List.setIfInBounds_toArray, List.set_cons_zero, List.set_cons_succ])
      refine wpAnyH_take (i := 8) (v := ?_) rfl (by kernel_rfl) (by kernel_rfl) (by kernel_rfl) (fun _ _ _ h => h) (Or.inl ⟨by rfl, ?_⟩) (by assumption) ?_; rotate_left; (focus (intro wS hSw; (try dsimp only at hSw); go_simp <;> with_reducible rfl)); (try simp only [Act.put, List.getElem_toArray, List.getElem_cons_succ, List.getElem_cons_zero, List.setIfInBounds_toArray, List.set_cons_zero, List.set_cons_succ])
      refine wpAnyH_take (i := 9) (v := ?_) rfl (by kernel_rfl) (by kernel_rfl) (by kernel_rfl) (fun _ _ _ h => h) (Or.inl ⟨by rfl, ?_⟩) (by assumption) ?_; rotate_left; (focus (intro wS hSw; (try dsimp only at hSw); go_simp <;> with_reducible rfl)); (try simp only [Act.put, List.getElem_toArray, List.getElem_cons_succ, List.getElem_cons_zero, List.setIfInBounds_toArray, List.set_cons_zero, List.set_cons_succ])
      refine wpAnyH_ready (rs := [10]) (by kernel_rfl) (by simp) ?_; refine AllReadyH.cons rfl (fun K hK => ?_) AllReadyH.nil; go_simp; (go_at_call 137; refine (HM.out w2 CA2.out CB2.out).mono ?_; rintro e w3 ⟨rfl, hg⟩; have BA3 := Lib.hid (BA2.out.grown hg); have BB3 := Lib.hid (BB2.out.grown hg); have GG3 := Lib.hid (grownN_trans GG2.out hg); have CA3 := Lib.hid (CA2.out.grown hg); have CB3 := Lib.hid (CB2.out.grown hg); have PA3 := Lib.hid (PA2.out.grown hg); have PB3 := Lib.hid (PB2.out.grown hg); clear hg)
      refine hK.out _ _ ?_ (fun hHeld => ?_)
      · exact ⟨BA3.out.cell 0, BA3.out.cell 1, BA3.out.cell 2, BA3.out.cell 3, BB3.out.cell 0, BB3.out.cell 1, BB3.out.cell 2, BB3.out.cell 3⟩
      clear hK K
      (try simp only [Act.put, List.getElem_toArray, List.getElem_cons_succ, List.getElem_cons_zero, List.setIfInBounds_toArray, List.set_cons_zero, List.set_cons_succ])
      refine wpAnyH_take (i := 11) (v := ?_) rfl (by kernel_rfl) (by kernel_rfl) (by kernel_rfl) (fun _ _ _ h => h) (Or.inl ⟨by rfl, ?_⟩) (by assumption) ?_; rotate_left; (focus (intro wS hSw; (try dsimp only at hSw); go_simp <;> with_reducible rfl)); (try simp only [Act.put, List.getElem_toArray, List.getElem_cons_succ, List.getElem_cons_zero, List.setIfInBounds_toArray, List.set_cons_zero, List.set_cons_succ])
      refine wpAnyH_take (i := 12) (v := ?_) rfl (by kernel_rfl) (by kernel_rfl) (by kernel_rfl) (fun _ _ _ h => h) (Or.inl ⟨by rfl, ?_⟩) (by assumption) ?_; rotate_left; (focus (intro wS hSw; (try dsimp only at hSw); go_simp <;> with_reducible rfl)); (try simp only [Act.put, List.getElem_toArray, List.getElem_cons_succ, List.getElem_cons_zero, List.setIfInBounds_toArray, List.set_cons_zero, List.set_cons_succ])
      refine wpAnyH_take (i := 13) (v := undef) rfl (by kernel_rfl) (by kernel_rfl) (by kernel_rfl) (fun _ _ _ h => h) (Or.inr ⟨by rfl, rfl⟩) (by assumption) ?_; (try simp only [Act.put, List.getElem_toArray, List.getElem_cons_succ, List.getElem_cons_zero, List.setIfInBounds_toArray, List.set_cons_zero, List.set_cons_succ])
      refine wpAnyH_take (i := 14) (v := undef) rfl (by kernel_rfl) (by kernel_rfl) (by kernel_rfl) (fun _ _ _ h => h) (Or.inr ⟨by rfl, rfl⟩) (by assumption) ?_; (try simp only [Act.put, List.getElem_toArray, List.getElem_cons_succ, List.getElem_cons_zero, List.setIfInBounds_toArray, List.set_cons_zero, List.set_cons_succ])
      refine wpAnyH_take (i := 15) (v := undef) rfl (by kernel_rfl) (by kernel_rfl) (by kernel_rfl) (fun _ _ _ h => h) (Or.inr ⟨by rfl, rfl⟩) (by assumption) ?_; (try simp only [Act.put, List.getElem_toArray, List.getElem_cons_succ, List.getElem_cons_zero, List.setIfInBounds_toArray, List.set_cons_zero, List.set_cons_succ])
      refine wpAnyH_take (i := 16) (v := undef) rfl (by kernel_rfl) (by kernel_rfl) (by kernel_rfl) (fun _ _ _ h => h) (Or.inr ⟨by rfl, rfl⟩) (by assumption) ?_; (try simp only [Act.put, List.getElem_toArray, List.getElem_cons_succ, List.getElem_cons_zero, List.setIfInBounds_toArray, List.set_cons_zero, List.set_cons_succ])
      refine wpAnyH_take (i := 17) (v := undef) rfl (by kernel_rfl) (by kernel_rfl) (by kernel_rfl) (fun _ _ _ h => h) (Or.inr ⟨by rfl, rfl⟩) (by assumption) ?_; (try simp only [Act.put, List.getElem_toArray, List.getElem_cons_succ, List.getElem_cons_zero, List.setIfInBounds_toArray, List.set_cons_zero, List.set_cons_succ])
      refine wpAnyH_take (i := 18) (v := ?_) rfl (by kernel_rfl) (by kernel_rfl) (by kernel_rfl) (fun _ _ _ h => h) (Or.inl ⟨by rfl, ?_⟩) (by assumption) ?_; rotate_left; (focus (intro wS hSw; (try dsimp only at hSw); go_simp <;> with_reducible rfl)); (try simp only [Act.put, List.getElem_toArray, List.getElem_cons_succ, List.getElem_cons_zero, List.setIfInBounds_toArray, List.set_cons_zero, List.set_cons_succ])
      refine wpAnyH_take (i := 19) (v := ?_) rfl (by kernel_rfl) (by kernel_rfl) (by kernel_rfl) (fun _ _ _ h => h) (Or.inl ⟨by rfl, ?_⟩) (by assumption) ?_; rotate_left; (focus (intro wS hSw; (try dsimp only at hSw); go_simp <;> with_reducible rfl)); (try simp only [Act.put, List.getElem_toArray, List.getElem_cons_succ, List.getElem_cons_zero, List.setIfInBounds_toArray, List.set_cons_zero, List.set_cons_succ])
      refine wpAnyH_done (by kernel_rfl) ?_ _
      (try simp only [Act.put, List.getElem_toArray, List.getElem_cons_succ, List.getElem_cons_zero, List.setIfInBounds_toArray, List.set_cons_zero, List.set_cons_succ])
      go_wp2
      go_ret
      exact ⟨ret_bool HR.out.symm, GG3.out⟩
    · have hr : eqP n f L P n' f' L' P' = decide (P = P') := by unfold eqP; rw [← Bool.and_assoc, h0, h2]; simp
      have HR := Lib.hid hr
      simp only [h2] at hM
      have HM := Lib.hid hM
      have HBB := Lib.hid hB
      clear hM hB h2 hr h0
      go_enter Try.func109, Try.ntmps109
      go_wp2_with fail
      refine wp_region_held_drew (S := fun w' => w'.cell? ⟨w.heap.size, 0, none⟩ = some (.int .i64 n) ∧ w'.cell? ⟨w.heap.size, 1, none⟩ = some (.int .i64 f) ∧ w'.cell? ⟨w.heap.size, 2, none⟩ = some (cv) ∧ w'.cell? ⟨w.heap.size, 3, none⟩ = some (pv) ∧ w'.cell? ⟨w.heap.size + 1, 0, none⟩ = some (.int .i64 n') ∧ w'.cell? ⟨w.heap.size + 1, 1, none⟩ = some (.int .i64 f') ∧ w'.cell? ⟨w.heap.size + 1, 2, none⟩ = some (cv') ∧ w'.cell? ⟨w.heap.size + 1, 3, none⟩ = some (pv')) (by kernel_rfl) ⟨c0, c1, c2, c3, d0, d1, d2, d3⟩ (fun hHeld => ?_)
      refine wpAnyH_take (i := 0) (v := ?_) rfl (by kernel_rfl) (by kernel_rfl) (by kernel_rfl) (fun _ _ _ h => h) (Or.inl ⟨by rfl, ?_⟩) (by assumption) ?_; rotate_left; (focus (intro wS hSw; (try dsimp only at hSw); go_simp <;> with_reducible rfl)); (try simp only [Act.put, List.getElem_toArray, List.getElem_cons_succ, List.getElem_cons_zero, List.setIfInBounds_toArray, List.set_cons_zero, List.set_cons_succ])
      refine wpAnyH_take (i := 2) (v := ?_) rfl (by kernel_rfl) (by kernel_rfl) (by kernel_rfl) (fun _ _ _ h => h) (Or.inl ⟨by rfl, ?_⟩) (by assumption) ?_; rotate_left; (focus (intro wS hSw; (try dsimp only at hSw); go_simp <;> with_reducible rfl)); (try simp only [Act.put, List.getElem_toArray, List.getElem_cons_succ, List.getElem_cons_zero, List.setIfInBounds_toArray, List.set_cons_zero, List.set_cons_succ])
      refine wpAnyH_ready (rs := [1]) (by kernel_rfl) (by simp) ?_; refine AllReadyH.cons rfl (fun K hK => ?_) AllReadyH.nil; go_simp; (go_at_call 136; refine (numbers_any _ n f cv pv).mono ?_; rintro e w1 ⟨rfl, hg⟩; have BA1 := Lib.hid (BA0.out.grown hg); have BB1 := Lib.hid (BB0.out.grown hg); have GG1 := Lib.hid (grownN_trans GG0.out hg); have CA1 := Lib.hid (CA0.out.grown hg); have CB1 := Lib.hid (CB0.out.grown hg); have PA1 := Lib.hid (PA0.out.grown hg); have PB1 := Lib.hid (PB0.out.grown hg); clear hg)
      refine hK.out _ _ ?_ (fun hHeld => ?_)
      · exact ⟨BA1.out.cell 0, BA1.out.cell 1, BA1.out.cell 2, BA1.out.cell 3, BB1.out.cell 0, BB1.out.cell 1, BB1.out.cell 2, BB1.out.cell 3⟩
      clear hK K
      (try simp only [Act.put, List.getElem_toArray, List.getElem_cons_succ, List.getElem_cons_zero, List.setIfInBounds_toArray, List.set_cons_zero, List.set_cons_succ])
      refine wpAnyH_ready (rs := [3]) (by kernel_rfl) (by simp) ?_; refine AllReadyH.cons rfl (fun K hK => ?_) AllReadyH.nil; go_simp; (go_at_call 136; refine (numbers_any w1 n' f' cv' pv').mono ?_; rintro e w2 ⟨rfl, hg⟩; have BA2 := Lib.hid (BA1.out.grown hg); have BB2 := Lib.hid (BB1.out.grown hg); have GG2 := Lib.hid (grownN_trans GG1.out hg); have CA2 := Lib.hid (CA1.out.grown hg); have CB2 := Lib.hid (CB1.out.grown hg); have PA2 := Lib.hid (PA1.out.grown hg); have PB2 := Lib.hid (PB1.out.grown hg); clear hg)
      refine hK.out _ _ ?_ (fun hHeld => ?_)
      · exact ⟨BA2.out.cell 0, BA2.out.cell 1, BA2.out.cell 2, BA2.out.cell 3, BB2.out.cell 0, BB2.out.cell 1, BB2.out.cell 2, BB2.out.cell 3⟩
      clear hK K
      (try simp only [Act.put, List.getElem_toArray, List.getElem_cons_succ, List.getElem_cons_zero, List.setIfInBounds_toArray, List.set_cons_zero, List.set_cons_succ])
      refine wpAnyH_take (i := 4) (v := ?_) rfl (by kernel_rfl) (by kernel_rfl) (by kernel_rfl) (fun _ _ _ h => h) (Or.inl ⟨by rfl, ?_⟩) (by assumption) ?_; rotate_left; (focus (intro wS hSw; (try dsimp only at hSw); go_simp <;> with_reducible rfl)); (try simp only [Act.put, List.getElem_toArray, List.getElem_cons_succ, List.getElem_cons_zero, List.setIfInBounds_toArray, List.set_cons_zero, List.set_cons_succ])
      refine wpAnyH_take (i := 5) (v := ?_) rfl (by kernel_rfl) (by kernel_rfl) (by kernel_rfl) (fun _ _ _ h => h) (Or.inl ⟨by rfl, ?_⟩) (by assumption) ?_; rotate_left; (focus (intro wS hSw; (try dsimp only at hSw); go_simp <;> with_reducible rfl)); (try simp only [Act.put, List.getElem_toArray, List.getElem_cons_succ, List.getElem_cons_zero, List.setIfInBounds_toArray, List.set_cons_zero, List.set_cons_succ])
      refine wpAnyH_take (i := 6) (v := ?_) rfl (by kernel_rfl) (by kernel_rfl) (by kernel_rfl) (fun _ _ _ h => h) (Or.inl ⟨by rfl, ?_⟩) (by assumption) ?_; rotate_left; (focus (intro wS hSw; (try dsimp only at hSw); go_simp <;> with_reducible rfl)); (try simp only [Act.put, List.getElem_toArray, List.getElem_cons_succ, List.getElem_cons_zero, List.setIfInBounds_toArray, List.set_cons_zero, List.set_cons_succ])
      refine wpAnyH_take (i := 7) (v := ?_) rfl (by kernel_rfl) (by kernel_rfl) (by kernel_rfl) (fun _ _ _ h => h) (Or.inl ⟨by rfl, ?_⟩) (by assumption) ?_; rotate_left; (focus (intro wS hSw; (try dsimp only at hSw); go_simp <;> with_reducible rfl)); (try simp only [Act.put, List.getElem_toArray, List.getElem_cons_succ, List.getElem_cons_zero, List.setIfInBounds_toArray, List.set_cons_zero, List.set_cons_succ])
      refine wpAnyH_take (i := 8) (v := ?_) rfl (by kernel_rfl) (by kernel_rfl) (by kernel_rfl) (fun _ _ _ h => h) (Or.inl ⟨by rfl, ?_⟩) (by assumption) ?_; rotate_left; (focus (intro wS hSw; (try dsimp only at hSw); go_simp <;> with_reducible rfl)); (try simp only [Act.put, List.getElem_toArray, List.getElem_cons_succ, List.getElem_cons_zero, List.setIfInBounds_toArray, List.set_cons_zero, List.set_cons_succ])
      refine wpAnyH_take (i := 9) (v := ?_) rfl (by kernel_rfl) (by kernel_rfl) (by kernel_rfl) (fun _ _ _ h => h) (Or.inl ⟨by rfl, ?_⟩) (by assumption) ?_; rotate_left; (focus (intro wS hSw; (try dsimp only at hSw); go_simp <;> with_reducible rfl)); (try simp only [Act.put, List.getElem_toArray, List.getElem_cons_succ, List.getElem_cons_zero, List.setIfInBounds_toArray, List.set_cons_zero, List.set_cons_succ])
      refine wpAnyH_ready (rs := [10]) (by kernel_rfl) (by simp) ?_; refine AllReadyH.cons rfl (fun K hK => ?_) AllReadyH.nil; go_simp; (go_at_call 137; refine (HM.out w2 CA2.out CB2.out).mono ?_; rintro e w3 ⟨rfl, hg⟩; have BA3 := Lib.hid (BA2.out.grown hg); have BB3 := Lib.hid (BB2.out.grown hg); have GG3 := Lib.hid (grownN_trans GG2.out hg); have CA3 := Lib.hid (CA2.out.grown hg); have CB3 := Lib.hid (CB2.out.grown hg); have PA3 := Lib.hid (PA2.out.grown hg); have PB3 := Lib.hid (PB2.out.grown hg); clear hg)
      refine hK.out _ _ ?_ (fun hHeld => ?_)
      · exact ⟨BA3.out.cell 0, BA3.out.cell 1, BA3.out.cell 2, BA3.out.cell 3, BB3.out.cell 0, BB3.out.cell 1, BB3.out.cell 2, BB3.out.cell 3⟩
      clear hK K
      (try simp only [Act.put, List.getElem_toArray, List.getElem_cons_succ, List.getElem_cons_zero, List.setIfInBounds_toArray, List.set_cons_zero, List.set_cons_succ])
      refine wpAnyH_take (i := 11) (v := ?_) rfl (by kernel_rfl) (by kernel_rfl) (by kernel_rfl) (fun _ _ _ h => h) (Or.inl ⟨by rfl, ?_⟩) (by assumption) ?_; rotate_left; (focus (intro wS hSw; (try dsimp only at hSw); go_simp <;> with_reducible rfl)); (try simp only [Act.put, List.getElem_toArray, List.getElem_cons_succ, List.getElem_cons_zero, List.setIfInBounds_toArray, List.set_cons_zero, List.set_cons_succ])
      refine wpAnyH_take (i := 12) (v := ?_) rfl (by kernel_rfl) (by kernel_rfl) (by kernel_rfl) (fun _ _ _ h => h) (Or.inl ⟨by rfl, ?_⟩) (by assumption) ?_; rotate_left; (focus (intro wS hSw; (try dsimp only at hSw); go_simp <;> with_reducible rfl)); (try simp only [Act.put, List.getElem_toArray, List.getElem_cons_succ, List.getElem_cons_zero, List.setIfInBounds_toArray, List.set_cons_zero, List.set_cons_succ])
      refine wpAnyH_take (i := 13) (v := ?_) rfl (by kernel_rfl) (by kernel_rfl) (by kernel_rfl) (fun _ _ _ h => h) (Or.inl ⟨by rfl, ?_⟩) (by assumption) ?_; rotate_left; (focus (intro wS hSw; (try dsimp only at hSw); go_simp <;> with_reducible rfl)); (try simp only [Act.put, List.getElem_toArray, List.getElem_cons_succ, List.getElem_cons_zero, List.setIfInBounds_toArray, List.set_cons_zero, List.set_cons_succ])
      refine wpAnyH_take (i := 14) (v := ?_) rfl (by kernel_rfl) (by kernel_rfl) (by kernel_rfl) (fun _ _ _ h => h) (Or.inl ⟨by rfl, ?_⟩) (by assumption) ?_; rotate_left; (focus (intro wS hSw; (try dsimp only at hSw); go_simp <;> with_reducible rfl)); (try simp only [Act.put, List.getElem_toArray, List.getElem_cons_succ, List.getElem_cons_zero, List.setIfInBounds_toArray, List.set_cons_zero, List.set_cons_succ])
      refine wpAnyH_take (i := 15) (v := ?_) rfl (by kernel_rfl) (by kernel_rfl) (by kernel_rfl) (fun _ _ _ h => h) (Or.inl ⟨by rfl, ?_⟩) (by assumption) ?_; rotate_left; (focus (intro wS hSw; (try dsimp only at hSw); go_simp <;> with_reducible rfl)); (try simp only [Act.put, List.getElem_toArray, List.getElem_cons_succ, List.getElem_cons_zero, List.setIfInBounds_toArray, List.set_cons_zero, List.set_cons_succ])
      refine wpAnyH_take (i := 16) (v := ?_) rfl (by kernel_rfl) (by kernel_rfl) (by kernel_rfl) (fun _ _ _ h => h) (Or.inl ⟨by rfl, ?_⟩) (by assumption) ?_; rotate_left; (focus (intro wS hSw; (try dsimp only at hSw); go_simp <;> with_reducible rfl)); (try simp only [Act.put, List.getElem_toArray, List.getElem_cons_succ, List.getElem_cons_zero, List.setIfInBounds_toArray, List.set_cons_zero, List.set_cons_succ])
      refine wpAnyH_ready (rs := [17]) (by kernel_rfl) (by simp) ?_; refine AllReadyH.cons rfl (fun K hK => ?_) AllReadyH.nil; go_simp; (go_at_call 138; refine (HBB.out w3 PA3.out PB3.out).mono ?_; rintro e w4 ⟨rfl, hg⟩; have BA4 := Lib.hid (BA3.out.grown hg); have BB4 := Lib.hid (BB3.out.grown hg); have GG4 := Lib.hid (grownN_trans GG3.out hg); have CA4 := Lib.hid (CA3.out.grown hg); have CB4 := Lib.hid (CB3.out.grown hg); have PA4 := Lib.hid (PA3.out.grown hg); have PB4 := Lib.hid (PB3.out.grown hg); clear hg)
      refine hK.out _ _ ?_ (fun hHeld => ?_)
      · exact ⟨BA4.out.cell 0, BA4.out.cell 1, BA4.out.cell 2, BA4.out.cell 3, BB4.out.cell 0, BB4.out.cell 1, BB4.out.cell 2, BB4.out.cell 3⟩
      clear hK K
      (try simp only [Act.put, List.getElem_toArray, List.getElem_cons_succ, List.getElem_cons_zero, List.setIfInBounds_toArray, List.set_cons_zero, List.set_cons_succ])
      refine wpAnyH_take (i := 18) (v := ?_) rfl (by kernel_rfl) (by kernel_rfl) (by kernel_rfl) (fun _ _ _ h => h) (Or.inl ⟨by rfl, ?_⟩) (by assumption) ?_; rotate_left; (focus (intro wS hSw; (try dsimp only at hSw); go_simp <;> with_reducible rfl)); (try simp only [Act.put, List.getElem_toArray, List.getElem_cons_succ, List.getElem_cons_zero, List.setIfInBounds_toArray, List.set_cons_zero, List.set_cons_succ])
      refine wpAnyH_take (i := 19) (v := ?_) rfl (by kernel_rfl) (by kernel_rfl) (by kernel_rfl) (fun _ _ _ h => h) (Or.inl ⟨by rfl, ?_⟩) (by assumption) ?_; rotate_left; (focus (intro wS hSw; (try dsimp only at hSw); go_simp <;> with_reducible rfl)); (try simp only [Act.put, List.getElem_toArray, List.getElem_cons_succ, List.getElem_cons_zero, List.setIfInBounds_toArray, List.set_cons_zero, List.set_cons_succ])
      refine wpAnyH_done (by kernel_rfl) ?_ _
      (try simp only [Act.put, List.getElem_toArray, List.getElem_cons_succ, List.getElem_cons_zero, List.setIfInBounds_toArray, List.set_cons_zero, List.set_cons_succ])
      go_wp2
      go_ret
      exact ⟨ret_bool HR.out.symm, GG4.out⟩
end Go.Proofs.Ytochohoihmfanaa.Pb