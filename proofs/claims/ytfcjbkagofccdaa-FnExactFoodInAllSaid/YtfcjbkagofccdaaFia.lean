/- Contracts of the food in all, of the program and of its model. -/
import Derived.Test.YtfcjbkagofccdaaDepI
import Derived.Test.YtfcjbkagofccdaaPh
namespace Go.Proofs.Ytfcjbkagofccdaa.Fia
open Go.RowKit Kit Rw Rg Crw Four PartyL Dep DepI Mn

theorem cl_most (f : Int) : most 0 (least 10000 f) = cl f := by
  unfold most least cl
  by_cases h1 : f < 10000
  · rw [if_pos h1]; by_cases h2 : 0 < f
    · rw [if_pos h2, if_neg (by omega), if_neg (by omega)]
    · rw [if_neg h2]; by_cases h3 : f < 0
      · rw [if_pos h3]
      · rw [if_neg h3, if_neg (by omega)]; omega
  · rw [if_neg h1, if_pos (by omega), if_neg (by omega)]; by_cases h2 : 10000 < f
    · rw [if_pos h2]
    · rw [if_neg h2]; omega
def allF (D : List (Int × Int)) (f : Int) : Int := tot D D.length + cl f

set_option maxRecDepth 20000 in
set_option maxHeartbeats 1000000 in
theorem iAll_any (w : World) (n f : Int) (cv pv dv : Value) (D : List (Int × Int)) (hd : SeesG encP w dv D) (hn : D.length ≤ 1000000000) :
    Calls Try.prog 19 #[dv, .agg #[.int .i64 n, .int .i64 f, cv, pv]] w fun e w' => e = .returned (.int .i64 (allF D f)) ∧ w.grownBy w' none := by
  have g0 := World.grownBy_alloc w (.cells #[.int .i64 n, .int .i64 f, cv, pv] 37 (0, 0)) (none : Option Nat)
  have HG := Lib.hid g0
  have HB := Lib.hid (box_new w #[.int .i64 n, .int .i64 f, cv, pv] 37)
  have HD := Lib.hid (hd.grown g0)
  have hb1 := tot_b (L := D) D.length (Nat.le_refl _)
  have hb2 := cl_b f
  obtain ⟨T, hT⟩ : ∃ T, T = tot D D.length := ⟨_, rfl⟩
  obtain ⟨F, hF⟩ : ∃ F, F = cl f := ⟨_, rfl⟩
  rw [← hT] at hb1
  rw [← hF] at hb2
  have HI : Hid (allF D f = T + F) := by show _ = _; unfold allF; rw [hT, hF]
  have HT := Lib.hid hT
  have HF := Lib.hid hF
  have hw : IntKind.i64.wrap (T + F) = T + F := IntWalk.i64_in _ (by omega)
  clear g0 hd hT hF
  go_enter Try.func19, Try.ntmps19
  go_wp2_with fail
  generalize w.alloc (.cells #[.int .i64 n, .int .i64 f, cv, pv] 37 (0, 0)) = W at *
  generalize w.heap.size = B at *
  have HX := Lib.hid (grown_drew (World.grownBy.refl W none))
  refine wp_region_held_drew (S := fun w' => w'.cell? ⟨B, 1, none⟩ = some (.int .i64 f)) (by kernel_rfl) ((HB.out.grown HX.out).cell 1) (fun hHeld => ?_)
  refine wpAnyH_take (i := 0) (v := ?_) rfl (by kernel_rfl) (by kernel_rfl) (by kernel_rfl) (fun _ _ _ h => h) (Or.inl ⟨by rfl, ?_⟩) (by assumption) ?_; rotate_left; (focus (intro wS hSw; (try dsimp only at hSw); go_simp <;> with_reducible rfl)); (try simp only [Act.put, List.getElem_toArray, List.getElem_cons_succ, List.getElem_cons_zero, List.setIfInBounds_toArray, List.set_cons_zero, List.set_cons_succ])
  refine wpAnyH_take (i := 2) (v := ?_) rfl (by kernel_rfl) (by kernel_rfl) (by kernel_rfl) (fun _ _ _ h => h) (Or.inl ⟨by rfl, ?_⟩) (by assumption) ?_; rotate_left; (focus (intro wS hSw; (try dsimp only at hSw); go_simp <;> with_reducible rfl)); (try simp only [Act.put, List.getElem_toArray, List.getElem_cons_succ, List.getElem_cons_zero, List.setIfInBounds_toArray, List.set_cons_zero, List.set_cons_succ])
  refine wpAnyH_take (i := 3) (v := ?_) rfl (by kernel_rfl) (by kernel_rfl) (by kernel_rfl) (fun _ _ _ h => h) (Or.inl ⟨by rfl, ?_⟩) (by assumption) ?_; rotate_left; (focus (intro wS hSw; (try dsimp only at hSw); go_simp <;> with_reducible rfl)); (try simp only [Act.put, List.getElem_toArray, List.getElem_cons_succ, List.getElem_cons_zero, List.setIfInBounds_toArray, List.set_cons_zero, List.set_cons_succ])
  refine wpAnyH_ready (rs := [1]) (by kernel_rfl) (by simp) ?_; refine AllReadyH.cons rfl (fun K hK => ?_) AllReadyH.nil; go_simp; (go_at_call 14; refine (iTotal_any _ dv D (HD.out.grown HX.out) hn).mono ?_; rintro e w2 ⟨rfl, hg⟩; rw [← HT.out]; have HX2 := Lib.hid (grownN_trans HX.out hg); clear hg)
  refine hK.out _ _ ?_ (fun hHeld => ?_)
  · exact (HB.out.grown HX2.out).cell 1
  clear hK K
  (try simp only [Act.put, List.getElem_toArray, List.getElem_cons_succ, List.getElem_cons_zero, List.setIfInBounds_toArray, List.set_cons_zero, List.set_cons_succ])
  refine wpAnyH_ready (rs := [4]) (by kernel_rfl) (by simp) ?_; refine AllReadyH.cons rfl (fun K hK => ?_) AllReadyH.nil; go_simp; (go_at_call 50; refine (counted_any f _).mono ?_; rintro e w3 ⟨rfl, hg⟩; rw [← HF.out]; have HX3 := Lib.hid (grownN_trans HX2.out hg); clear hg)
  refine hK.out _ _ ?_ (fun hHeld => ?_)
  · exact (HB.out.grown HX3.out).cell 1
  clear hK K
  (try simp only [Act.put, List.getElem_toArray, List.getElem_cons_succ, List.getElem_cons_zero, List.setIfInBounds_toArray, List.set_cons_zero, List.set_cons_succ])
  refine wpAnyH_take (i := 5) (v := ?_) rfl (by kernel_rfl) (by kernel_rfl) (by kernel_rfl) (fun _ _ _ h => h) (Or.inl ⟨by rfl, ?_⟩) (by assumption) ?_; rotate_left; (focus (intro wS hSw; (try dsimp only at hSw); go_simp <;> with_reducible rfl)); (try simp only [Act.put, List.getElem_toArray, List.getElem_cons_succ, List.getElem_cons_zero, List.setIfInBounds_toArray, List.set_cons_zero, List.set_cons_succ])
  refine wpAnyH_take (i := 6) (v := ?_) rfl (by kernel_rfl) (by kernel_rfl) (by kernel_rfl) (fun _ _ _ h => h) (Or.inl ⟨by rfl, ?_⟩) (by assumption) ?_; rotate_left; (focus (intro wS hSw; (try dsimp only at hSw); go_simp <;> with_reducible rfl)); (try simp only [Act.put, List.getElem_toArray, List.getElem_cons_succ, List.getElem_cons_zero, List.setIfInBounds_toArray, List.set_cons_zero, List.set_cons_succ])
  refine wpAnyH_done (by kernel_rfl) ?_ _
  (try simp only [Act.put, List.getElem_toArray, List.getElem_cons_succ, List.getElem_cons_zero, List.setIfInBounds_toArray, List.set_cons_zero, List.set_cons_succ])
  go_wp2
  go_ret
  exact ⟨ret_i64 (by rw [HI.out]), grownN_trans HG.out HX3.out⟩

set_option maxRecDepth 20000 in
set_option maxHeartbeats 1000000 in
theorem sAll_any (w : World) (n f : Int) (cv pv dv : Value) (D : List (Int × Int)) (hd : SeesG encP w dv D) (hn : D.length ≤ 1000000000) :
    Calls Try.prog 17 #[dv, .agg #[.int .i64 n, .int .i64 f, cv, pv]] w fun e w' => e = .returned (.int .i64 (allF D f)) ∧ w.grownBy w' none := by
  have g0 := World.grownBy_alloc w (.cells #[.int .i64 n, .int .i64 f, cv, pv] 37 (0, 0)) (none : Option Nat)
  have HG := Lib.hid g0
  have HB := Lib.hid (box_new w #[.int .i64 n, .int .i64 f, cv, pv] 37)
  have HD := Lib.hid (hd.grown g0)
  have hb1 := tot_b (L := D) D.length (Nat.le_refl _)
  have hb2 := cl_b f
  obtain ⟨T, hT⟩ : ∃ T, T = tot D D.length := ⟨_, rfl⟩
  obtain ⟨F, hF⟩ : ∃ F, F = cl f := ⟨_, rfl⟩
  obtain ⟨q, hq⟩ : ∃ q, q = least 10000 f := ⟨_, rfl⟩
  rw [← hT] at hb1
  rw [← hF] at hb2
  have HI : Hid (allF D f = T + F) := by show _ = _; unfold allF; rw [hT, hF]
  have HT := Lib.hid hT
  have HQ := Lib.hid hq
  have HF : Hid (most 0 q = F) := by show _ = _; rw [hq, cl_most, hF]
  have hw : IntKind.i64.wrap (T + F) = T + F := IntWalk.i64_in _ (by omega)
  clear g0 hd hT hF hq
  go_enter Try.func17, Try.ntmps17
  go_wp2_with fail
  generalize w.alloc (.cells #[.int .i64 n, .int .i64 f, cv, pv] 37 (0, 0)) = W at *
  generalize w.heap.size = B at *
  have HX := Lib.hid (grown_drew (World.grownBy.refl W none))
  refine wp_region_held_drew (S := fun w' => w'.cell? ⟨B, 1, none⟩ = some (.int .i64 f)) (by kernel_rfl) ((HB.out.grown HX.out).cell 1) (fun hHeld => ?_)
  refine wpAnyH_take (i := 0) (v := ?_) rfl (by kernel_rfl) (by kernel_rfl) (by kernel_rfl) (fun _ _ _ h => h) (Or.inl ⟨by rfl, ?_⟩) (by assumption) ?_; rotate_left; (focus (intro wS hSw; (try dsimp only at hSw); go_simp <;> with_reducible rfl)); (try simp only [Act.put, List.getElem_toArray, List.getElem_cons_succ, List.getElem_cons_zero, List.setIfInBounds_toArray, List.set_cons_zero, List.set_cons_succ])
  refine wpAnyH_take (i := 2) (v := ?_) rfl (by kernel_rfl) (by kernel_rfl) (by kernel_rfl) (fun _ _ _ h => h) (Or.inl ⟨by rfl, ?_⟩) (by assumption) ?_; rotate_left; (focus (intro wS hSw; (try dsimp only at hSw); go_simp <;> with_reducible rfl)); (try simp only [Act.put, List.getElem_toArray, List.getElem_cons_succ, List.getElem_cons_zero, List.setIfInBounds_toArray, List.set_cons_zero, List.set_cons_succ])
  refine wpAnyH_take (i := 3) (v := ?_) rfl (by kernel_rfl) (by kernel_rfl) (by kernel_rfl) (fun _ _ _ h => h) (Or.inl ⟨by rfl, ?_⟩) (by assumption) ?_; rotate_left; (focus (intro wS hSw; (try dsimp only at hSw); go_simp <;> with_reducible rfl)); (try simp only [Act.put, List.getElem_toArray, List.getElem_cons_succ, List.getElem_cons_zero, List.setIfInBounds_toArray, List.set_cons_zero, List.set_cons_succ])
  refine wpAnyH_ready (rs := [1]) (by kernel_rfl) (by simp) ?_; refine AllReadyH.cons rfl (fun K hK => ?_) AllReadyH.nil; go_simp; (go_at_call 12; refine (sTotal_any _ dv D (HD.out.grown HX.out) hn).mono ?_; rintro e w2 ⟨rfl, hg⟩; rw [← HT.out]; have HX2 := Lib.hid (grownN_trans HX.out hg); clear hg)
  refine hK.out _ _ ?_ (fun hHeld => ?_)
  · exact (HB.out.grown HX2.out).cell 1
  clear hK K
  (try simp only [Act.put, List.getElem_toArray, List.getElem_cons_succ, List.getElem_cons_zero, List.setIfInBounds_toArray, List.set_cons_zero, List.set_cons_succ])
  refine wpAnyH_ready (rs := [4]) (by kernel_rfl) (by simp) ?_; refine AllReadyH.cons rfl (fun K hK => ?_) AllReadyH.nil; go_simp; (go_at_call 48; refine (Ph.sMin2 10000 f _).mono ?_; rintro e w3 ⟨rfl, hg⟩; rw [← HQ.out]; have HX3 := Lib.hid (grownN_trans HX2.out hg); clear hg)
  refine hK.out _ _ ?_ (fun hHeld => ?_)
  · exact (HB.out.grown HX3.out).cell 1
  clear hK K
  (try simp only [Act.put, List.getElem_toArray, List.getElem_cons_succ, List.getElem_cons_zero, List.setIfInBounds_toArray, List.set_cons_zero, List.set_cons_succ])
  refine wpAnyH_ready (rs := [5]) (by kernel_rfl) (by simp) ?_; refine AllReadyH.cons rfl (fun K hK => ?_) AllReadyH.nil; go_simp; (go_at_call 47; refine (Ph.sMax2 0 q _).mono ?_; rintro e w4 ⟨rfl, hg⟩; rw [HF.out]; have HX4 := Lib.hid (grownN_trans HX3.out hg); clear hg)
  refine hK.out _ _ ?_ (fun hHeld => ?_)
  · exact (HB.out.grown HX4.out).cell 1
  clear hK K
  (try simp only [Act.put, List.getElem_toArray, List.getElem_cons_succ, List.getElem_cons_zero, List.setIfInBounds_toArray, List.set_cons_zero, List.set_cons_succ])
  refine wpAnyH_take (i := 6) (v := ?_) rfl (by kernel_rfl) (by kernel_rfl) (by kernel_rfl) (fun _ _ _ h => h) (Or.inl ⟨by rfl, ?_⟩) (by assumption) ?_; rotate_left; (focus (intro wS hSw; (try dsimp only at hSw); go_simp <;> with_reducible rfl)); (try simp only [Act.put, List.getElem_toArray, List.getElem_cons_succ, List.getElem_cons_zero, List.setIfInBounds_toArray, List.set_cons_zero, List.set_cons_succ])
  refine wpAnyH_take (i := 7) (v := ?_) rfl (by kernel_rfl) (by kernel_rfl) (by kernel_rfl) (fun _ _ _ h => h) (Or.inl ⟨by rfl, ?_⟩) (by assumption) ?_; rotate_left; (focus (intro wS hSw; (try dsimp only at hSw); go_simp <;> with_reducible rfl)); (try simp only [Act.put, List.getElem_toArray, List.getElem_cons_succ, List.getElem_cons_zero, List.setIfInBounds_toArray, List.set_cons_zero, List.set_cons_succ])
  refine wpAnyH_done (by kernel_rfl) ?_ _
  (try simp only [Act.put, List.getElem_toArray, List.getElem_cons_succ, List.getElem_cons_zero, List.setIfInBounds_toArray, List.set_cons_zero, List.set_cons_succ])
  go_wp2
  go_ret
  exact ⟨ret_i64 (by rw [HI.out]), grownN_trans HG.out HX4.out⟩
end Go.Proofs.Ytfcjbkagofccdaa.Fia
