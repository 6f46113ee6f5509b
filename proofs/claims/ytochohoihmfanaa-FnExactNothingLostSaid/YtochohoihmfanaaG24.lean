/- Contracts of PickUp of the program and of its model. Contracts of the food in all, of the program and of its model. -/
import Derived.Test.YtochohoihmfanaaG23
import Derived.Test.YtochohoihmfanaaG20
namespace Go.Proofs.Ytochohoihmfanaa.Ph
open Go.RowKit Kit Rw Rg Crw Four PartyL Pc Pa Pd Pe Mn

def pickK (L : List Mem) (f m : Int) : Int := most 0 (least m (roomOf L f))
def pickF (L : List Mem) (f m : Int) : Int := f + pickK L f m
theorem pick_fits (L : List Mem) {f : Int} (hf : -9223372036854775808 ≤ f ∧ f ≤ 9223372036854775807) (m : Int) : -9223372036854775808 ≤ f + pickK L f m ∧ f + pickK L f m ≤ 9223372036854775807 := by
  have hc := capOf_bound L
  have hr : 0 ≤ roomOf L f ∧ (roomOf L f = 0 ∨ f + roomOf L f = capOf L) := by
    unfold roomOf
    by_cases h : f < 0 ∨ capOf L ≤ f
    · rw [if_pos h]; omega
    · rw [if_neg h]; omega
  have hk : 0 ≤ pickK L f m ∧ pickK L f m ≤ roomOf L f := by
    unfold pickK
    generalize roomOf L f = r at *
    have hl : least m r ≤ r := by unfold least; by_cases h : r < m <;> simp [h] <;> omega
    unfold most
    by_cases h : 0 < least m r
    · rw [if_pos h]; omega
    · rw [if_neg h]; omega
  omega
theorem sMin2 (a b : Int) (w : World) : Calls Try.prog 67 #[.int .i64 a, .int .i64 b] w fun e w' => e = .returned (.int .i64 (least a b)) ∧ w.grownBy w' none := by
  by_cases h : b < a
  · have HR : Hid (least a b = b) := if_pos h
    go_enter Try.func67, Try.ntmps67
    go_wp2
    go_ret
    exact ⟨ret_i64 HR.out.symm, World.grownBy.refl _ _⟩
  · have HR : Hid (least a b = a) := if_neg h
    go_enter Try.func67, Try.ntmps67
    go_wp2
    go_ret
    exact ⟨ret_i64 HR.out.symm, World.grownBy.refl _ _⟩
theorem sMax2 (a b : Int) (w : World) : Calls Try.prog 120 #[.int .i64 a, .int .i64 b] w fun e w' => e = .returned (.int .i64 (most a b)) ∧ w.grownBy w' none := by
  by_cases h : a < b
  · have HR : Hid (most a b = b) := if_pos h
    go_enter Try.func120, Try.ntmps120
    go_wp2
    go_ret
    exact ⟨ret_i64 HR.out.symm, World.grownBy.refl _ _⟩
  · have HR : Hid (most a b = a) := if_neg h
    go_enter Try.func120, Try.ntmps120
    go_wp2
    go_ret
    exact ⟨ret_i64 HR.out.symm, World.grownBy.refl _ _⟩

end Go.Proofs.Ytochohoihmfanaa.Ph

namespace Go.Proofs.Ytochohoihmfanaa.Fia
open Go.RowKit Kit Rw Rg Crw Four PartyL Dep DepI Mn

theorem cl_most (f : Int) : most 0 (least 10000 f) = cl f := by
  unfold most least cl
  by_cases h1 : f < 10000
  · rw [if_pos h1]; by_cases h2 : 0 < f
    · rw [if_pos h2, if_neg (by omega), if_neg (by omega)]
    · rw [if_neg h2]; by_cases h3 : f < 0
      · rw [if_pos h3]
      · rw [if_neg h3, if_neg (by omega)]; omega
  · rw [if_neg h1, if_pos (by omega), if_neg (by omega)]; by_cases h2 : 10000 < f
    · rw [if_pos h2]
    · rw [if_neg h2]; omega
def allF (D : List (Int × Int)) (f : Int) : Int := tot D D.length + cl f

set_option maxRecDepth 20000 in
set_option maxHeartbeats 1000000 in
theorem iAll_any (w : World) (n f : Int) (cv pv dv : Value) (D : List (Int × Int)) (hd : SeesG encP w dv D) (hn : D.length ≤ 1000000000) :
    Calls Try.prog 113 #[dv, .agg #[.int .i64 n, .int .i64 f, cv, pv]] w fun e w' => e = .returned (.int .i64 (allF D f)) ∧ w.grownBy w' none := by
  have g0 := World.grownBy_alloc w (.cells #[.int .i64 n, .int .i64 f, cv, pv] 64 (0, 0)) (none : Option Nat)
  have HG := Lib.hid g0
  have HB := Lib.hid (box_new w #[.int .i64 n, .int .i64 f, cv, pv] 64)
  have HD := Lib.hid (hd.grown g0)
  have hb1 := tot_b (L := D) D.length (Nat.le_refl _)
  have hb2 := cl_b f
  obtain ⟨T, hT⟩ : ∃ T, T = tot D D.length := ⟨_, rfl⟩
  obtain ⟨F, hF⟩ : ∃ F, F = cl f := ⟨_, rfl⟩
  rw [← hT] at hb1
  rw [← hF] at hb2
  have HI : Hid (allF D f = T + F) := by show _ = _; unfold allF; rw [hT, hF]
  have HT := Lib.hid hT
  have HF := Lib.hid hF
  have hw : IntKind.i64.wrap (T + F) = T + F := IntWalk.i64_in _ (by omega)
  clear g0 hd hT hF
  go_enter Try.func113, Try.ntmps113
  go_wp2_with fail
  generalize w.alloc (.cells #[.int .i64 n, .int .i64 f, cv, pv] 64 (0, 0)) = W at *
  generalize w.heap.size = B at *
  have HX := Lib.hid (grown_drew (World.grownBy.refl W none))
  refine wp_region_held_drew (S := fun w' => w'.cell? ⟨B, 1, none⟩ = some (.int .i64 f)) (by kernel_rfl) ((HB.out.grown HX.out).cell 1) (fun hHeld => ?_)
  refine wpAnyH_take (i := 0) (v := ?_) rfl (by kernel_rfl) (by kernel_rfl) (by kernel_rfl) (fun _ _ _ h => h) (Or.inl ⟨by rfl, ?_⟩) (by assumption) ?_; rotate_left; (focus (intro wS hSw; (try dsimp only at hSw); go_simp <;> with_reducible rfl)); (try simp only [Act.put, List.getElem_toArray, List.getElem_cons_succ, List.getElem_cons_zero, List.setIfInBounds_toArray, List.set_cons_zero, List.set_cons_succ])
  refine wpAnyH_take (i := 2) (v := ?_) rfl (by kernel_rfl) (by kernel_rfl) (by kernel_rfl) (fun _ _ _ h => h) (Or.inl ⟨by rfl, ?_⟩) (by assumption) ?_; rotate_left; (focus (intro wS hSw; (try dsimp only at hSw); go_simp <;> with_reducible rfl)); (try simp only [Act.put, List.getElem_toArray, List.getElem_cons_succ, List.getElem_cons_zero, List.setIfInBounds_toArray, List.set_cons_zero, List.set_cons_succ])
  refine wpAnyH_take (i := 3) (v := ?_) rfl (by kernel_rfl) (by kernel_rfl) (by kernel_rfl) (fun _ _ _ h => h) (Or.inl ⟨by rfl, ?_⟩) (by assumption) ?_; rotate_left; (focus (intro wS hSw; (try dsimp only at hSw); go_simp <;> with_reducible rfl)); (try simp only [Act.put, List.getElem_toArray, List.getElem_cons_succ, List.getElem_cons_zero, List.setIfInBounds_toArray, List.set_cons_zero, List.set_cons_succ])
  refine wpAnyH_ready (rs := [1]) (by kernel_rfl) (by simp) ?_; refine AllReadyH.cons rfl (fun K hK => ?_) AllReadyH.nil; go_simp; (go_at_call 139; refine (iTotal_any _ dv D (HD.out.grown HX.out) hn).mono ?_; rintro e w2 ⟨rfl, hg⟩; rw [← HT.out]; have HX2 := Lib.hid (grownN_trans HX.out hg); clear hg)
  refine hK.out _ _ ?_ (fun hHeld => ?_)
  · exact (HB.out.grown HX2.out).cell 1
  clear hK K
  (try simp only [Act.put, List.getElem_toArray, List.getElem_cons_succ, List.getElem_cons_zero, List.setIfInBounds_toArray, List.set_cons_zero, List.set_cons_succ])
  refine wpAnyH_ready (rs := [4]) (by kernel_rfl) (by simp) ?_; refine AllReadyH.cons rfl (fun K hK => ?_) AllReadyH.nil; go_simp; (go_at_call 140; refine (counted_any f _).mono ?_; rintro e w3 ⟨rfl, hg⟩; rw [← HF.out]; have HX3 := Lib.hid (grownN_trans HX2.out hg); clear hg)
  refine hK.out _ _ ?_ (fun hHeld => ?_)
  · exact (HB.out.grown HX3.out).cell 1
  clear hK K
  (try simp only [Act.put, List.getElem_toArray, List.getElem_cons_succ, List.getElem_cons_zero, List.setIfInBounds_toArray, List.set_cons_zero, List.set_cons_succ])
  refine wpAnyH_take (i := 5) (v := ?_) rfl (by kernel_rfl) (by kernel_rfl) (by kernel_rfl) (fun _ _ _ h => h) (Or.inl ⟨by rfl, ?_⟩) (by assumption) ?_; rotate_left; (focus (intro wS hSw; (try dsimp only at hSw); go_simp <;> with_reducible rfl)); (try simp only [Act.put, List.getElem_toArray, List.getElem_cons_succ, List.getElem_cons_zero, List.setIfInBounds_toArray, List.set_cons_zero, List.set_cons_succ])
  refine wpAnyH_take (i := 6) (v := ?_) rfl (by kernel_rfl) (by kernel_rfl) (by kernel_rfl) (fun _ _ _ h => h) (Or.inl ⟨by rfl, ?_⟩) (by assumption) ?_; rotate_left; (focus (intro wS hSw; (try dsimp only at hSw); go_simp <;> with_reducible rfl)); (try simp only [Act.put, List.getElem_toArray, List.getElem_cons_succ, List.getElem_cons_zero, List.setIfInBounds_toArray, List.set_cons_zero, List.set_cons_succ])
  refine wpAnyH_done (by kernel_rfl) ?_ _
  (try simp only [Act.put, List.getElem_toArray, List.getElem_cons_succ, List.getElem_cons_zero, List.setIfInBounds_toArray, List.set_cons_zero, List.set_cons_succ])
  go_wp2
  go_ret
  exact ⟨ret_i64 (by rw [HI.out]), grownN_trans HG.out HX3.out⟩

end Go.Proofs.Ytochohoihmfanaa.Fia
