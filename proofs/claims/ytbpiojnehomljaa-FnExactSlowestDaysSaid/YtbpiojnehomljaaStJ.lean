/- Contracts of the program's functions of chapter 6 over its ring: a ring behind a past; Keeps, MayStorm. -/
import Derived.Test.YtbpiojnehomljaaStI
import Derived.Test.YtbpiojnehomljaaRowT
namespace Go.Proofs.Ytbpiojnehomljaa.StI
open Go.RowKit Kit Rw Rg Stm Md StormS

set_option maxRecDepth 20000 in
set_option maxHeartbeats 1000000 in
theorem after_any (w : World) (m : Int) (n : Nat) (v : Value) (L : List Bool) (hm : (Lit.int .i64 m).wf = true) (h1 : 1 ≤ n) (h10 : n ≤ 10) (hv : SeesG encB w v L) :
    Calls Try.prog 121 #[.agg #[.int .i64 m, .int .i64 (n : Nat)], v] w fun e w' => ∃ b, e = .returned (.pointer (some ⟨b, 0, none⟩)) ∧ Wx w' w.heap.size b m n L ∧ w.grownBy w' none := by
  have hl := hv.len
  have hgr := World.grownBy_alloc w (.cells #[.int .i64 m, .int .i64 (n : Nat)] 49 (0, 0)) none
  have HV := Lib.hid hv
  have HB := Lib.hid (box_new w #[.int .i64 m, .int .i64 (n : Nat)] 49)
  have hmb := i64_of hm
  have HM := Lib.hid hmb
  have HG0 := Lib.hid hgr
  have HK := Lib.hid (two HB.out)
  obtain ⟨a, cap, rfl, _⟩ := hv
  obtain ⟨i0, hi, hz0, hz1, hz2⟩ := info_parts info_bool
  clear hgr hm hmb
  go_enter Try.func121, Try.ntmps121
  go_wp2_with fail
  generalize w.alloc (.cells #[.int .i64 m, .int .i64 (n : Nat)] 49 (0, 0)) = W0 at *
  refine wp_region_held_drew (S := fun w' => w'.cell? ⟨w.heap.size, 0, none⟩ = some (.int .i64 m) ∧ w'.cell? ⟨w.heap.size, 1, none⟩ = some (.int .i64 (n : Nat))) (by kernel_rfl) HK.out (fun hHeld => ?_)
  refine wpAnyH_take (i := 0) (v := ?_) rfl (by kernel_rfl) (by kernel_rfl) (by kernel_rfl) (fun _ _ _ h => h) (Or.inl ⟨by rfl, ?_⟩) (by assumption) ?_; rotate_left; (focus (intro wS hSw; (try dsimp only at hSw); go_simp <;> with_reducible rfl)); (try simp only [Act.put, List.getElem_toArray, List.getElem_cons_succ, List.getElem_cons_zero, List.setIfInBounds_toArray, List.set_cons_zero, List.set_cons_succ])
  refine wpAnyH_take (i := 1) (v := ?_) rfl (by kernel_rfl) (by kernel_rfl) (by kernel_rfl) (fun _ _ _ h => h) (Or.inl ⟨by rfl, ?_⟩) (by assumption) ?_; rotate_left; (focus (intro wS hSw; (try dsimp only at hSw); go_simp <;> with_reducible rfl)); (try simp only [Act.put, List.getElem_toArray, List.getElem_cons_succ, List.getElem_cons_zero, List.setIfInBounds_toArray, List.set_cons_zero, List.set_cons_succ])
  refine wpAnyH_take (i := 2) (v := ?_) rfl (by kernel_rfl) (by kernel_rfl) (by kernel_rfl) (fun _ _ _ h => h) (Or.inl ⟨by rfl, ?_⟩) (by assumption) ?_; rotate_left; (focus (intro wS hSw; (try dsimp only at hSw); go_simp <;> with_reducible rfl)); (try simp only [Act.put, List.getElem_toArray, List.getElem_cons_succ, List.getElem_cons_zero, List.setIfInBounds_toArray, List.set_cons_zero, List.set_cons_succ])
  have HG1 := Lib.hid (grown_drew HG0.out)
  have HK1 := Lib.hid (two (HB.out.grown (grown_drew (World.grownBy.refl W0 none))))
  refine wpAnyH_ready (rs := [3]) (by kernel_rfl) (by simp) ?_
  refine AllReadyH.cons rfl (fun K hK => ?_) AllReadyH.nil
  refine step_makeG (e := encB) _ rfl _ _ 44 rfl w.heap.size 4 i0 (.bool false) 1 Try.underlying44 hi hz0 hz1 hz2 rfl trivial .i64 .i64 _ _ n rfl rfl rfl rfl (by omega) (by unfold maxLen; omega) HG1.out.size ?_
  intro w2 hown hgrow
  have HD := Lib.hid hown
  have HG2 := Lib.hid (grownN_trans HG1.out hgrow)
  have HK2 := Lib.hid (And.intro (hgrow.cell HK1.out.1 (by simp)) (hgrow.cell HK1.out.2 (by simp)))
  have HGQ := Lib.hid hgrow
  have hg9 : W0.drew.heap.size < w2.heap.size := (hown.lt _ rfl).2
  have hg8 : w.heap.size ≤ W0.drew.heap.size := HG1.out.size
  have HG9 := Lib.hid (And.intro hg8 hg9)
  clear hown hgrow hg8 hg9
  (try simp only [Act.put, List.getElem_toArray, List.getElem_cons_succ, List.getElem_cons_zero, List.setIfInBounds_toArray, List.set_cons_zero, List.set_cons_succ])
  refine hK.out _ _ ?_ (fun hHeld => ?_)
  · exact HK2.out
  clear hK K
  generalize W0.drew.heap.size = g at *
  refine wpAnyH_take (i := 4) (v := ?_) rfl (by kernel_rfl) (by kernel_rfl) (by kernel_rfl) (fun _ _ _ h => h) (Or.inl ⟨by rfl, ?_⟩) (by assumption) ?_; rotate_left; (focus (intro wS hSw; (try dsimp only at hSw); go_simp <;> with_reducible rfl)); (try simp only [Act.put, List.getElem_toArray, List.getElem_cons_succ, List.getElem_cons_zero, List.setIfInBounds_toArray, List.set_cons_zero, List.set_cons_succ])
  have hg3 := World.grownBy_alloc w2 (.cells #[.int .i64 m, .int .i64 (n : Nat), .slice (some ⟨g, 0, none⟩) n n, .int .i64 0] 162 (0, 0)) none
  have HB3 := Lib.hid (box_new w2 #[.int .i64 m, .int .i64 (n : Nat), .slice (some ⟨g, 0, none⟩) n n, .int .i64 0] 162)
  have HG3 := Lib.hid (grownN_trans HG2.out hg3)
  have HD3 := Lib.hid (HD.out.grown hg3)
  have HK3 := Lib.hid (And.intro (hg3.cell HK2.out.1 (by simp)) (hg3.cell HK2.out.2 (by simp)))
  clear hg3
  refine wpAnyH_ready (rs := [5]) (by kernel_rfl) (by simp) ?_
  refine AllReadyH.cons rfl (fun K hK => ?_) AllReadyH.nil
  go_simp
  refine hK.out _ _ ?_ (fun hHeld => ?_)
  · exact HK3.out
  clear hK K
  (try simp only [Act.put, List.getElem_toArray, List.getElem_cons_succ, List.getElem_cons_zero, List.setIfInBounds_toArray, List.set_cons_zero, List.set_cons_succ])
  refine wpAnyH_take (i := 6) (v := ?_) rfl (by kernel_rfl) (by kernel_rfl) (by kernel_rfl) (fun _ _ _ h => h) (Or.inl ⟨by rfl, ?_⟩) (by assumption) ?_; rotate_left; (focus (intro wS hSw; (try dsimp only at hSw); go_simp <;> with_reducible rfl)); (try simp only [Act.put, List.getElem_toArray, List.getElem_cons_succ, List.getElem_cons_zero, List.setIfInBounds_toArray, List.set_cons_zero, List.set_cons_succ])
  refine wpAnyH_done (by kernel_rfl) ?_ _
  (try simp only [Act.put, List.getElem_toArray, List.getElem_cons_succ, List.getElem_cons_zero, List.setIfInBounds_toArray, List.set_cons_zero, List.set_cons_succ])
  have hws : w.heap.size ≤ w2.heap.size := HG2.out.size
  have HW3 : Hid (Wx (w2.alloc (.cells #[.int .i64 m, .int .i64 (n : Nat), .slice (some ⟨g, 0, none⟩) n n, .int .i64 0] 162 (0, 0))) w.heap.size w2.heap.size m n (L.take 0)) :=
    ⟨List.replicate n encB.dflt, 0, g, n, HB3.out, HD3.out, by rw [List.take_zero]; exact Ring.start h1, by have := HG9.out.2; omega, hws, h10, i64_mk HM.out⟩
  clear HD HD3 HB3 HG2 HK HK1 HK2 HK3 HG0 HG1 HB
  generalize w2.alloc (.cells #[.int .i64 m, .int .i64 (n : Nat), .slice (some ⟨g, 0, none⟩) n n, .int .i64 0] 162 (0, 0)) = W3 at *
  obtain ⟨b, hb⟩ : ∃ b, b = w2.heap.size := ⟨_, rfl⟩
  rw [← hb] at HW3 ⊢
  clear hb
  go_wp2
  go_loopw [16] (fun i wr => ∃ j : Nat, j ≤ L.length ∧ i = .int .i64 j ∧ Hid (Wx wr w.heap.size b m n (L.take j)) ∧ Hid (w.grownBy wr none)) (fun i _ => L.length - (intOf i).toNat)
  case atStart => exact ⟨0, Nat.zero_le _, rfl, HW3, HG3⟩
  case round =>
    obtain ⟨j, hj, rfl, HWj, HGj⟩ := hrel
    by_cases hlt : j < L.length
    · obtain ⟨x, hx⟩ : ∃ x, x = L.getD j false := ⟨_, rfl⟩
      obtain ⟨ab, ao, rfl, hab, hc0⟩ := HV.out.at_rowB hlt
      have hcj : wr.cell? ⟨ab, ao + j, none⟩ = some (.bool (L.getD j false)) := HGj.out.cell hc0 (by simp)
      have hT : L.take (j + 1) = L.take j ++ [x] := by rw [List.take_add_one, hx]; congr 1; simp [hlt]
      rw [← hx] at hcj
      have HT := Lib.hid hT
      clear hx hc0 hab hT
      go_wp2_with (go_at_call 124; refine (pass_any _ w.heap.size b m n (L.take j) x HWj.out).mono ?_; rintro e w5 ⟨rfl, hw5, hb5⟩; have HW5 := Lib.hid hw5; have HB5 := Lib.hid hb5; clear hw5 hb5)
      go_roundw
      case rel => exact ⟨j + 1, by omega, by go_num, by rw [HT.out]; exact HW5, below_grown ((grown_below HGj.out _ (Nat.le_refl _)).trans HB5.out)⟩
      case measure => simp [intOf]; omega
    · have : j = L.length := by omega
      subst this
      go_wp2
      go_ret
      exact ⟨b, rfl, by have := HWj.out; rw [List.take_length] at this; exact this, HGj.out⟩
end Go.Proofs.Ytbpiojnehomljaa.StI
