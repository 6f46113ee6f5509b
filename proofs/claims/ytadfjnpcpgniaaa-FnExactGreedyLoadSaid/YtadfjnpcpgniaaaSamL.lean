/- Contracts of sums and greedy loads of samples, of the program and of its model. -/
import Derived.Test.YtadfjnpcpgniaaaSamS
import Derived.Test.YtadfjnpcpgniaaaSamI
import Derived.Test.YtadfjnpcpgniaaaMBase
namespace Go.Proofs.Ytadfjnpcpgniaaa.SamL
open Go.RowKit Kit Rw Rg Sam Md

theorem sWeightOf_any (w : World) (v u : Value) (L : List I3) (ids : List Int) (hv : SeesG enc3 w v L) (hu : Sees .i64 w u ids) :
    Calls Try.prog 16 #[v, u] w fun e w' => e = .returned (.int .i64 (pickTo (·.x1) L ids L.length)) ∧ w.grownBy w' none :=
  (SamS.sWeightOf_any w v u L ids hv hu).mono fun _ _ h => ⟨h.1, by rw [h.2]; exact World.grownBy.refl _ _⟩
theorem sWorthOf_any (w : World) (v u : Value) (L : List I3) (ids : List Int) (hv : SeesG enc3 w v L) (hu : Sees .i64 w u ids) :
    Calls Try.prog 20 #[v, u] w fun e w' => e = .returned (.int .i64 (pickTo (·.x2) L ids L.length)) ∧ w.grownBy w' none :=
  (SamS.sWorthOf_any w v u L ids hv hu).mono fun _ _ h => ⟨h.1, by rw [h.2]; exact World.grownBy.refl _ _⟩
theorem info_int : (Try.prog.info? 3).map (fun i => (i.zero, i.size, i.bytes)) = some (some (.int .i64 0), 1, 8) := by kernel_rfl

set_option maxRecDepth 20000 in
set_option maxHeartbeats 1000000 in
theorem iCan_any (w : World) (v : Value) (L : List I3) (most : Int) (hv : SeesG enc3 w v L) :
    Calls Try.prog 47 #[v, .int .i64 most] w fun e w' => e = .returned (.bool (canLoad L most)) ∧ w.grownBy w' none := by
  have HA := Lib.hid (SamI.iAreSamples_any w v L hv)
  go_enter Try.func47, Try.ntmps47
  go_wp2_with fail
  refine HA.out.mono ?_
  rintro e w2 ⟨rfl, hg⟩
  have HG := Lib.hid hg
  clear hg
  cases hc : areSam L
  · have HR : Hid (canLoad L most = false) := by show _ = _; unfold canLoad; rw [hc]; rfl
    clear hc
    go_wp2
    go_ret
    exact ⟨ret_bool HR.out.symm, HG.out⟩
  · have HR : Hid (canLoad L most = SamI.inb most 0 1000) := by show _ = _; unfold canLoad; rw [hc]; rfl
    clear hc
    go_wp2_with (go_at_call 58; refine (SamI.inR_b _ _ _ _).mono ?_; rintro e w6 ⟨rfl, rfl⟩)
    go_ret
    exact ⟨ret_bool HR.out.symm, HG.out⟩

set_option maxRecDepth 20000 in
set_option maxHeartbeats 1000000 in
theorem iGreedy_any (w : World) (v : Value) (L : List I3) (most : Int) (hv : SeesG enc3 w v L) (hn : L.length ≤ 1000000000) :
    Calls Try.prog 23 #[v, .int .i64 most] w fun e w' => ∃ u, e = .returned u ∧ Own .i64 3 w' w.heap.size u (greedyOf L most) ∧ w.grownBy w' none := by
  have hl := hv.len
  obtain ⟨i0, hi, hz0, hz1, hz2⟩ := info_parts info_int
  have hgb := World.grownBy_alloc w (.cells #[] 3 (0, 0)) (none : Option Nat)
  have HC := Lib.hid (iCan_any _ v L most (hv.grown hgb))
  have HV := Lib.hid hv
  have HOK := Lib.hid hv.ok
  have HW : Hid (Own .i64 3 (w.alloc (.cells #[] 3 (0, 0))) w.heap.size (.slice (some ⟨w.heap.size, 0, none⟩) 0 0) []) := own_empty w
  have HG := Lib.hid hgb
  obtain ⟨a, cap, rfl, _⟩ := hv
  clear hgb
  go_enter Try.func23, Try.ntmps23
  go_wp2_with fail
  refine HC.out.mono ?_
  rintro e w2 ⟨rfl, hg⟩
  have HG2 := Lib.hid (grownN_trans HG.out hg)
  have HW2 := Lib.hid (HW.out.grown hg)
  clear hg HW
  cases hc : canLoad L most
  · have HR : Hid (greedyOf L most = []) := by show _ = _; unfold greedyOf; rw [hc]; rfl
    clear hc
    go_wp2
    go_ret
    exact ⟨_, rfl, by rw [HR.out]; exact HW2.out, HG2.out⟩
  · have HR : Hid (greedyOf L most = (greedy L most L.length).1) := by show _ = _; unfold greedyOf; rw [if_pos hc]
    obtain ⟨hsa, hm0, hm1⟩ := canLoad_of hc
    have HSA := Lib.hid hsa
    have HCA := Lib.hid hc
    clear hc hsa
    go_wp2
    go_loopw [5, 6, 18] (fun u s i wr => ∃ j : Nat, j ≤ L.length ∧ i = .int .i64 j ∧ s = .int .i64 (most - (greedy L most j).2) ∧ Hid (Own .i64 3 wr w.heap.size u (greedy L most j).1) ∧ Hid (w.grownBy wr none)) (fun _ _ i _ => L.length - (intOf i).toNat)
    case atStart => exact ⟨0, Nat.zero_le _, rfl, by simp [greedy], HW2, HG2⟩
    case round =>
      rename_i u _ _ wr
      obtain ⟨j, hj, rfl, rfl, HO, HG3⟩ := hrel
      have hbd := greedy_bd HCA.out j hj
      have hgl := greedy_len L most j
      obtain ⟨G, hG⟩ : ∃ G, G = (greedy L most j).1 := ⟨_, rfl⟩
      obtain ⟨s, hs⟩ : ∃ s, s = (greedy L most j).2 := ⟨_, rfl⟩
      rw [← hG] at HO hgl
      rw [← hs] at hbd ⊢
      have HGG := Lib.hid hG
      have HSS := Lib.hid hs
      clear hG hs
      by_cases hlt : j < L.length
      · obtain ⟨b, o, rfl, _, _⟩ := HV.out.at_row hlt
        have hat := sam_at HSA.out hlt
        obtain ⟨x, hx⟩ : ∃ x, L.getD j zI3 = x := ⟨_, rfl⟩
        obtain ⟨d0, d1, d2⟩ := at3_in HV.out HG3.out hlt hx
        rw [hx] at hat
        have HX := Lib.hid hx
        clear hx
        obtain ⟨xi, xs, xn⟩ := x
        dsimp only at d0 d1 d2 hat
        have hga := World.grownBy_alloc wr (.cells #[.int .i64 xi, .int .i64 xs, .int .i64 xn] 44 (0, 0)) none
        have HG4 := Lib.hid (grownN_trans HG3.out hga)
        have HO4 := Lib.hid (HO.out.grown hga)
        have HB := Lib.hid (box_new wr #[.int .i64 xi, .int .i64 xs, .int .i64 xn] 44)
        clear hga
        by_cases hle : xs ≤ most - s
        · have HN : Hid (greedy L most (j + 1) = (G ++ [xi], s + xs)) := by
            show _ = _
            simp only [greedy]
            rw [HX.out, ← HGG.out, ← HSS.out]
            dsimp only
            rw [if_pos (by omega)]
          go_wp2_with (at_builtin; go_loud (refine wpList_append_one _ rfl _ _ 29 rfl w.heap.size 3 i0 (.int .i64 0) 8 Try.underlying29 hi hz0 hz1 hz2 rfl .i64 _ G rfl HO4.out xi (by rw [World.size_alloc]; rfl) (i64_mk (by omega)) (by omega) (by decide) HG4.out.size ?_); intro v4 w4 hown4 hgrow4; have HO5 := Lib.hid hown4; have HG5 := Lib.hid (grown_new HG4.out hgrow4 (fun c hc => (HO4.out.lt c hc).1)); obtain ⟨q0, q1, q2⟩ := (HB.out.kept hgrow4 (HO.out.off' (Nat.le_refl _))).three; clear hown4 hgrow4)
          go_roundw
          case rel => exact ⟨j + 1, by omega, by go_num, by rw [HN.out]; go_num, by rw [HN.out]; exact HO5, HG5⟩
          case measure => simp [intOf]; omega
        · have HN : Hid (greedy L most (j + 1) = greedy L most j) := by
            show _ = _
            simp only [greedy]
            rw [HX.out, ← HSS.out]
            dsimp only
            rw [if_neg (by omega)]
          go_wp2
          go_roundw
          case rel => exact ⟨j + 1, by omega, by go_num, by rw [HN.out, ← HSS.out], by rw [HN.out, ← HGG.out]; exact HO4, HG4⟩
          case measure => simp [intOf]; omega
      · have : j = L.length := by omega
        subst this
        go_wp2
        go_ret
        exact ⟨_, rfl, by rw [HR.out, ← HGG.out]; exact HO.out, HG3.out⟩

set_option maxRecDepth 20000 in
set_option maxHeartbeats 1000000 in
theorem sGreedy_any (w : World) (v : Value) (L : List I3) (most : Int) (hv : SeesG enc3 w v L) (hn : L.length ≤ 1000000000) :
    Calls Try.prog 22 #[v, .int .i64 most] w fun e w' => ∃ u, e = .returned u ∧ Own .i64 3 w' w.heap.size u (greedyOf L most) ∧ w.grownBy w' none := by
  have hl := hv.len
  obtain ⟨i0, hi, hz0, hz1, hz2⟩ := info_parts info_int
  have hgb := World.grownBy_alloc w (.cells #[] 3 (0, 0)) (none : Option Nat)
  have HV := Lib.hid hv
  have HA := Lib.hid (fun (w' : World) (hg : w.grownBy w' none) => SamS.sAreSamples_any w' v L (hv.grown hg))
  have HW : Hid (Own .i64 3 (w.alloc (.cells #[] 3 (0, 0))) w.heap.size (.slice (some ⟨w.heap.size, 0, none⟩) 0 0) []) := own_empty w
  have HG := Lib.hid hgb
  obtain ⟨a, cap, rfl, _⟩ := hv
  clear hgb
  by_cases hc : canLoad L most = true
  · have HR : Hid (greedyOf L most = (greedy L most L.length).1) := by show _ = _; unfold greedyOf; rw [if_pos hc]
    obtain ⟨hsa, hm0, hm1⟩ := canLoad_of hc
    have hb : SamS.inb most 0 1000 = true := decide_eq_true ⟨hm0, hm1⟩
    have HSA := Lib.hid hsa
    have HCA := Lib.hid hc
    rw [hsa] at HA
    clear hc hsa
    go_enter Try.func22, Try.ntmps22
    go_wp2
    go_loopw [5, 6, 7] (fun u s i wr => ∃ j : Nat, j ≤ L.length ∧ i = .int .i64 j ∧ s = .int .i64 (greedy L most j).2 ∧ Hid (Own .i64 3 wr w.heap.size u (greedy L most j).1) ∧ Hid (w.grownBy wr none)) (fun _ _ i _ => L.length - (intOf i).toNat)
    case atStart => exact ⟨0, Nat.zero_le _, rfl, rfl, HW, HG⟩
    case round =>
      rename_i u _ _ wr
      obtain ⟨j, hj, rfl, rfl, HO, HG3⟩ := hrel
      have hbd := greedy_bd HCA.out j hj
      have hgl := greedy_len L most j
      obtain ⟨G, hG⟩ : ∃ G, G = (greedy L most j).1 := ⟨_, rfl⟩
      obtain ⟨s, hs⟩ : ∃ s, s = (greedy L most j).2 := ⟨_, rfl⟩
      rw [← hG] at HO hgl
      rw [← hs] at hbd ⊢
      have HGG := Lib.hid hG
      have HSS := Lib.hid hs
      clear hG hs
      by_cases hlt : j < L.length
      · have HAW := Lib.hid (HA.out wr HG3.out)
        obtain ⟨b, o, rfl, _, _⟩ := HV.out.at_row hlt
        have hat := sam_at HSA.out hlt
        obtain ⟨x, hx⟩ : ∃ x, L.getD j zI3 = x := ⟨_, rfl⟩
        have HD := Lib.hid (fun w' (hg : w.grownBy w' none) => at3_in HV.out hg hlt hx)
        rw [hx] at hat
        have HX := Lib.hid hx
        clear hx
        obtain ⟨xi, xs, xn⟩ := x
        dsimp only at HD hat
        by_cases hle : s + xs ≤ most
        · have HN : Hid (greedy L most (j + 1) = (G ++ [xi], s + xs)) := by
            show _ = _
            simp only [greedy]
            rw [HX.out, ← HGG.out, ← HSS.out]
            dsimp only
            rw [if_pos (by omega)]
          go_wp2_with (first | (go_at_call 12; refine HAW.out.mono ?_; rintro e w3 ⟨rfl, hg⟩; have HG4 := Lib.hid (grownN_trans HG3.out hg); have HO4 := Lib.hid (HO.out.grown hg); obtain ⟨d0, d1, d2⟩ := HD.out _ HG4.out; clear hg) | (go_at_call 39; refine (SamS.l1In_c _ _ _ _).mono ?_; rintro e w6 ⟨rfl, rfl⟩; try rw [hb]) | (at_builtin; go_loud (refine wpList_append_one _ rfl _ _ 29 rfl w.heap.size 3 i0 (.int .i64 0) 8 Try.underlying29 hi hz0 hz1 hz2 rfl .i64 _ G rfl HO4.out xi rfl (i64_mk (by omega)) (by omega) (by decide) HG4.out.size ?_); intro v4 w4 hown4 hgrow4; have HO5 := Lib.hid hown4; have HG5 := Lib.hid (grown_new HG4.out hgrow4 (fun c hc => (HO4.out.lt c hc).1)); obtain ⟨q0, q1, q2⟩ := HD.out _ HG5.out; clear hown4 hgrow4))
          go_roundw
          case rel => exact ⟨j + 1, by omega, by go_num, by rw [HN.out], by rw [HN.out]; exact HO5, HG5⟩
          case measure => simp [intOf]; omega
        · have HN : Hid (greedy L most (j + 1) = greedy L most j) := by
            show _ = _
            simp only [greedy]
            rw [HX.out, ← HSS.out]
            dsimp only
            rw [if_neg (by omega)]
          go_wp2_with (first | (go_at_call 12; refine HAW.out.mono ?_; rintro e w3 ⟨rfl, hg⟩; have HG4 := Lib.hid (grownN_trans HG3.out hg); have HO4 := Lib.hid (HO.out.grown hg); obtain ⟨d0, d1, d2⟩ := HD.out _ HG4.out; clear hg) | (go_at_call 39; refine (SamS.l1In_c _ _ _ _).mono ?_; rintro e w6 ⟨rfl, rfl⟩; try rw [hb]))
          go_roundw
          case rel => exact ⟨j + 1, by omega, by go_num, by rw [HN.out, ← HSS.out], by rw [HN.out, ← HGG.out]; exact HO4, HG4⟩
          case measure => simp [intOf]; omega
      · have : j = L.length := by omega
        subst this
        go_wp2
        go_ret
        exact ⟨_, rfl, by rw [HR.out, ← HGG.out]; exact HO.out, HG3.out⟩
  · have HR : Hid (greedyOf L most = []) := by show _ = _; unfold greedyOf; rw [if_neg hc]
    have hcf : canLoad L most = false := by simpa using hc
    clear hc
    have HAW := Lib.hid (HA.out _ HG.out)
    by_cases h0 : L.length = 0
    · go_enter Try.func22, Try.ntmps22
      go_wp2
      refine wp_loop_rounds 1 ?_
      rw [rounds_succ]
      go_wp2
      go_ret
      exact ⟨_, rfl, by rw [HR.out]; exact HW.out, HG.out⟩
    · have hp : (0 : Int) < L.length := by omega
      cases hsa : areSam L
      · rw [hsa] at HAW
        clear hsa
        go_enter Try.func22, Try.ntmps22
        go_wp2
        refine wp_loop_rounds 1 ?_
        rw [rounds_succ]
        go_wp2_with (go_at_call 12; refine HAW.out.mono ?_; rintro e w3 ⟨rfl, hg⟩; have HG4 := Lib.hid (grownN_trans HG.out hg); have HO4 := Lib.hid (HW.out.grown hg); clear hg)
        go_ret
        exact ⟨_, rfl, by rw [HR.out]; exact HO4.out, HG4.out⟩
      · rw [hsa] at HAW
        have hb : SamS.inb most 0 1000 = false := by
          unfold canLoad at hcf; rw [hsa, Bool.true_and] at hcf; exact hcf
        clear hsa hcf
        go_enter Try.func22, Try.ntmps22
        go_wp2
        refine wp_loop_rounds 1 ?_
        rw [rounds_succ]
        go_wp2_with (first | (go_at_call 12; refine HAW.out.mono ?_; rintro e w3 ⟨rfl, hg⟩; have HG4 := Lib.hid (grownN_trans HG.out hg); have HO4 := Lib.hid (HW.out.grown hg); clear hg) | (go_at_call 39; refine (SamS.l1In_c _ _ _ _).mono ?_; rintro e w6 ⟨rfl, rfl⟩; try rw [hb]))
        go_ret
        exact ⟨_, rfl, by rw [HR.out]; exact HO4.out, HG4.out⟩
end Go.Proofs.Ytadfjnpcpgniaaa.SamL
