/- Contracts of the model's WorstDays and of the program's AddDay. -/
import Derived.Test.YtbpiojnehomljaaStW
namespace Go.Proofs.Ytbpiojnehomljaa.StI
open Go.RowKit Kit Rw Rg Stm Md StormS

def slen : Value → Nat
  | .slice _ n _ => n
  | _ => 0
set_option maxRecDepth 20000 in
set_option maxHeartbeats 1000000 in
theorem sWorst_any (w : World) (m n k : Int) (hm : (Lit.int .i64 m).wf = true) (hn : (Lit.int .i64 n).wf = true) (v : Value) (L : List Bool) (hv : SeesG encB w v L) :
    Calls Try.prog 58 #[.agg #[.int .i64 m, .int .i64 n], v, .int .i64 k] w fun e w' => e = .returned (.int .i64 (worstOf m n L k)) ∧ w.grownBy w' none := by
  have hl := hv.len
  have hgr := World.grownBy_alloc w (.cells #[.int .i64 m, .int .i64 n] 49 (0, 0)) none
  have HV := Lib.hid hv
  have HG := Lib.hid hgr
  have HB := Lib.hid (box_new w #[.int .i64 m, .int .i64 n] 49)
  obtain ⟨c0, c1⟩ := two HB.out
  clear hgr
  have hs := fun w => sIsRule_any w m n hm hn
  obtain ⟨a, cap, rfl, _⟩ := hv
  cases h : isRule m n
  · rw [h] at hs
    have HS := Lib.hid hs
    have HF : Hid (worstOf m n L k = -1) := by show _ = _; unfold worstOf; rw [if_neg (by rw [h]; simp)]
    clear hs h hm hn
    go_enter Try.func58, Try.ntmps58
    go_wp2_with fail
    refine (HS.out _).mono ?_
    rintro e w2 ⟨rfl, hg⟩
    have HG2 := Lib.hid (grownN_trans HG.out hg)
    clear hg
    go_wp2
    go_ret
    exact ⟨ret_i64 HF.out.symm, HG2.out⟩
  · rw [h] at hs
    obtain ⟨M, N, rfl, rfl, hMN, hN⟩ := rule_nat h
    have HS := Lib.hid hs
    have hr := fun w => l1In_any k 0 200 w
    by_cases hk : 0 ≤ k ∧ k ≤ 200
    · have hd := decide_eq_true hk
      rw [hd] at hr
      have HR := Lib.hid hr
      by_cases h400 : L.length ≤ 400
      · obtain ⟨K, rfl⟩ : ∃ c : Nat, k = c := ⟨k.toNat, by omega⟩
        have HF : Hid (worstOf (M : Int) (N : Int) L (K : Int) = (worst M N L K : Int)) := by
          show _ = _
          unfold worstOf
          rw [if_pos ⟨h, hk.1, hk.2, h400⟩]
          simp
        have ha := fun w v L hv => sMayStorm_any w (M : Int) (N : Int) hm hn v L hv
        have HA := Lib.hid ha
        have HMS : Hid (∀ L, mayStorm (M : Int) (N : Int) L = may M N L) := fun L => mayStorm_may h
        obtain ⟨i0, hi, hz0, hz1, hz2⟩ := info_parts StI.info_bool
        clear hs h ha hm hn hr hd
        go_enter Try.func58, Try.ntmps58
        go_wp2_with fail
        refine (HS.out _).mono ?_
        rintro e w2 ⟨rfl, hg⟩
        have HG2 := Lib.hid (grownN_trans HG.out hg)
        have HB2 := Lib.hid (HB.out.grown hg)
        clear hg c0 c1
        go_wp2_with fail
        refine (HR.out _).mono ?_
        rintro e w3 ⟨rfl, rfl⟩
        have hg0 := World.grownBy_alloc w2 (.cells #[] 4 (0, 0)) none
        have HG3 := Lib.hid (grownN_trans HG2.out hg0)
        have HB3 := Lib.hid (HB2.out.grown hg0)
        have HV3 := Lib.hid (HV.out.grown HG3.out)
        have HW : Hid (OwnG encB 4 (w2.alloc (.cells #[] 4 (0, 0))) w2.heap.size (.slice (some ⟨w2.heap.size, 0, none⟩) 0 0) []) := ownG_empty w2
        have hbl := HB2.out.lt
        have HBL := Lib.hid hbl
        have HG0 := Lib.hid hg0.size
        clear hg0 hbl
        go_wp2_with (at_builtin; refine wpListG_append_sees _ rfl _ _ 44 rfl w2.heap.size 4 i0 (.bool false) 1 Try.underlying44 hi hz0 hz1 hz2 rfl _ [] rfl HW.out _ L rfl HV3.out (by unfold maxLen; simp; omega) (by simp; omega) HG0.out ?_; intro v3 w4 hown3 hgrow3; rw [List.nil_append] at hown3; have HO3 := Lib.hid hown3; have HG4 := Lib.hid (grown_new HG3.out hgrow3 (fun c hc => by have h1 := (HW.out.lt c hc).1; have h2 := HBL.out; omega)); have HB4 := Lib.hid (HB3.out.kept hgrow3 (HW.out.off HBL.out)); have HZ4 := Lib.hid (Nat.le_trans HG0.out hgrow3.size); clear hown3 hgrow3)
        go_loopw [2, 7] (fun k u wr => ∃ (c : Nat) (S : List Bool), c ≤ K ∧ k = .int .i64 c ∧ S.length ≤ 4010 ∧ Hid (S.length + worst M N (L ++ S) c = worst M N L K) ∧ Hid (OwnG encB 4 wr w2.heap.size u (L ++ S)) ∧ Hid (Box wr w.heap.size #[.int .i64 (M : Int), .int .i64 (N : Int)] 49) ∧ Hid (w.grownBy wr none) ∧ Hid (w2.heap.size ≤ wr.heap.size)) (fun _ u _ => 5000 - slen u)
        case atStart => exact ⟨K, [], Nat.le_refl _, rfl, by simp, by show _ = _; simp, by rw [List.append_nil]; exact HO3, HB4, HG4, HZ4⟩
        case round =>
          rename_i wr
          obtain ⟨c, S, hc, rfl, hS, HE, HO, HBj, HGj, HZj⟩ := hrel
          have hc0 : c ≤ 200 := by omega
          obtain ⟨ua, un, uc, hu, HUN⟩ := HO.out.sees.shape
          subst hu
          have hun : un ≤ 4410 := by have := HUN.out; simp at this; omega
          obtain ⟨d0, d1⟩ := two HBj.out
          by_cases hlt : 0 < c
          · have HLS : Hid ((L ++ S).length ≤ 1000000000) := by show _ ≤ _; simp; omega
            have hm := HA.out wr _ _ HO.out.sees
            rw [HMS.out] at hm
            obtain ⟨s, hs⟩ : ∃ s, s = may M N (L ++ S) := ⟨_, rfl⟩
            have hw := worst_next (L := L ++ S) (k := c) hMN hN (by omega)
            rw [← hs] at hw hm
            have hi := worst_int (m := M) (n := N) (L := L) (k := K) (by omega)
            have he := HE.out
            have HE1 : Hid ((S ++ [s]).length + worst M N (L ++ (S ++ [s])) (if s = true then c else c - 1) = worst M N L K) := by show _ = _; rw [← List.append_assoc, List.length_append, List.length_singleton]; omega
            have hS1 : (S ++ [s]).length ≤ 4010 := by rw [List.length_append, List.length_singleton]; omega
            have HM := Lib.hid hm
            clear hm hw hi he hs
            go_wp2_with (first
              | (go_at_call 67; refine HM.out.mono ?_; rintro e w5 ⟨rfl, hg5⟩; have HO5 := Lib.hid (HO.out.grown hg5); have HB5 := Lib.hid (HBj.out.grown hg5); have HG5 := Lib.hid (grownN_trans HGj.out hg5); have HZ5 := Lib.hid (Nat.le_trans HZj.out hg5.size); clear hg5)
              | (at_builtin; go_loud (refine wpListG_append_one _ rfl _ _ 44 rfl w2.heap.size 4 i0 (.bool false) 1 Try.underlying44 hi hz0 hz1 hz2 rfl _ (L ++ S) rfl HO5.out s #[.bool s] rfl rfl trivial HLS.out (by decide) HZ5.out ?_); intro v6 w6 hown6 hgrow6 hnew6; rw [List.append_assoc] at hown6; have HO6 := Lib.hid hown6; have HG6 := Lib.hid (grown_new HG5.out hgrow6 (fun c hc => by have h1 := (HO5.out.lt c hc).1; have h2 := HBL.out; omega)); have HB6 := Lib.hid (HB5.out.kept hgrow6 (HO5.out.off HBL.out)); have HZ6 := Lib.hid (Nat.le_trans HZ5.out hgrow6.size); clear hown6 hgrow6 hnew6; cases s))
            all_goals
              obtain ⟨ua6, un6, uc6, hu6, HUN6⟩ := HO6.out.sees.shape
              subst hu6
              go_roundw
              case rel => exact ⟨_, _, by (first | exact hc | exact Nat.le_trans (Nat.sub_le _ _) hc), by go_num, hS1, HE1, HO6, HB6, HG6, HZ6⟩
              case measure => (have h6 := HUN6.out; have h5 := HUN.out; simp at h5 h6; simp [slen]; omega)
          · have : c = 0 := by omega
            subst this
            have he := HE.out
            rw [worst_zero, Nat.add_zero] at he
            have HX := Lib.hid he
            clear he
            go_wp2
            go_ret
            exact ⟨ret_i64 (by rw [HF.out, ← HX.out]; have h5 := HUN.out; simp at h5; omega), HGj.out⟩
      · have HF : Hid (worstOf (M : Int) (N : Int) L k = -1) := by show _ = _; unfold worstOf; rw [if_neg (by omega)]
        clear hs h hm hn hr hd
        go_enter Try.func58, Try.ntmps58
        go_wp2_with fail
        refine (HS.out _).mono ?_
        rintro e w2 ⟨rfl, hg⟩
        have HG2 := Lib.hid (grownN_trans HG.out hg)
        clear hg
        go_wp2_with fail
        refine (HR.out _).mono ?_
        rintro e w3 ⟨rfl, rfl⟩
        go_wp2
        go_ret
        exact ⟨ret_i64 HF.out.symm, HG2.out⟩
    · have hd := decide_eq_false hk
      rw [hd] at hr
      have HR := Lib.hid hr
      have HF : Hid (worstOf (M : Int) (N : Int) L k = -1) := by show _ = _; unfold worstOf; rw [if_neg (by omega)]
      clear hs h hm hn hr hd hk
      go_enter Try.func58, Try.ntmps58
      go_wp2_with fail
      refine (HS.out _).mono ?_
      rintro e w2 ⟨rfl, hg⟩
      have HG2 := Lib.hid (grownN_trans HG.out hg)
      clear hg
      go_wp2_with fail
      refine (HR.out _).mono ?_
      rintro e w3 ⟨rfl, rfl⟩
      go_wp2
      go_ret
      exact ⟨ret_i64 HF.out.symm, HG2.out⟩
end Go.Proofs.Ytbpiojnehomljaa.StI
