/- Contracts of copyWithRoom, putUvarint, AppendUvarint, AppendBytes of the program and of AppendUvarint, AppendBytes of its model. -/
import Derived.Test.YtbpmbbmgmpdhnaaLawsB
import Derived.Test.YtbpmbbmgmpdhnaaVar
namespace Go.Proofs.Ytbpmbbmgmpdhnaa.Put
open Go.RowKit Kit Rw Var LawsB

theorem inRange_any (n l h : Int) (w : World) :
    Calls Try.prog 66 #[.int .i64 n, .int .i64 l, .int .i64 h] w fun e w' => e = .returned (.bool (decide (l ≤ n ∧ n ≤ h))) ∧ w = w' := by
  by_cases h1 : l ≤ n
  · go_enter Try.func66, Try.ntmps66
    go_wp2
    go_ret
    exact ⟨ret_bool (by rw [Bool.eq_iff_iff]; simp; omega), rfl⟩
  · go_enter Try.func66, Try.ntmps66
    go_wp2
    go_ret
    exact ⟨ret_bool (by rw [Bool.eq_iff_iff]; simp; omega), rfl⟩
theorem l1In_any (n l h : Int) (w : World) :
    Calls Try.prog 82 #[.int .i64 n, .int .i64 l, .int .i64 h] w fun e w' => e = .returned (.bool (decide (l ≤ n ∧ n ≤ h))) ∧ w = w' := by
  by_cases h1 : l ≤ n
  · go_enter Try.func82, Try.ntmps82
    go_wp2
    go_ret
    exact ⟨ret_bool (by rw [Bool.eq_iff_iff]; simp; omega), rfl⟩
  · go_enter Try.func82, Try.ntmps82
    go_wp2
    go_ret
    exact ⟨ret_bool (by rw [Bool.eq_iff_iff]; simp; omega), rfl⟩

set_option maxRecDepth 200000 in
set_option maxHeartbeats 400000 in
theorem copy_any (w : World) (v : Value) (X : List Int) (r : Int) (hv : Sees .u8 w v X) (h0 : 0 ≤ r) (hn : X.length + r ≤ 1000000000000) :
    Calls Try.prog 65 #[v, .int .i64 r] w fun e w' => ∃ u, e = .returned u ∧ Own .u8 5 w' w.heap.size u X ∧ w.grownBy w' none := by
  have HV := Lib.hid hv
  obtain ⟨a, cap, rfl, hlc, hcm, hnil, hwf, hcell⟩ := hv
  obtain ⟨r, rfl⟩ : ∃ c : Nat, r = c := ⟨r.toNat, by omega⟩
  clear hwf hcell hnil
  obtain ⟨i0, hi, hz0, hz1, hz2⟩ := info_parts info_u8
  go_enter Try.func65, Try.ntmps65
  go_wp2_with (first
    | (at_make; refine wpList_make_own _ rfl _ _ 22 rfl w.heap.size 5 i0 (.int .u8 0) 1 Try.underlying22 hi hz0 hz1 .i64 .i64 _ (X.length + r) rfl rfl (by simp) (by rw [hz2]; omega) (by unfold maxLen; omega) (Nat.le_refl _) ?_; intro w1 hown hgrow; have HS := Lib.hid (HV.out.grown hgrow); have HO : Hid (Own .u8 5 w1 w.heap.size (.slice (some ⟨w.heap.size, 0, none⟩) 0 (X.length + r)) []) := ⟨by simpa using hown, by simp⟩; have HG := Lib.hid hgrow; clear hown hgrow)
    | (at_builtin; go_loud (refine wpList_append_sees _ rfl _ _ 22 rfl w.heap.size 5 i0 (.int .u8 0) 1 Try.underlying22 hi hz0 hz1 hz2 rfl .u8 _ [] rfl HO.out _ X rfl HS.out (by unfold maxLen; simp; omega) (by simp; omega) (by exact HG.out.size) ?_); intro v2 w2 hown2 hgrow2; have HO2 := Lib.hid hown2; have HG2 := Lib.hid hgrow2; clear hown2 hgrow2))
  go_ret
  exact ⟨_, rfl, HO2.out, grown_new HG.out HG2.out (fun c hc => (HO.out.lt c hc).1)⟩

set_option maxRecDepth 200000 in
set_option maxHeartbeats 400000 in
theorem put_any (w : World) (base : Nat) (v : Value) (X : List Int) (n : Int) (hv : Own .u8 5 w base v X) (hb : base ≤ w.heap.size) (hX : X.length ≤ 1000000000000) (hn : (Lit.int .i64 n).wf = true) :
    Calls Try.prog 64 #[v, .int .i64 n] w fun e w' => ∃ u, e = .returned u ∧ Own .u8 5 w' base u (X ++ encI n) ∧ Below base w w' := by
  have HV := Lib.hid hv
  clear hv
  have hn64 := i64_of hn
  clear hn
  obtain ⟨i0, hi, hz0, hz1, hz2⟩ := info_parts info_u8
  by_cases hin : 0 ≤ n ∧ n ≤ 1000000000000
  · obtain ⟨m, rfl⟩ : ∃ c : Nat, n = c := ⟨n.toNat, by omega⟩
    have hdec : decide (0 ≤ (m : Int) ∧ (m : Int) ≤ 1000000000000) = true := by simpa using hin
    have HE : Hid (encI (m : Int) = enc m) := by show encI (m : Int) = enc m; unfold encI; rw [if_pos hin]; simp
    have HL : Hid ((enc m).length ≤ 6) := (enc_len 5 m (by omega)).2
    go_enter Try.func64, Try.ntmps64
    go_wp2_with (go_at_call 66; refine (inRange_any _ _ _ _).mono ?_; rintro e w' ⟨rfl, rfl⟩)
    go_loopw [0, 1] (fun u i wr => ∃ q : Nat, ∃ p : List Int, q ≤ m ∧ i = .int .i64 q ∧ Hid (p ++ enc q = enc m) ∧ Hid (Own .u8 5 wr base u (X ++ p)) ∧ Hid (Below base w wr))
      (fun _ i _ => (intOf i).toNat)
    case atStart => exact ⟨m, [], Nat.le_refl _, rfl, rfl, by simpa using HV, Below.refl _ _⟩
    case round =>
      obtain ⟨q, p, hq, rfl, HP, HO, HB⟩ := hrel
      have hsz : w.heap.size ≤ wr.heap.size := HB.out.size
      have hlen : (X ++ p).length ≤ 1000000000006 := by
        have h1 := congrArg List.length HP.out
        have := HL.out
        simp only [List.length_append] at h1 ⊢
        omega
      by_cases hm : q > 127
      · have ha : bits .and .i64 (q : Int) 127 = (q : Int) % 128 := and_127 _ (by omega) (by omega)
        have ho : bits .or .i64 ((q : Int) % 128) 128 = (q : Int) % 128 + 128 := or_128 _ (by omega) (by omega)
        go_wp2_with (at_builtin; refine wpList_append_one _ rfl _ _ 22 rfl base 5 i0 (.int .u8 0) 1 Try.underlying22 hi hz0 hz1 hz2 rfl .u8 _ (X ++ p) rfl HO.out ((q : Int) % 128 + 128) rfl (u8_mk (by omega)) (by omega) (by decide) (by omega) ?_; intro v2 w2 hown2 hgrow2; have HO2 := Lib.hid hown2; have HG2 := Lib.hid hgrow2; clear hown2 hgrow2)
        go_roundw
        case rel =>
          refine ⟨q / 128, p ++ [(q : Int) % 128 + 128], by omega, by go_num, ?_, ?_, HB.out.grown HG2.out (by omega) (fun c hc => (HO.out.lt c hc).1)⟩
          · show (p ++ [(q : Int) % 128 + 128]) ++ enc (q / 128) = enc m
            rw [← HP.out, enc_more hm, List.append_assoc, List.singleton_append]
            rfl
          · rw [← List.append_assoc]; exact HO2.out
        case measure => simp [intOf]; omega
      · have hx : (q : Int) ≤ 127 := by omega
        go_wp2_with (at_builtin; refine wpList_append_one _ rfl _ _ 22 rfl base 5 i0 (.int .u8 0) 1 Try.underlying22 hi hz0 hz1 hz2 rfl .u8 _ (X ++ p) rfl HO.out ((q : Int)) rfl (u8_mk (by omega)) (by omega) (by decide) (by omega) ?_; intro v2 w2 hown2 hgrow2; have HO2 := Lib.hid hown2; have HG2 := Lib.hid hgrow2; clear hown2 hgrow2)
        go_ret
        refine ⟨_, rfl, ?_, ?_⟩
        · rw [HE.out, ← HP.out, enc_last hm, ← List.append_assoc]; exact HO2.out
        · exact HB.out.grown HG2.out (by omega) (fun c hc => (HO.out.lt c hc).1)
  · have hdec : decide (0 ≤ n ∧ n ≤ 1000000000000) = false := by simpa using hin
    have HE : Hid (encI n = []) := by show encI n = []; unfold encI; rw [if_neg hin]
    clear hin
    go_enter Try.func64, Try.ntmps64
    go_wp2_with (go_at_call 66; refine (inRange_any _ _ _ _).mono ?_; rintro e w' ⟨rfl, rfl⟩)
    go_ret
    exact ⟨_, rfl, by rw [HE.out, List.append_nil]; exact HV.out, Below.refl _ _⟩

theorem uvarint_any (w : World) (v : Value) (X : List Int) (n : Int) (hv : Sees .u8 w v X) (hX : X.length ≤ 900000000000) (hn : (Lit.int .i64 n).wf = true) :
    Calls Try.prog 18 #[v, .int .i64 n] w fun e w' => ∃ u, e = .returned u ∧ Own .u8 5 w' w.heap.size u (X ++ encI n) ∧ w.grownBy w' none := by
  have HV := Lib.hid hv
  clear hv
  go_enter Try.func18, Try.ntmps18
  go_wp2_with fail
  refine (copy_any w v X 6 HV.out (by omega) (by omega)).mono ?_
  rintro e w1 ⟨u1, rfl, hown1, hg1⟩
  have HO1 := Lib.hid hown1
  have HG1 := Lib.hid hg1
  clear hown1 hg1
  go_wp2_with fail
  refine (put_any w1 w.heap.size u1 X n HO1.out HG1.out.size (by omega) hn).mono ?_
  rintro e w2 ⟨u2, rfl, hown2, hb2⟩
  have HO2 := Lib.hid hown2
  have HB2 := Lib.hid hb2
  clear hown2 hb2
  go_wp2
  go_ret
  exact ⟨_, rfl, HO2.out, below_grown ((grown_below HG1.out _ (Nat.le_refl _)).trans HB2.out)⟩

theorem appendBytes_any (w : World) (v u : Value) (X Y : List Int) (hv : Sees .u8 w v X) (hu : Sees .u8 w u Y) (hX : X.length ≤ 400000000000) (hY : Y.length ≤ 400000000000) :
    Calls Try.prog 24 #[v, u] w fun e w' => ∃ u, e = .returned u ∧ Own .u8 5 w' w.heap.size u (X ++ encI Y.length ++ Y) ∧ w.grownBy w' none := by
  have HV := Lib.hid hv
  have HU := Lib.hid hu
  clear hv
  obtain ⟨i0, hi, hz0, hz1, hz2⟩ := info_parts info_u8
  obtain ⟨a, cap, rfl, _⟩ := hu
  have HL := Lib.hid (encI_len Y.length)
  go_enter Try.func24, Try.ntmps24
  go_wp2_with fail
  refine (copy_any w v X _ HV.out ?_ ?_).mono ?_
  rotate_left 2
  rintro e w1 ⟨u1, rfl, hown1, hg1⟩
  have HO1 := Lib.hid hown1
  have HG1 := Lib.hid hg1
  clear hown1 hg1
  go_wp2_with fail
  refine (put_any w1 w.heap.size u1 X Y.length HO1.out HG1.out.size (by omega) (i64_mk (by omega))).mono ?_
  rintro e w2 ⟨u2, rfl, hown2, hb2⟩
  have HO2 := Lib.hid hown2
  have HB2 := Lib.hid ((grown_below HG1.out _ (Nat.le_refl _)).trans hb2)
  have HS := Lib.hid (HU.out.below HB2.out)
  have HZ : Hid ((X ++ encI Y.length).length ≤ 400000000006) := by show _ ≤ 400000000006; have := HL.out; simp; omega
  clear hown2 hb2
  go_wp2_with (at_builtin; go_loud (refine wpList_append_sees _ rfl _ _ 22 rfl w.heap.size 5 i0 (.int .u8 0) 1 Try.underlying22 hi hz0 hz1 hz2 rfl .u8 _ (X ++ encI Y.length) rfl HO2.out _ Y rfl HS.out (by have := HZ.out; unfold maxLen; omega) (by have := HZ.out; omega) HB2.out.size ?_); intro v2 w3 hown3 hgrow3; have HO3 := Lib.hid hown3; have HG3 := Lib.hid hgrow3; clear hown3 hgrow3)
  go_ret
  exact ⟨_, rfl, HO3.out, below_grown (HB2.out.grown HG3.out HB2.out.size (fun c hc => (HO2.out.lt c hc).1))⟩
  all_goals omega
end Go.Proofs.Ytbpmbbmgmpdhnaa.Put
