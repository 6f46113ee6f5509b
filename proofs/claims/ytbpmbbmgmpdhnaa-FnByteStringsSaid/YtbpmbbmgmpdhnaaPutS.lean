/- Contracts of the model's AppendUvarint and AppendBytes. -/
import Derived.Test.YtbpmbbmgmpdhnaaPut
namespace Go.Proofs.Ytbpmbbmgmpdhnaa.Put
open Go.RowKit Kit Rw Var LawsB

set_option maxRecDepth 20000 in
set_option maxHeartbeats 400000 in
theorem sUvarint_any (w : World) (v : Value) (X : List Int) (n : Int) (hv : Sees .u8 w v X) (hX : X.length ≤ 900000000000) (hn : (Lit.int .i64 n).wf = true) :
    Calls Try.prog 41 #[v, .int .i64 n] w fun e w' => ∃ u, e = .returned u ∧ Own .u8 5 w' w.heap.size u (X ++ encI n) ∧ w.grownBy w' none := by
  have HV := Lib.hid hv
  have hn64 := i64_of hn
  obtain ⟨i0, hi, hz0, hz1, hz2⟩ := info_parts info_u8
  obtain ⟨a, cap, rfl, _⟩ := hv
  have HO := Lib.hid (own_empty (k := .u8) (E := 5) w)
  have HS := Lib.hid (HV.out.grown (World.grownBy_alloc w (.cells #[] 5 (0, 0)) none))
  go_enter Try.func41, Try.ntmps41
  go_wp2_with (at_builtin; go_loud (refine wpList_append_sees _ rfl _ _ 22 rfl w.heap.size 5 i0 (.int .u8 0) 1 Try.underlying22 hi hz0 hz1 hz2 rfl .u8 _ [] rfl HO.out _ X rfl HS.out (by unfold maxLen; simp; omega) (by simp; omega) (by simp) ?_); intro v1 w1 hown1 hgrow1; have HO1 := Lib.hid hown1; have HG1 := Lib.hid (grown_new (World.grownBy_alloc _ _ none) hgrow1 (fun c hc => (HO.out.lt c hc).1)); clear hown1 hgrow1)
  refine (l1In_any _ _ _ _).mono ?_
  rintro e w' ⟨rfl, rfl⟩
  by_cases hin : 0 ≤ n ∧ n ≤ 1000000000000
  · obtain ⟨m, rfl⟩ : ∃ c : Nat, n = c := ⟨n.toNat, by omega⟩
    have hdec : decide (0 ≤ (m : Int) ∧ (m : Int) ≤ 1000000000000) = true := by simpa using hin
    have HE : Hid (encI (m : Int) = enc m) := by show encI (m : Int) = enc m; unfold encI; rw [if_pos hin]; simp
    have HL : Hid ((enc m).length ≤ 6) := (enc_len 5 m (by omega)).2
    go_wp2
    go_loopw [5, 1] (fun u i wr => ∃ q : Nat, ∃ p : List Int, q ≤ m ∧ i = .int .i64 q ∧ Hid (p ++ enc q = enc m) ∧ Hid (Own .u8 5 wr w.heap.size u (X ++ p)) ∧ Hid (Below w.heap.size w wr))
      (fun _ i _ => (intOf i).toNat)
    case atStart => exact ⟨m, [], Nat.le_refl _, rfl, rfl, by simpa using HO1, grown_below HG1.out _ (Nat.le_refl _)⟩
    case round =>
      obtain ⟨q, p, hq, rfl, HP, HOr, HB⟩ := hrel
      have hsz : w.heap.size ≤ wr.heap.size := HB.out.size
      have hlen : (X ++ p).length ≤ 1000000000006 := by
        have h1 := congrArg List.length HP.out
        have := HL.out
        simp only [List.length_append] at h1 ⊢
        omega
      by_cases hm : q > 127
      · have ha : bits .and .i64 (q : Int) 127 = (q : Int) % 128 := and_127 _ (by omega) (by omega)
        have ho : bits .or .i64 ((q : Int) % 128) 128 = (q : Int) % 128 + 128 := or_128 _ (by omega) (by omega)
        go_wp2_with (at_builtin; refine wpList_append_one _ rfl _ _ 22 rfl w.heap.size 5 i0 (.int .u8 0) 1 Try.underlying22 hi hz0 hz1 hz2 rfl .u8 _ (X ++ p) rfl HOr.out ((q : Int) % 128 + 128) rfl (u8_mk (by omega)) (by omega) (by decide) (by omega) ?_; intro v2 w2 hown2 hgrow2; have HO2 := Lib.hid hown2; have HG2 := Lib.hid hgrow2; clear hown2 hgrow2)
        go_roundw
        case rel =>
          refine ⟨q / 128, p ++ [(q : Int) % 128 + 128], by omega, by go_num, ?_, ?_, HB.out.grown HG2.out (by omega) (fun c hc => (HOr.out.lt c hc).1)⟩
          · show (p ++ [(q : Int) % 128 + 128]) ++ enc (q / 128) = enc m
            rw [← HP.out, enc_more hm, List.append_assoc, List.singleton_append]
            rfl
          · rw [← List.append_assoc]; exact HO2.out
        case measure => simp [intOf]; omega
      · have hx : (q : Int) ≤ 127 := by omega
        go_wp2_with (at_builtin; refine wpList_append_one _ rfl _ _ 22 rfl w.heap.size 5 i0 (.int .u8 0) 1 Try.underlying22 hi hz0 hz1 hz2 rfl .u8 _ (X ++ p) rfl HOr.out ((q : Int)) rfl (u8_mk (by omega)) (by omega) (by decide) (by omega) ?_; intro v2 w2 hown2 hgrow2; have HO2 := Lib.hid hown2; have HG2 := Lib.hid hgrow2; clear hown2 hgrow2)
        go_ret
        refine ⟨_, rfl, ?_, ?_⟩
        · rw [HE.out, ← HP.out, enc_last hm, ← List.append_assoc]; exact HO2.out
        · exact below_grown (HB.out.grown HG2.out (by omega) (fun c hc => (HOr.out.lt c hc).1))
  · have hdec : decide (0 ≤ n ∧ n ≤ 1000000000000) = false := by simpa using hin
    have HE : Hid (encI n = []) := by show encI n = []; unfold encI; rw [if_neg hin]
    clear hin
    go_wp2
    go_ret
    exact ⟨_, rfl, by rw [HE.out, List.append_nil]; exact HO1.out, HG1.out⟩

theorem sAppendBytes_any (w : World) (v u : Value) (X Y : List Int) (hv : Sees .u8 w v X) (hu : Sees .u8 w u Y) (hX : X.length ≤ 400000000000) (hY : Y.length ≤ 400000000000) :
    Calls Try.prog 46 #[v, u] w fun e w' => ∃ u, e = .returned u ∧ Own .u8 5 w' w.heap.size u (X ++ encI Y.length ++ Y) ∧ w.grownBy w' none := by
  have HV := Lib.hid hv
  have HU := Lib.hid hu
  clear hv
  obtain ⟨i0, hi, hz0, hz1, hz2⟩ := info_parts info_u8
  obtain ⟨a, cap, rfl, _⟩ := hu
  have HL := Lib.hid (encI_len Y.length)
  go_enter Try.func46, Try.ntmps46
  go_wp2_with fail
  refine (sUvarint_any w v X Y.length HV.out (by omega) (i64_mk (by omega))).mono ?_
  rintro e w2 ⟨u2, rfl, hown2, hb2⟩
  have HO2 := Lib.hid hown2
  have HB2 := Lib.hid (grown_below hb2 _ (Nat.le_refl _))
  have HS := Lib.hid (HU.out.below HB2.out)
  have HZ : Hid ((X ++ encI Y.length).length ≤ 400000000006) := by show _ ≤ 400000000006; have := HL.out; simp; omega
  clear hown2 hb2
  go_wp2_with (at_builtin; go_loud (refine wpList_append_sees _ rfl _ _ 22 rfl w.heap.size 5 i0 (.int .u8 0) 1 Try.underlying22 hi hz0 hz1 hz2 rfl .u8 _ (X ++ encI Y.length) rfl HO2.out _ Y rfl HS.out (by have := HZ.out; unfold maxLen; omega) (by have := HZ.out; omega) HB2.out.size ?_); intro v2 w3 hown3 hgrow3; have HO3 := Lib.hid hown3; have HG3 := Lib.hid hgrow3; clear hown3 hgrow3)
  go_ret
  exact ⟨_, rfl, HO3.out, below_grown (HB2.out.grown HG3.out HB2.out.size (fun c hc => (HO2.out.lt c hc).1))⟩
end Go.Proofs.Ytbpmbbmgmpdhnaa.Put
