/- Contracts of the program's Keeps, MayStorm, copies with room and AddDay. -/
import Derived.Test.YtbpiojnehomljaaStJ
import Derived.Test.YtbpiojnehomljaaStormK
import Derived.Test.YtbpiojnehomljaaStormA
namespace Go.Proofs.Ytbpiojnehomljaa.StI
open Go.RowKit Kit Rw Rg Stm Md StormS

theorem sees_nil {α : Type} (e : Enc α) (w : World) : SeesG e w (.slice none 0 0) [] := ⟨none, 0, rfl, by simp, by unfold maxLen; omega, fun _ => rfl, by simp, .inl rfl⟩
set_option maxRecDepth 20000 in
set_option maxHeartbeats 1000000 in
theorem iMayStorm_any (w : World) (m n : Int) (hm : (Lit.int .i64 m).wf = true) (hn : (Lit.int .i64 n).wf = true) (v : Value) (L : List Bool) (hv : SeesG encB w v L) :
    Calls Try.prog 105 #[.agg #[.int .i64 m, .int .i64 n], v] w fun e w' => e = .returned (.bool (mayStorm m n L)) ∧ w.grownBy w' none := by
  have hl := hv.len
  have hgr := World.grownBy_alloc w (.cells #[.int .i64 m, .int .i64 n] 49 (0, 0)) none
  have HV := Lib.hid hv
  have HG := Lib.hid hgr
  have HB := Lib.hid (box_new w #[.int .i64 m, .int .i64 n] 49)
  obtain ⟨c0, c1⟩ := two HB.out
  clear hgr
  have hs := fun w => iIsRule_any w m n hm hn
  cases h : isRule m n
  · rw [h] at hs
    have HS := Lib.hid hs
    have HF : Hid (mayStorm m n L = false) := by show _ = _; unfold mayStorm; rw [h, Bool.false_and]
    clear hs h hm hn
    go_enter Try.func105, Try.ntmps105
    go_wp2_with fail
    refine (HS.out _).mono ?_
    rintro e w2 ⟨rfl, hg⟩
    have HG2 := Lib.hid (grownN_trans HG.out hg)
    clear hg
    go_wp2
    go_ret
    exact ⟨ret_bool HF.out.symm, HG2.out⟩
  · rw [h] at hs
    obtain ⟨M, N, rfl, rfl, hMN, hN⟩ := rule_nat h
    have HS := Lib.hid hs
    have HF : Hid (mayStorm (M : Int) (N : Int) L = decide (lastN (N - 1) L < M)) := mayStorm_may h
    have ha := fun w hv => after_any w (M : Int) N v L hm (by omega) hN hv
    have HA := Lib.hid ha
    clear hs h ha hm hn hv
    go_enter Try.func105, Try.ntmps105
    go_wp2_with fail
    refine (HS.out _).mono ?_
    rintro e w2 ⟨rfl, hg⟩
    have HG2 := Lib.hid (grownN_trans HG.out hg)
    obtain ⟨d0, d1⟩ := two (HB.out.grown hg)
    clear hg c0 c1
    go_wp2_with fail
    refine (HA.out _ (HV.out.grown HG2.out)).mono ?_
    rintro e w3 ⟨b, rfl, hW, hg⟩
    have HG3 := Lib.hid (grownN_trans HG2.out hg)
    have HW := Lib.hid hW
    clear hg hW d0 d1
    go_wp2_with fail
    refine (may_any _ _ b M N L HW.out).mono ?_
    rintro e w4 ⟨rfl, hg⟩
    have HG4 := Lib.hid (grownN_trans HG3.out hg)
    clear hg
    go_wp2
    go_ret
    exact ⟨ret_bool HF.out.symm, HG4.out⟩

set_option maxHeartbeats 1000000 in
theorem copyB_any (w : World) (v : Value) (X : List Bool) (r : Int) (hv : SeesG encB w v X) (h0 : 0 ≤ r) (hn : X.length + r ≤ 1000000000000) :
    Calls Try.prog 125 #[v, .int .i64 r] w fun e w' => ∃ u, e = .returned u ∧ OwnG encB 4 w' w.heap.size u X ∧ w.grownBy w' none := by
  have HV := Lib.hid hv
  obtain ⟨a, cap, rfl, _⟩ := hv
  obtain ⟨r, rfl⟩ : ∃ c : Nat, r = c := ⟨r.toNat, by omega⟩
  obtain ⟨i0, hi, hz0, hz1, hz2⟩ := info_parts StI.info_bool
  go_enter Try.func125, Try.ntmps125
  go_wp2_with (first
    | (at_make; refine wpList_make_own _ rfl _ _ 44 rfl w.heap.size 4 i0 (.bool false) 1 Try.underlying44 hi hz0 hz1 .i64 .i64 _ (X.length + r) rfl rfl (by simp) (by rw [hz2]; omega) (by unfold maxLen; omega) (Nat.le_refl _) ?_; intro w1 hown hgrow; have HS := Lib.hid (HV.out.grown hgrow); have HO : Hid (OwnG encB 4 w1 w.heap.size _ []) := ⟨hown, fun _ h => by cases h⟩; have HG := Lib.hid hgrow; clear hown hgrow)
    | (at_builtin; go_loud (refine wpListG_append_sees _ rfl _ _ 44 rfl w.heap.size 4 i0 (.bool false) 1 Try.underlying44 hi hz0 hz1 hz2 rfl _ [] rfl HO.out _ X rfl HS.out (by unfold maxLen; simp; omega) (by simp; omega) (by exact HG.out.size) ?_); intro v2 w2 hown2 hgrow2; rw [List.nil_append] at hown2; have HO2 := Lib.hid hown2; have HG2 := Lib.hid hgrow2; clear hown2 hgrow2))
  go_ret
  exact ⟨_, rfl, HO2.out, grown_new HG.out HG2.out (fun c hc => (HO.out.lt c hc).1)⟩
end Go.Proofs.Ytbpiojnehomljaa.StI
