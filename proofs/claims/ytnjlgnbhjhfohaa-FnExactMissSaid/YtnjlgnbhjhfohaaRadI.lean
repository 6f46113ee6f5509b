/- Contracts of the radio's functions, of the program and of its model. -/
import Derived.Test.YtnjlgnbhjhfohaaRadF
import Derived.IntWalk
import Derived.RegionTactic
import Derived.ChangeAlike
import Derived.BigRegion
import Derived.Deep.QuietTactic
import Derived.BigQuiet
namespace Go.Proofs.Ytnjlgnbhjhfohaa.RadI
open Go.RowKit Kit Rw Md Rad Tw

set_option maxHeartbeats 1000000 in
theorem iIs_any (w : World) (l m : Int) :
    Calls Try.prog 14 #[.agg #[.int .i64 l, .int .i64 m]] w fun e w' => e = .returned (.bool (isRadio l m)) ∧ w.grownBy w' none := by
  have hgr := World.grownBy_alloc w (.cells #[.int .i64 l, .int .i64 m] 27 (0, 0)) none
  have HG := Lib.hid hgr
  obtain ⟨c0, c1⟩ := two (box_new w #[.int .i64 l, .int .i64 m] 27)
  clear hgr
  have hs := inRange_any l 0 100000
  by_cases h : 0 ≤ l ∧ l ≤ 100000
  · have hd : decide (0 ≤ l ∧ l ≤ 100000) = true := decide_eq_true h
    rw [hd] at hs
    have HS := Lib.hid hs
    have HI : Hid (isRadio l m = decide (0 ≤ m ∧ m ≤ 1000)) := by show _ = _; unfold isRadio; rw [hd, Bool.true_and]
    clear hs hd
    go_enter Try.func14, Try.ntmps14
    go_wp2_with fail
    refine (HS.out _).mono ?_
    rintro e w2 ⟨rfl, rfl⟩
    go_wp2_with fail
    refine (inRange_any _ _ _ _).mono ?_
    rintro e w2 ⟨rfl, rfl⟩
    go_wp2
    go_ret
    exact ⟨ret_bool (by rw [HI.out, Bool.decide_and]), HG.out⟩
  · have hd : decide (0 ≤ l ∧ l ≤ 100000) = false := decide_eq_false h
    rw [hd] at hs
    have HS := Lib.hid hs
    have HI : Hid (isRadio l m = false) := by show _ = _; unfold isRadio; rw [hd, Bool.false_and]
    clear hs hd
    go_enter Try.func14, Try.ntmps14
    go_wp2_with fail
    refine (HS.out _).mono ?_
    rintro e w2 ⟨rfl, rfl⟩
    go_wp2
    go_ret
    exact ⟨ret_bool HI.out.symm, HG.out⟩
set_option maxHeartbeats 1000000 in
theorem sIs_any (w : World) (l m : Int) :
    Calls Try.prog 12 #[.agg #[.int .i64 l, .int .i64 m]] w fun e w' => e = .returned (.bool (isRadio l m)) ∧ w.grownBy w' none := by
  have hgr := World.grownBy_alloc w (.cells #[.int .i64 l, .int .i64 m] 27 (0, 0)) none
  have HG := Lib.hid hgr
  obtain ⟨c0, c1⟩ := two (box_new w #[.int .i64 l, .int .i64 m] 27)
  clear hgr
  have hs := l1In_any l 0 100000
  by_cases h : 0 ≤ l ∧ l ≤ 100000
  · have hd : decide (0 ≤ l ∧ l ≤ 100000) = true := decide_eq_true h
    rw [hd] at hs
    have HS := Lib.hid hs
    have HI : Hid (isRadio l m = decide (0 ≤ m ∧ m ≤ 1000)) := by show _ = _; unfold isRadio; rw [hd, Bool.true_and]
    clear hs hd
    go_enter Try.func12, Try.ntmps12
    go_wp2_with fail
    refine (HS.out _).mono ?_
    rintro e w2 ⟨rfl, rfl⟩
    go_wp2_with fail
    refine (l1In_any _ _ _ _).mono ?_
    rintro e w2 ⟨rfl, rfl⟩
    go_wp2
    go_ret
    exact ⟨ret_bool (by rw [HI.out, Bool.decide_and]), HG.out⟩
  · have hd : decide (0 ≤ l ∧ l ≤ 100000) = false := decide_eq_false h
    rw [hd] at hs
    have HS := Lib.hid hs
    have HI : Hid (isRadio l m = false) := by show _ = _; unfold isRadio; rw [hd, Bool.false_and]
    clear hs hd
    go_enter Try.func12, Try.ntmps12
    go_wp2_with fail
    refine (HS.out _).mono ?_
    rintro e w2 ⟨rfl, rfl⟩
    go_wp2
    go_ret
    exact ⟨ret_bool HI.out.symm, HG.out⟩

set_option maxHeartbeats 1000000 in
theorem iAlarm_any (w : World) (l m : Int) :
    Calls Try.prog 21 #[.agg #[.int .i64 l, .int .i64 m]] w fun e w' => e = .returned (.bool (isAlarm l m)) ∧ w.grownBy w' none := by
  have hgr := World.grownBy_alloc w (.cells #[.int .i64 l, .int .i64 m] 27 (0, 0)) none
  have HG := Lib.hid hgr
  have HB := Lib.hid (box_new w #[.int .i64 l, .int .i64 m] 27)
  clear hgr
  obtain ⟨c0, c1⟩ := two HB.out
  have hs := iIs_any (w.alloc (.cells #[.int .i64 l, .int .i64 m] 27 (0, 0))) l m
  obtain ⟨b, hb⟩ : ∃ b, b = isRadio l m := ⟨_, rfl⟩
  rw [← hb] at hs
  have HS := Lib.hid hs
  have HI : Hid (isAlarm l m = (b && decide (2 ≤ m))) := by show _ = _; unfold isAlarm; rw [hb]
  clear hs hb
  go_enter Try.func21, Try.ntmps21
  go_wp2_with fail
  refine HS.out.mono ?_
  rintro e w2 ⟨rfl, hg⟩
  obtain ⟨c0, c1⟩ := two (HB.out.grown hg)
  have HG2 := Lib.hid (grownN_trans HG.out hg)
  clear hg
  cases b
  · go_wp2
    go_ret
    exact ⟨ret_bool (by rw [HI.out, Bool.false_and]), HG2.out⟩
  · go_wp2
    go_ret
    exact ⟨ret_bool (by rw [HI.out, Bool.true_and]), HG2.out⟩
set_option maxHeartbeats 1000000 in
theorem sAlarm_any (w : World) (l m : Int) :
    Calls Try.prog 20 #[.agg #[.int .i64 l, .int .i64 m]] w fun e w' => e = .returned (.bool (isAlarm l m)) ∧ w.grownBy w' none := by
  have hgr := World.grownBy_alloc w (.cells #[.int .i64 l, .int .i64 m] 27 (0, 0)) none
  have HG := Lib.hid hgr
  have HB := Lib.hid (box_new w #[.int .i64 l, .int .i64 m] 27)
  clear hgr
  obtain ⟨c0, c1⟩ := two HB.out
  have hs := sIs_any (w.alloc (.cells #[.int .i64 l, .int .i64 m] 27 (0, 0))) l m
  obtain ⟨b, hb⟩ : ∃ b, b = isRadio l m := ⟨_, rfl⟩
  rw [← hb] at hs
  have HS := Lib.hid hs
  have HI : Hid (isAlarm l m = (b && decide (2 ≤ m))) := by show _ = _; unfold isAlarm; rw [hb]
  clear hs hb
  go_enter Try.func20, Try.ntmps20
  go_wp2_with fail
  refine HS.out.mono ?_
  rintro e w2 ⟨rfl, hg⟩
  obtain ⟨c0, c1⟩ := two (HB.out.grown hg)
  have HG2 := Lib.hid (grownN_trans HG.out hg)
  clear hg
  cases b
  · go_wp2
    go_ret
    exact ⟨ret_bool (by rw [HI.out, Bool.false_and]), HG2.out⟩
  · go_wp2
    go_ret
    exact ⟨ret_bool (by rw [HI.out, Bool.true_and]), HG2.out⟩

set_option maxHeartbeats 1000000 in
theorem iHour_any (w : World) (l m : Int) :
    Calls Try.prog 23 #[.agg #[.int .i64 l, .int .i64 m]] w fun e w' => e = .returned (.int .i64 (alarmHour l m)) ∧ w.grownBy w' none := by
  have hgr := World.grownBy_alloc w (.cells #[.int .i64 l, .int .i64 m] 27 (0, 0)) none
  have HG := Lib.hid hgr
  have HB := Lib.hid (box_new w #[.int .i64 l, .int .i64 m] 27)
  clear hgr
  obtain ⟨c0, c1⟩ := two HB.out
  have hs := iIs_any (w.alloc (.cells #[.int .i64 l, .int .i64 m] 27 (0, 0))) l m
  cases hb : isRadio l m
  · rw [hb] at hs
    have HS := Lib.hid hs
    have HI : Hid (alarmHour l m = -1) := by show _ = _; unfold alarmHour; rw [hb]; rfl
    clear hs hb
    go_enter Try.func23, Try.ntmps23
    go_wp2_with fail
    refine HS.out.mono ?_
    rintro e w2 ⟨rfl, hg⟩
    have HG2 := Lib.hid (grownN_trans HG.out hg)
    clear hg
    go_wp2
    go_ret
    exact ⟨ret_i64 HI.out.symm, HG2.out⟩
  · rw [hb] at hs
    have HS := Lib.hid hs
    have hy := radio_yes hb
    have HI : Hid (alarmHour l m = l + 12) := by show _ = _; unfold alarmHour; rw [if_pos hb]
    clear hs hb
    go_enter Try.func23, Try.ntmps23
    go_wp2_with fail
    refine HS.out.mono ?_
    rintro e w2 ⟨rfl, hg⟩
    obtain ⟨c0, c1⟩ := two (HB.out.grown hg)
    have HG2 := Lib.hid (grownN_trans HG.out hg)
    clear hg
    go_wp2
    go_ret
    exact ⟨ret_i64 HI.out.symm, HG2.out⟩
set_option maxHeartbeats 1000000 in
theorem sHour_any (w : World) (l m : Int) :
    Calls Try.prog 22 #[.agg #[.int .i64 l, .int .i64 m]] w fun e w' => e = .returned (.int .i64 (alarmHour l m)) ∧ w.grownBy w' none := by
  have hgr := World.grownBy_alloc w (.cells #[.int .i64 l, .int .i64 m] 27 (0, 0)) none
  have HG := Lib.hid hgr
  have HB := Lib.hid (box_new w #[.int .i64 l, .int .i64 m] 27)
  clear hgr
  obtain ⟨c0, c1⟩ := two HB.out
  have hs := sIs_any (w.alloc (.cells #[.int .i64 l, .int .i64 m] 27 (0, 0))) l m
  cases hb : isRadio l m
  · rw [hb] at hs
    have HS := Lib.hid hs
    have HI : Hid (alarmHour l m = -1) := by show _ = _; unfold alarmHour; rw [hb]; rfl
    clear hs hb
    go_enter Try.func22, Try.ntmps22
    go_wp2_with fail
    refine HS.out.mono ?_
    rintro e w2 ⟨rfl, hg⟩
    have HG2 := Lib.hid (grownN_trans HG.out hg)
    clear hg
    go_wp2
    go_ret
    exact ⟨ret_i64 HI.out.symm, HG2.out⟩
  · rw [hb] at hs
    have HS := Lib.hid hs
    have hy := radio_yes hb
    have HI : Hid (alarmHour l m = l + 12) := by show _ = _; unfold alarmHour; rw [if_pos hb]
    clear hs hb
    go_enter Try.func22, Try.ntmps22
    go_wp2_with fail
    refine HS.out.mono ?_
    rintro e w2 ⟨rfl, hg⟩
    obtain ⟨c0, c1⟩ := two (HB.out.grown hg)
    have HG2 := Lib.hid (grownN_trans HG.out hg)
    clear hg
    go_wp2
    go_ret
    exact ⟨ret_i64 HI.out.symm, HG2.out⟩
end Go.Proofs.Ytnjlgnbhjhfohaa.RadI
