/- Contracts of the tides' functions, of the program and of its model. -/
import Derived.Test.YtkbgbllcekmfcaaTideF
import Derived.Test.YtkbgbllcekmfcaaMo
import Derived.IntWalk
import Derived.RegionTactic
import Derived.ChangeAlike
import Derived.BigRegion
import Derived.Deep.QuietTactic
import Derived.BigQuiet
namespace Go.Proofs.Ytkbgbllcekmfcaa.TideI
open Go.RowKit Kit Rw Md Tid Tw

set_option maxHeartbeats 1000000 in
theorem iIs_any (w : World) (h k : Int) :
    Calls Try.prog 14 #[.agg #[.int .i64 h, .int .i64 k]] w fun e w' => e = .returned (.bool (isTide h k)) ∧ w.grownBy w' none := by
  have hgr := World.grownBy_alloc w (.cells #[.int .i64 h, .int .i64 k] 25 (0, 0)) none
  have HG := Lib.hid hgr
  obtain ⟨c0, c1⟩ := two (box_new w #[.int .i64 h, .int .i64 k] 25)
  clear hgr
  have hs := inRange_any h 0 11
  by_cases hh : 0 ≤ h ∧ h ≤ 11
  · have hd : decide (0 ≤ h ∧ h ≤ 11) = true := decide_eq_true hh
    rw [hd] at hs
    have HS := Lib.hid hs
    have HI : Hid (isTide h k = decide (0 ≤ k ∧ k ≤ 5)) := by show _ = _; unfold isTide; rw [hd, Bool.true_and]
    clear hs hd
    go_enter Try.func14, Try.ntmps14
    go_wp2_with fail
    refine (HS.out _).mono ?_
    rintro e w2 ⟨rfl, rfl⟩
    go_wp2_with fail
    refine (inRange_any _ _ _ _).mono ?_
    rintro e w2 ⟨rfl, rfl⟩
    go_wp2
    go_ret
    exact ⟨ret_bool (by rw [HI.out, Bool.decide_and]), HG.out⟩
  · have hd : decide (0 ≤ h ∧ h ≤ 11) = false := decide_eq_false hh
    rw [hd] at hs
    have HS := Lib.hid hs
    have HI : Hid (isTide h k = false) := by show _ = _; unfold isTide; rw [hd, Bool.false_and]
    clear hs hd
    go_enter Try.func14, Try.ntmps14
    go_wp2_with fail
    refine (HS.out _).mono ?_
    rintro e w2 ⟨rfl, rfl⟩
    go_wp2
    go_ret
    exact ⟨ret_bool HI.out.symm, HG.out⟩
set_option maxHeartbeats 1000000 in
theorem sIs_any (w : World) (h k : Int) :
    Calls Try.prog 12 #[.agg #[.int .i64 h, .int .i64 k]] w fun e w' => e = .returned (.bool (isTide h k)) ∧ w.grownBy w' none := by
  have hgr := World.grownBy_alloc w (.cells #[.int .i64 h, .int .i64 k] 25 (0, 0)) none
  have HG := Lib.hid hgr
  obtain ⟨c0, c1⟩ := two (box_new w #[.int .i64 h, .int .i64 k] 25)
  clear hgr
  have hs := l1In_any h 0 11
  by_cases hh : 0 ≤ h ∧ h ≤ 11
  · have hd : decide (0 ≤ h ∧ h ≤ 11) = true := decide_eq_true hh
    rw [hd] at hs
    have HS := Lib.hid hs
    have HI : Hid (isTide h k = decide (0 ≤ k ∧ k ≤ 5)) := by show _ = _; unfold isTide; rw [hd, Bool.true_and]
    clear hs hd
    go_enter Try.func12, Try.ntmps12
    go_wp2_with fail
    refine (HS.out _).mono ?_
    rintro e w2 ⟨rfl, rfl⟩
    go_wp2_with fail
    refine (l1In_any _ _ _ _).mono ?_
    rintro e w2 ⟨rfl, rfl⟩
    go_wp2
    go_ret
    exact ⟨ret_bool (by rw [HI.out, Bool.decide_and]), HG.out⟩
  · have hd : decide (0 ≤ h ∧ h ≤ 11) = false := decide_eq_false hh
    rw [hd] at hs
    have HS := Lib.hid hs
    have HI : Hid (isTide h k = false) := by show _ = _; unfold isTide; rw [hd, Bool.false_and]
    clear hs hd
    go_enter Try.func12, Try.ntmps12
    go_wp2_with fail
    refine (HS.out _).mono ?_
    rintro e w2 ⟨rfl, rfl⟩
    go_wp2
    go_ret
    exact ⟨ret_bool HI.out.symm, HG.out⟩

set_option maxHeartbeats 1000000 in
theorem wetHours_any (w : World) (h k : Int) (hk : isTide h k = true) :
    Calls Try.prog 43 #[.agg #[.int .i64 h, .int .i64 k]] w fun e w' => e = .returned (.int .i64 (2 * k + 1)) ∧ w.grownBy w' none := by
  have hgr := World.grownBy_alloc w (.cells #[.int .i64 h, .int .i64 k] 25 (0, 0)) none
  have HG := Lib.hid hgr
  obtain ⟨c0, c1⟩ := two (box_new w #[.int .i64 h, .int .i64 k] 25)
  have hy := tide_yes hk
  clear hgr hk
  go_enter Try.func43, Try.ntmps43
  go_wp2
  go_ret
  exact ⟨rfl, HG.out⟩

set_option maxHeartbeats 1000000 in
theorem isWet_any (w : World) (h k n : Int) (hk : isTide h k = true) (hn : 0 ≤ n ∧ n ≤ 1000000) :
    Calls Try.prog 39 #[.agg #[.int .i64 h, .int .i64 k], .int .i64 n] w fun e w' => e = .returned (.bool (isWet h k n)) ∧ w.grownBy w' none := by
  have hgr := World.grownBy_alloc w (.cells #[.int .i64 h, .int .i64 k] 25 (0, 0)) none
  have HG := Lib.hid hgr
  have HB := Lib.hid (box_new w #[.int .i64 h, .int .i64 k] 25)
  obtain ⟨c0, c1⟩ := two HB.out
  have hy := tide_yes hk
  have HK := Lib.hid hk
  clear hgr hk
  go_enter Try.func39, Try.ntmps39
  go_wp2_with fail
  refine (mod_any _ 12 _ (by omega) (by omega)).mono ?_
  rintro e w2 ⟨rfl, rfl⟩
  rw [show (n - h + k) % 12 = since h k n from rfl]
  have hr := since_range h k n
  obtain ⟨s, hs⟩ : ∃ s, s = since h k n := ⟨_, rfl⟩
  have HI : Hid (isWet h k n = decide (s < 2 * k + 1)) := by show _ = _; unfold isWet; rw [hs]
  rw [← hs] at hr ⊢
  clear hs
  go_wp2_with fail
  refine (wetHours_any _ h k HK.out).mono ?_
  rintro e w3 ⟨rfl, hg⟩
  have HG3 := Lib.hid (grownN_trans HG.out hg)
  clear hg
  go_wp2
  go_ret
  exact ⟨ret_bool HI.out.symm, HG3.out⟩

set_option maxHeartbeats 1000000 in
theorem iDry_any (w : World) (h k n : Int) :
    Calls Try.prog 16 #[.agg #[.int .i64 h, .int .i64 k], .int .i64 n] w fun e w' => e = .returned (.bool (isDry h k n)) ∧ w.grownBy w' none := by
  have hgr := World.grownBy_alloc w (.cells #[.int .i64 h, .int .i64 k] 25 (0, 0)) none
  have HG := Lib.hid hgr
  have HB := Lib.hid (box_new w #[.int .i64 h, .int .i64 k] 25)
  clear hgr
  obtain ⟨c0, c1⟩ := two HB.out
  have ha := fun w => iIs_any w h k
  have hb := fun w => inRange_any n 0 100000 w
  cases ht : isTide h k
  · rw [ht] at ha
    have HA := Lib.hid ha
    have HI : Hid (isDry h k n = false) := by show _ = _; unfold isDry dryOk; rw [ht]; rfl
    clear ha hb ht
    go_enter Try.func16, Try.ntmps16
    go_wp2_with fail
    refine (HA.out _).mono ?_
    rintro e w2 ⟨rfl, hg⟩
    have HG2 := Lib.hid (grownN_trans HG.out hg)
    clear hg
    go_wp2
    go_ret
    exact ⟨ret_bool HI.out.symm, HG2.out⟩
  · rw [ht] at ha
    have HA := Lib.hid ha
    have HT := Lib.hid ht
    by_cases hn : 0 ≤ n ∧ n ≤ 100000
    · rw [decide_eq_true hn] at hb
      have HB1 := Lib.hid hb
      have HI : Hid (isDry h k n = !isWet h k n) := isDry_of (dryOk_mk ht hn.1 hn.2)
      clear ha hb ht
      go_enter Try.func16, Try.ntmps16
      go_wp2_with fail
      refine (HA.out _).mono ?_
      rintro e w2 ⟨rfl, hg⟩
      obtain ⟨c0, c1⟩ := two (HB.out.grown hg)
      have HB2 := Lib.hid (HB.out.grown hg)
      have HG2 := Lib.hid (grownN_trans HG.out hg)
      clear hg
      go_wp2_with fail
      refine (HB1.out _).mono ?_
      rintro e w2 ⟨rfl, rfl⟩
      go_wp2_with fail
      refine (isWet_any _ h k n HT.out ⟨hn.1, by omega⟩).mono ?_
      rintro e w3 ⟨rfl, hg⟩
      have HG3 := Lib.hid (grownN_trans HG2.out hg)
      clear hg
      go_wp2
      go_ret
      exact ⟨ret_bool HI.out.symm, HG3.out⟩
    · rw [decide_eq_false hn] at hb
      have HB1 := Lib.hid hb
      have HI : Hid (isDry h k n = false) := by show _ = _; unfold isDry dryOk; rw [decide_eq_false hn, Bool.and_false, Bool.false_and]
      clear ha hb ht
      go_enter Try.func16, Try.ntmps16
      go_wp2_with fail
      refine (HA.out _).mono ?_
      rintro e w2 ⟨rfl, hg⟩
      obtain ⟨c0, c1⟩ := two (HB.out.grown hg)
      have HG2 := Lib.hid (grownN_trans HG.out hg)
      clear hg
      go_wp2_with fail
      refine (HB1.out _).mono ?_
      rintro e w2 ⟨rfl, rfl⟩
      go_wp2
      go_ret
      exact ⟨ret_bool HI.out.symm, HG2.out⟩
end Go.Proofs.Ytkbgbllcekmfcaa.TideI
