/- The radio, as plain functions on numbers. -/
import Derived.Test.YtnjlgnbhjhfohaaTwo
namespace Go.Proofs.Ytnjlgnbhjhfohaa.Rad
open Go.RowKit

def isRadio (l m : Int) : Bool := decide (0 ≤ l ∧ l ≤ 100000) && decide (0 ≤ m ∧ m ≤ 1000)
def hearOk (l m h : Int) : Bool := isRadio l m && decide (l ≤ h ∧ h ≤ 100000)
def hearL (l m h : Int) : Int := if hearOk l m h = true then h else l
def hearM (l m h : Int) : Int := if hearOk l m h = true then 0 else m
def missOk (l m h : Int) : Bool := hearOk l m h && decide ((h - l) / 6 ≤ 1000)
def missM (l m h : Int) : Int := if missOk l m h = true then (h - l) / 6 else m
def isAlarm (l m : Int) : Bool := isRadio l m && decide (2 ≤ m)
def alarmHour (l m : Int) : Int := if isRadio l m = true then l + 12 else -1

theorem radio_yes {l m : Int} (h : isRadio l m = true) : (0 ≤ l ∧ l ≤ 100000) ∧ 0 ≤ m ∧ m ≤ 1000 := by simpa [isRadio] using h
theorem radio_mk {l m : Int} (h : (0 ≤ l ∧ l ≤ 100000) ∧ 0 ≤ m ∧ m ≤ 1000) : isRadio l m = true := by simpa [isRadio] using h
theorem radio_no {l m : Int} (h : ¬ ((0 ≤ l ∧ l ≤ 100000) ∧ 0 ≤ m ∧ m ≤ 1000)) : isRadio l m = false := by
  cases e : isRadio l m
  · rfl
  · exact absurd (radio_yes e) h
theorem hear_yes {l m h : Int} (e : hearOk l m h = true) : isRadio l m = true ∧ l ≤ h ∧ h ≤ 100000 := by simpa [hearOk] using e
theorem hear_mk {l m h : Int} (hr : isRadio l m = true) (h1 : l ≤ h) (h2 : h ≤ 100000) : hearOk l m h = true := by simp [hearOk, hr, h1, h2]
theorem miss_yes {l m h : Int} (e : missOk l m h = true) : hearOk l m h = true ∧ (h - l) / 6 ≤ 1000 := by simpa [missOk] using e
/-- Whoever misses two calls hears the alarm just from its hour on. -/
theorem alarm_when {l m h : Int} (e : missOk l m h = true) : isAlarm l (missM l m h) = decide (alarmHour l m ≤ h) := by
  obtain ⟨h1, h2⟩ := miss_yes e
  obtain ⟨h3, h4, h5⟩ := hear_yes h1
  have h6 := radio_yes h3
  unfold isAlarm missM alarmHour
  rw [if_pos e, if_pos h3, radio_mk ⟨h6.1, by omega, h2⟩, Bool.true_and]
  exact decide_eq_decide.mpr (by omega)
theorem alarm_at {l m : Int} (hl : isRadio l m = true) : 12 ≤ alarmHour l m ∧ alarmHour l m ≤ 100012 := by
  unfold alarmHour; rw [if_pos hl]; have := radio_yes hl; omega
theorem alarm_range (l m : Int) : -1 ≤ alarmHour l m ∧ alarmHour l m ≤ 100012 := by
  cases h : isRadio l m
  · have : alarmHour l m = -1 := by unfold alarmHour; rw [h]; rfl
    omega
  · have := alarm_at h; omega
end Go.Proofs.Ytnjlgnbhjhfohaa.Rad
