/- Contract of the program's AddDay. -/
import Derived.Test.YtbpiojnehomljaaStP
import Derived.Test.YtbpiojnehomljaaMin
namespace Go.Proofs.Ytbpiojnehomljaa.StI
open Go.RowKit Kit Rw Rg Stm Md StormS Mn

set_option maxHeartbeats 1000000 in
theorem iAddDay_any (w : World) (v : Value) (L : List Bool) (b : Bool) (hv : SeesG encB w v L) (hL : L.length ≤ 100000000) :
    Calls Try.prog 104 #[v, .bool b] w fun e w' => ∃ u, e = .returned u ∧ OwnG encB 4 w' w.heap.size u (addDay L b) ∧ w.grownBy w' none := by
  have HV := Lib.hid hv
  obtain ⟨a, cap, rfl, hlc, hcm, _⟩ := hv
  obtain ⟨i0, hi, hz0, hz1, hz2⟩ := info_parts StI.info_bool
  obtain ⟨i, hii⟩ : ∃ i, i = L.length + 1 - 10 := ⟨_, rfl⟩
  have hmx : most 0 ((L.length : Int) + 1 - 10) = i := by unfold most; split <;> omega
  have hM := fun w => max_any 0 ((L.length : Int) + 1 - 10) w
  rw [hmx] at hM
  have HM := Lib.hid hM
  have hil : i ≤ L.length := by omega
  have hS := seesG_from HV.out hil (k := i) (by simp [encB])
  have HS : Hid (SeesG encB w (.slice (if cap = i then a else a.map (fun x => x.add i)) (L.length - i) (cap - i)) (L.drop i)) := hS
  have HD : Hid (addDay L b = L.drop i ++ [b]) := by
    show _ = _
    unfold addDay
    rw [List.drop_append_of_le_length (by omega), hii]
  have HLD : Hid ((L.drop i).length ≤ 1000000000) := by show _ ≤ _; simp; omega
  have HLE : Hid (((L.drop i).length : Int) + 1 ≤ 1000000000000) := by show _ ≤ _; simp; omega
  clear hM hmx hii hS
  by_cases hci : cap = i
  · subst hci
    have HS1 : Hid (SeesG encB w (.slice a 0 0) (L.drop cap)) := by
      have := HS.out
      rw [if_pos rfl, show L.length - cap = 0 by omega, Nat.sub_self] at this
      exact this
    go_enter Try.func104, Try.ntmps104
    go_wp2_with fail
    refine (HM.out _).mono ?_
    rintro e w2 ⟨rfl, hg⟩
    have HG2 := Lib.hid hg
    clear hg
    go_wp2_with fail
    refine (copyB_any _ _ (L.drop cap) 1 (HS1.out.grown HG2.out) (by omega) HLE.out).mono ?_
    rintro e w3 ⟨u, rfl, ho, hg⟩
    have HO3 := Lib.hid ho
    have HG3 := Lib.hid hg
    have HZ := Lib.hid HG2.out.size
    have HB3 := Lib.hid (grownN_trans HG2.out hg)
    clear ho hg
    go_wp2_with (at_builtin; go_loud (refine wpListG_append_one _ rfl _ _ 44 rfl w2.heap.size 4 i0 (.bool false) 1 Try.underlying44 hi hz0 hz1 hz2 rfl _ (L.drop cap) rfl HO3.out b #[.bool b] rfl rfl trivial HLD.out (by decide) HG3.out.size ?_); intro v4 w4 hown4 hgrow4 hnew4; have HO4 := Lib.hid hown4; have HG4 := Lib.hid (grown_new HB3.out hgrow4 (fun c hc => Nat.le_trans HZ.out (HO3.out.lt c hc).1)); clear hown4 hgrow4 hnew4)
    go_ret
    exact ⟨_, rfl, by rw [HD.out]; exact HO4.out.lower HZ.out, HG4.out⟩
  · have HS1 : Hid (SeesG encB w (.slice (a.map (fun x => x.add i)) (L.length - i) (cap - i)) (L.drop i)) := by
      have := HS.out
      rw [if_neg hci] at this
      exact this
    go_enter Try.func104, Try.ntmps104
    go_wp2_with fail
    refine (HM.out _).mono ?_
    rintro e w2 ⟨rfl, hg⟩
    have HG2 := Lib.hid hg
    clear hg
    go_wp2_with fail
    refine (copyB_any _ _ (L.drop i) 1 (HS1.out.grown HG2.out) (by omega) HLE.out).mono ?_
    rintro e w3 ⟨u, rfl, ho, hg⟩
    have HO3 := Lib.hid ho
    have HG3 := Lib.hid hg
    have HZ := Lib.hid HG2.out.size
    have HB3 := Lib.hid (grownN_trans HG2.out hg)
    clear ho hg
    go_wp2_with (at_builtin; go_loud (refine wpListG_append_one _ rfl _ _ 44 rfl w2.heap.size 4 i0 (.bool false) 1 Try.underlying44 hi hz0 hz1 hz2 rfl _ (L.drop i) rfl HO3.out b #[.bool b] rfl rfl trivial HLD.out (by decide) HG3.out.size ?_); intro v4 w4 hown4 hgrow4 hnew4; have HO4 := Lib.hid hown4; have HG4 := Lib.hid (grown_new HB3.out hgrow4 (fun c hc => Nat.le_trans HZ.out (HO3.out.lt c hc).1)); clear hown4 hgrow4 hnew4)
    go_ret
    exact ⟨_, rfl, by rw [HD.out]; exact HO4.out.lower HZ.out, HG4.out⟩
end Go.Proofs.Ytbpiojnehomljaa.StI
