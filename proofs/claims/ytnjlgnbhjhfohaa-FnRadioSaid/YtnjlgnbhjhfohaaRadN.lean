/- Contract of what is missed, of the model. -/
import Derived.Test.YtnjlgnbhjhfohaaRadM
namespace Go.Proofs.Ytnjlgnbhjhfohaa.RadI
open Go.RowKit Kit Rw Md Rad Tw

set_option maxRecDepth 20000 in
set_option maxHeartbeats 2000000 in
theorem sMiss_any (w : World) (l m h : Int) :
    Calls Try.prog 18 #[.agg #[.int .i64 l, .int .i64 m], .int .i64 h] w fun e w' => e = .returned (.tuple #[.agg #[.int .i64 l, .int .i64 (missM l m h)], .bool (missOk l m h)]) ∧ w.grownBy w' none := by
  have HR0 := Lib.hid (HR.start (w := w) (l := l) (m := m))
  obtain ⟨c0, c1⟩ := two HR0.out.par
  have ha := fun w => sIs_any w l m
  cases ht : isRadio l m
  · have hok : ¬ missOk l m h = true := fun e => by simp [missOk, hearOk, ht] at e
    have HI : Hid (missM l m h = m ∧ missOk l m h = false) := ⟨by unfold missM; rw [if_neg hok], by simpa using hok⟩
    rw [ht] at ha
    have HA := Lib.hid ha
    clear ha ht hok
    go_enter Try.func18, Try.ntmps18
    go_wp2_with fail
    refine (HA.out _).mono ?_
    rintro e w2 ⟨rfl, hg⟩
    have HRX := Lib.hid (HR0.out.on hg)
    obtain ⟨c0, c1⟩ := two HRX.out.par
    clear hg
    obtain ⟨c0, c1⟩ := two HRX.out.par
    obtain ⟨⟨p0, r0⟩, ⟨p1, r1⟩, o0, o1⟩ := put2_on HRX.out.res (.int .i64 l) (.int .i64 m)
    go_wp2
    try simp only [Exit.inBlock, Exit.then]
    exact ret_box1 rfl rfl (put2_box (x' := .int .i64 l) (y' := .int .i64 m) HRX.out.res) Try.underlying27 rfl (by kernel_rfl) rfl ⟨by rw [HI.out.1, HI.out.2]; rfl, HRX.out.fin⟩
  · rw [ht] at ha
    have HA := Lib.hid ha
    have hy := radio_yes ht
    by_cases h1 : l ≤ h
    · by_cases h2 : h ≤ 100000
      · have hho : hearOk l m h = true := hear_mk ht h1 h2
        have e1 : (h - l).tdiv 6 = (h - l) / 6 := Int.tdiv_eq_ediv_of_nonneg (by omega)
        have e2 : IntKind.i64.wrap ((h - l) / 6) = (h - l) / 6 := IntWalk.i64_in _ (by omega)
        have e3 : IntKind.i64.wrap (h - l) = h - l := IntWalk.i64_in _ (by omega)
        have hs := fun w => sIs_any w l ((h - l) / 6)
        by_cases hm : (h - l) / 6 ≤ 1000
        · have hok : missOk l m h = true := by unfold missOk; rw [hho, decide_eq_true hm]; rfl
          have HI : Hid (missM l m h = (h - l) / 6 ∧ missOk l m h = true) := ⟨by unfold missM; rw [if_pos hok], hok⟩
          have hr2 : isRadio l ((h - l) / 6) = true := radio_mk ⟨by omega, by omega⟩
          rw [hr2] at hs
          have HS := Lib.hid hs
          clear hs hr2 hok ha ht hho
          go_enter Try.func18, Try.ntmps18
          go_wp2_with fail
          refine (HA.out _).mono ?_
          rintro e w2 ⟨rfl, hg⟩
          have HRX := Lib.hid (HR0.out.on hg)
          obtain ⟨c0, c1⟩ := two HRX.out.par
          clear hg
          have HN := Lib.hid (HRX.out.next (x' := l) (y' := (h - l) / 6))
          obtain ⟨d0, d1⟩ := two HN.out.2
          go_wp2_with fail
          refine (HS.out _).mono ?_
          rintro e w5 ⟨rfl, hg⟩
          have HRZ := Lib.hid (HN.out.1.on hg)
          have HBZ := Lib.hid (HN.out.2.grown hg)
          clear d0 d1 HN HRX hg
          obtain ⟨d0, d1⟩ := two HBZ.out
          have HRX := HRZ
          clear HRZ
          obtain ⟨c0, c1⟩ := two HRX.out.par
          obtain ⟨⟨p0, r0⟩, ⟨p1, r1⟩, o0, o1⟩ := put2_on HRX.out.res (.int .i64 l) (.int .i64 ((h - l) / 6))
          go_wp2
          try simp only [Exit.inBlock, Exit.then]
          exact ret_box1 rfl rfl (put2_box (x' := .int .i64 l) (y' := .int .i64 ((h - l) / 6)) HRX.out.res) Try.underlying27 rfl (by kernel_rfl) rfl ⟨by rw [HI.out.1, HI.out.2]; rfl, HRX.out.fin⟩
        · have hok : ¬ missOk l m h = true := fun e => hm (miss_yes e).2
          have HI : Hid (missM l m h = m ∧ missOk l m h = false) := ⟨by unfold missM; rw [if_neg hok], by simpa using hok⟩
          have hr2 : isRadio l ((h - l) / 6) = false := radio_no (fun e => hm e.2.2)
          rw [hr2] at hs
          have HS := Lib.hid hs
          clear hs hr2 hok ha ht hho
          go_enter Try.func18, Try.ntmps18
          go_wp2_with fail
          refine (HA.out _).mono ?_
          rintro e w2 ⟨rfl, hg⟩
          have HRX := Lib.hid (HR0.out.on hg)
          obtain ⟨c0, c1⟩ := two HRX.out.par
          clear hg
          have HN := Lib.hid (HRX.out.next (x' := l) (y' := (h - l) / 6))
          obtain ⟨d0, d1⟩ := two HN.out.2
          go_wp2_with fail
          refine (HS.out _).mono ?_
          rintro e w5 ⟨rfl, hg⟩
          have HRZ := Lib.hid (HN.out.1.on hg)
          have HBZ := Lib.hid (HN.out.2.grown hg)
          clear d0 d1 HN HRX hg
          obtain ⟨d0, d1⟩ := two HBZ.out
          have HRX := HRZ
          clear HRZ
          obtain ⟨c0, c1⟩ := two HRX.out.par
          obtain ⟨⟨p0, r0⟩, ⟨p1, r1⟩, o0, o1⟩ := put2_on HRX.out.res (.int .i64 l) (.int .i64 m)
          go_wp2
          try simp only [Exit.inBlock, Exit.then]
          exact ret_box1 rfl rfl (put2_box (x' := .int .i64 l) (y' := .int .i64 m) HRX.out.res) Try.underlying27 rfl (by kernel_rfl) rfl ⟨by rw [HI.out.1, HI.out.2]; rfl, HRX.out.fin⟩
      · have hok : ¬ missOk l m h = true := fun e => h2 (hear_yes (miss_yes e).1).2.2
        have HI : Hid (missM l m h = m ∧ missOk l m h = false) := ⟨by unfold missM; rw [if_neg hok], by simpa using hok⟩
        clear ha ht hok
        go_enter Try.func18, Try.ntmps18
        go_wp2_with fail
        refine (HA.out _).mono ?_
        rintro e w2 ⟨rfl, hg⟩
        have HRX := Lib.hid (HR0.out.on hg)
        obtain ⟨c0, c1⟩ := two HRX.out.par
        clear hg
        obtain ⟨c0, c1⟩ := two HRX.out.par
        obtain ⟨⟨p0, r0⟩, ⟨p1, r1⟩, o0, o1⟩ := put2_on HRX.out.res (.int .i64 l) (.int .i64 m)
        go_wp2
        try simp only [Exit.inBlock, Exit.then]
        exact ret_box1 rfl rfl (put2_box (x' := .int .i64 l) (y' := .int .i64 m) HRX.out.res) Try.underlying27 rfl (by kernel_rfl) rfl ⟨by rw [HI.out.1, HI.out.2]; rfl, HRX.out.fin⟩
    · have hok : ¬ missOk l m h = true := fun e => h1 (hear_yes (miss_yes e).1).2.1
      have HI : Hid (missM l m h = m ∧ missOk l m h = false) := ⟨by unfold missM; rw [if_neg hok], by simpa using hok⟩
      clear ha ht hok
      go_enter Try.func18, Try.ntmps18
      go_wp2_with fail
      refine (HA.out _).mono ?_
      rintro e w2 ⟨rfl, hg⟩
      have HRX := Lib.hid (HR0.out.on hg)
      obtain ⟨c0, c1⟩ := two HRX.out.par
      clear hg
      obtain ⟨c0, c1⟩ := two HRX.out.par
      obtain ⟨⟨p0, r0⟩, ⟨p1, r1⟩, o0, o1⟩ := put2_on HRX.out.res (.int .i64 l) (.int .i64 m)
      go_wp2
      try simp only [Exit.inBlock, Exit.then]
      exact ret_box1 rfl rfl (put2_box (x' := .int .i64 l) (y' := .int .i64 m) HRX.out.res) Try.underlying27 rfl (by kernel_rfl) rfl ⟨by rw [HI.out.1, HI.out.2]; rfl, HRX.out.fin⟩
end Go.Proofs.Ytnjlgnbhjhfohaa.RadI
