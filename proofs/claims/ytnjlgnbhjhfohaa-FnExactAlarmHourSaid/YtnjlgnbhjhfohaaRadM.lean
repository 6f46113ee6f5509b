/- Contracts of what is heard and missed, of the program and of its model. -/
import Derived.Test.YtnjlgnbhjhfohaaRadJ
namespace Go.Proofs.Ytnjlgnbhjhfohaa.RadI
open Go.RowKit Kit Rw Md Rad Tw

set_option maxHeartbeats 1000000 in
theorem hear_any (w : World) (b : Nat) (x y h : Int) (hb : Box w b #[.int .i64 x, .int .i64 y] 27) :
    Calls Try.prog 30 #[.pointer (some ⟨b, 0, none⟩), .int .i64 h] w fun e w' => e = .returned (.tuple #[]) ∧ Box w' b #[.int .i64 h, .int .i64 0] 27 ∧ w.grownBy w' (some b) := by
  have HB := Lib.hid hb
  obtain ⟨⟨p0, r0⟩, ⟨p1, r1⟩, o0, o1⟩ := put2_on hb (.int .i64 h) (.int .i64 0)
  clear hb
  go_enter Try.func30, Try.ntmps30
  go_wp2
  refine bodyPost_end (results_none rfl _ _ _) rfl ?_
  exact ⟨rfl, put2_box (x' := .int .i64 h) (y' := .int .i64 0) HB.out, put2_grown _ _ _ _⟩
set_option maxHeartbeats 1000000 in
theorem miss_any (w : World) (b : Nat) (x y h : Int) (hb : Box w b #[.int .i64 x, .int .i64 y] 27) (hx : 0 ≤ x ∧ x ≤ h ∧ h ≤ 100000) :
    Calls Try.prog 31 #[.pointer (some ⟨b, 0, none⟩), .int .i64 h] w fun e w' => e = .returned (.tuple #[]) ∧ Box w' b #[.int .i64 x, .int .i64 ((h - x) / 6)] 27 ∧ w.grownBy w' (some b) := by
  have HB := Lib.hid hb
  obtain ⟨c0, c1⟩ := two hb
  have f1 := hb.free 1
  have e1 : (h - x).tdiv 6 = (h - x) / 6 := Int.tdiv_eq_ediv_of_nonneg (by omega)
  have e2 : IntKind.i64.wrap ((h - x) / 6) = (h - x) / 6 := IntWalk.i64_in _ (by omega)
  have e3 : IntKind.i64.wrap (h - x) = h - x := IntWalk.i64_in _ (by omega)
  clear hb
  go_enter Try.func31, Try.ntmps31
  go_wp2
  refine bodyPost_end (results_none rfl _ _ _) rfl ?_
  exact ⟨rfl, two_set1 (u := .int .i64 ((h - x) / 6)) HB.out, grown_set _ _ _ _⟩

set_option maxRecDepth 20000 in
set_option maxHeartbeats 2000000 in
theorem at_hear (w : World) (l m h : Int) :
    Calls Try.prog 29 #[.agg #[.int .i64 l, .int .i64 m], .int .i64 h, .func (.func 30) #[] #[]] w fun e w' => e = .returned (.tuple #[.agg #[.int .i64 (hearL l m h), .int .i64 (hearM l m h)], .bool (hearOk l m h)]) ∧ w.grownBy w' none := by
  have HR0 := Lib.hid (HR.start (w := w) (l := l) (m := m))
  obtain ⟨c0, c1⟩ := two HR0.out.par
  have ha := fun w => iIs_any w l m
  have he := fun w => inRange_any h l 100000 w
  cases ht : isRadio l m
  · have hok : ¬ hearOk l m h = true := fun e => by simp [hearOk, ht] at e
    have HI : Hid (hearL l m h = l ∧ hearM l m h = m ∧ hearOk l m h = false) := ⟨by unfold hearL; rw [if_neg hok], by unfold hearM; rw [if_neg hok], by simpa using hok⟩
    rw [ht] at ha
    have HA := Lib.hid ha
    clear ha ht hok he
    go_enter Try.func29, Try.ntmps29
    go_wp2_with fail
    refine (HA.out _).mono ?_
    rintro e w2 ⟨rfl, hg⟩
    have HRX := Lib.hid (HR0.out.on hg)
    obtain ⟨c0, c1⟩ := two HRX.out.par
    clear hg
    obtain ⟨c0, c1⟩ := two HRX.out.par
    obtain ⟨⟨p0, r0⟩, ⟨p1, r1⟩, o0, o1⟩ := put2_on HRX.out.res (.int .i64 l) (.int .i64 m)
    go_wp2
    try simp only [Exit.inBlock, Exit.then]
    exact ret_box1 rfl rfl (put2_box (x' := .int .i64 l) (y' := .int .i64 m) HRX.out.res) Try.underlying27 rfl (by kernel_rfl) rfl ⟨by rw [HI.out.1, HI.out.2.1, HI.out.2.2]; rfl, HRX.out.fin⟩
  · rw [ht] at ha
    have HA := Lib.hid ha
    have hy := radio_yes ht
    by_cases hh : l ≤ h ∧ h ≤ 100000
    · have hho : hearOk l m h = true := hear_mk ht hh.1 hh.2
      simp only [decide_eq_true hh] at he
      have HE1 := Lib.hid he
      have hok := hho
      have HI : Hid (hearL l m h = h ∧ hearM l m h = 0 ∧ hearOk l m h = true) := ⟨by unfold hearL; rw [if_pos hok], by unfold hearM; rw [if_pos hok], hok⟩
      have hr2 : isRadio h 0 = true := radio_mk ⟨by omega, by omega⟩
      have hs := fun w => iIs_any w h 0
      rw [hr2] at hs
      have HS := Lib.hid hs
      clear hs hr2 hok ha ht hho he
      go_enter Try.func29, Try.ntmps29
      go_wp2_with fail
      refine (HA.out _).mono ?_
      rintro e w2 ⟨rfl, hg⟩
      have HRX := Lib.hid (HR0.out.on hg)
      obtain ⟨c0, c1⟩ := two HRX.out.par
      clear hg
      go_wp2_with fail
      refine (HE1.out _).mono ?_
      rintro e w3 ⟨rfl, rfl⟩
      have HN := Lib.hid (HRX.out.next (x' := l) (y' := m))
      have hlt := HRX.out.res.lt
      go_wp2_with fail
      refine (hear_any _ _ l m h HN.out.2).mono ?_
      rintro e w4 ⟨rfl, hb, hg⟩
      have HRY := Lib.hid (HN.out.1.kept hg (by omega))
      have HBY := Lib.hid hb
      clear hb hg HN hlt
      obtain ⟨d0, d1⟩ := two HBY.out
      go_wp2_with fail
      refine (HS.out _).mono ?_
      rintro e w5 ⟨rfl, hg⟩
      have HRZ := Lib.hid (HRY.out.on hg)
      obtain ⟨d0, d1⟩ := two (HBY.out.grown hg)
      clear hg HRX
      have HRX := HRZ
      clear HRZ HRY
      obtain ⟨c0, c1⟩ := two HRX.out.par
      obtain ⟨⟨p0, r0⟩, ⟨p1, r1⟩, o0, o1⟩ := put2_on HRX.out.res (.int .i64 h) (.int .i64 0)
      go_wp2
      try simp only [Exit.inBlock, Exit.then]
      exact ret_box1 rfl rfl (put2_box (x' := .int .i64 h) (y' := .int .i64 0) HRX.out.res) Try.underlying27 rfl (by kernel_rfl) rfl ⟨by rw [HI.out.1, HI.out.2.1, HI.out.2.2]; rfl, HRX.out.fin⟩
    · have hok : ¬ hearOk l m h = true := fun e => hh (hear_yes e).2
      have HI : Hid (hearL l m h = l ∧ hearM l m h = m ∧ hearOk l m h = false) := ⟨by unfold hearL; rw [if_neg hok], by unfold hearM; rw [if_neg hok], by simpa using hok⟩
      simp only [decide_eq_false hh] at he
      have HE1 := Lib.hid he
      clear ha ht hok hh he
      go_enter Try.func29, Try.ntmps29
      go_wp2_with fail
      refine (HA.out _).mono ?_
      rintro e w2 ⟨rfl, hg⟩
      have HRX := Lib.hid (HR0.out.on hg)
      obtain ⟨c0, c1⟩ := two HRX.out.par
      clear hg
      go_wp2_with fail
      refine (HE1.out _).mono ?_
      rintro e w3 ⟨rfl, rfl⟩
      obtain ⟨c0, c1⟩ := two HRX.out.par
      obtain ⟨⟨p0, r0⟩, ⟨p1, r1⟩, o0, o1⟩ := put2_on HRX.out.res (.int .i64 l) (.int .i64 m)
      go_wp2
      try simp only [Exit.inBlock, Exit.then]
      exact ret_box1 rfl rfl (put2_box (x' := .int .i64 l) (y' := .int .i64 m) HRX.out.res) Try.underlying27 rfl (by kernel_rfl) rfl ⟨by rw [HI.out.1, HI.out.2.1, HI.out.2.2]; rfl, HRX.out.fin⟩

set_option maxRecDepth 20000 in
set_option maxHeartbeats 1000000 in
theorem iHear_any (w : World) (l m h : Int) :
    Calls Try.prog 16 #[.agg #[.int .i64 l, .int .i64 m], .int .i64 h] w fun e w' => e = .returned (.tuple #[.agg #[.int .i64 (hearL l m h), .int .i64 (hearM l m h)], .bool (hearOk l m h)]) ∧ w.grownBy w' none := by
  have HR0 := Lib.hid (HR.start (w := w) (l := l) (m := m))
  obtain ⟨c0, c1⟩ := two HR0.out.par
  go_enter Try.func16, Try.ntmps16
  go_wp2_with fail
  refine (at_hear _ l m h).mono ?_
  rintro e w2 ⟨rfl, hg⟩
  have HRX := Lib.hid (HR0.out.on hg)
  clear hg HR0 c0 c1
  obtain ⟨x, hx⟩ : ∃ x, x = hearL l m h := ⟨_, rfl⟩
  obtain ⟨y, hy⟩ : ∃ y, y = hearM l m h := ⟨_, rfl⟩
  obtain ⟨b, hb⟩ : ∃ b, b = hearOk l m h := ⟨_, rfl⟩
  rw [← hx, ← hy, ← hb]
  have HX := Lib.hid hx
  have HY := Lib.hid hy
  have HB := Lib.hid hb
  clear hx hy hb
  obtain ⟨⟨p0, r0⟩, ⟨p1, r1⟩, o0, o1⟩ := put2_on HRX.out.res (.int .i64 x) (.int .i64 y)
  go_wp2
  try simp only [Exit.inBlock, Exit.then]
  exact ret_box1 rfl rfl (put2_box (x' := .int .i64 x) (y' := .int .i64 y) HRX.out.res) Try.underlying27 rfl (by kernel_rfl) rfl ⟨by rw [← HX.out, ← HY.out, ← HB.out]; rfl, HRX.out.fin⟩

set_option maxRecDepth 20000 in
set_option maxHeartbeats 2000000 in
theorem at_miss (w : World) (l m h : Int) :
    Calls Try.prog 29 #[.agg #[.int .i64 l, .int .i64 m], .int .i64 h, .func (.func 31) #[] #[]] w fun e w' => e = .returned (.tuple #[.agg #[.int .i64 (l), .int .i64 (missM l m h)], .bool (missOk l m h)]) ∧ w.grownBy w' none := by
  have HR0 := Lib.hid (HR.start (w := w) (l := l) (m := m))
  obtain ⟨c0, c1⟩ := two HR0.out.par
  have ha := fun w => iIs_any w l m
  have he := fun w => inRange_any h l 100000 w
  cases ht : isRadio l m
  · have hok : ¬ missOk l m h = true := fun e => by simp [missOk, hearOk, ht] at e
    have HI : Hid (missM l m h = m ∧ missOk l m h = false) := ⟨by unfold missM; rw [if_neg hok], by simpa using hok⟩
    rw [ht] at ha
    have HA := Lib.hid ha
    clear ha ht hok he
    go_enter Try.func29, Try.ntmps29
    go_wp2_with fail
    refine (HA.out _).mono ?_
    rintro e w2 ⟨rfl, hg⟩
    have HRX := Lib.hid (HR0.out.on hg)
    obtain ⟨c0, c1⟩ := two HRX.out.par
    clear hg
    obtain ⟨c0, c1⟩ := two HRX.out.par
    obtain ⟨⟨p0, r0⟩, ⟨p1, r1⟩, o0, o1⟩ := put2_on HRX.out.res (.int .i64 l) (.int .i64 m)
    go_wp2
    try simp only [Exit.inBlock, Exit.then]
    exact ret_box1 rfl rfl (put2_box (x' := .int .i64 l) (y' := .int .i64 m) HRX.out.res) Try.underlying27 rfl (by kernel_rfl) rfl ⟨by rw [HI.out.1, HI.out.2]; rfl, HRX.out.fin⟩
  · rw [ht] at ha
    have HA := Lib.hid ha
    have hy := radio_yes ht
    by_cases hh : l ≤ h ∧ h ≤ 100000
    · have hho : hearOk l m h = true := hear_mk ht hh.1 hh.2
      simp only [decide_eq_true hh] at he
      have HE1 := Lib.hid he
      have hs := fun w => iIs_any w l ((h - l) / 6)
      by_cases hm : (h - l) / 6 ≤ 1000
      · have hok : missOk l m h = true := by unfold missOk; rw [hho, decide_eq_true hm]; rfl
        have HI : Hid (missM l m h = (h - l) / 6 ∧ missOk l m h = true) := ⟨by unfold missM; rw [if_pos hok], hok⟩
        have hr2 : isRadio l ((h - l) / 6) = true := radio_mk ⟨by omega, by omega⟩
        rw [hr2] at hs
        have HS := Lib.hid hs
        clear hs hr2 hok ha ht hho he
        go_enter Try.func29, Try.ntmps29
        go_wp2_with fail
        refine (HA.out _).mono ?_
        rintro e w2 ⟨rfl, hg⟩
        have HRX := Lib.hid (HR0.out.on hg)
        obtain ⟨c0, c1⟩ := two HRX.out.par
        clear hg
        go_wp2_with fail
        refine (HE1.out _).mono ?_
        rintro e w3 ⟨rfl, rfl⟩
        have HN := Lib.hid (HRX.out.next (x' := l) (y' := m))
        have hlt := HRX.out.res.lt
        go_wp2_with fail
        refine (miss_any _ _ l m h HN.out.2 (by omega)).mono ?_
        rintro e w4 ⟨rfl, hb, hg⟩
        have HRY := Lib.hid (HN.out.1.kept hg (by omega))
        have HBY := Lib.hid hb
        clear hb hg HN hlt
        obtain ⟨d0, d1⟩ := two HBY.out
        go_wp2_with fail
        refine (HS.out _).mono ?_
        rintro e w5 ⟨rfl, hg⟩
        have HRZ := Lib.hid (HRY.out.on hg)
        obtain ⟨d0, d1⟩ := two (HBY.out.grown hg)
        clear hg HRX
        have HRX := HRZ
        clear HRZ HRY
        obtain ⟨c0, c1⟩ := two HRX.out.par
        obtain ⟨⟨p0, r0⟩, ⟨p1, r1⟩, o0, o1⟩ := put2_on HRX.out.res (.int .i64 l) (.int .i64 ((h - l) / 6))
        go_wp2
        try simp only [Exit.inBlock, Exit.then]
        exact ret_box1 rfl rfl (put2_box (x' := .int .i64 l) (y' := .int .i64 ((h - l) / 6)) HRX.out.res) Try.underlying27 rfl (by kernel_rfl) rfl ⟨by rw [HI.out.1, HI.out.2]; rfl, HRX.out.fin⟩
      · have hok : ¬ missOk l m h = true := fun e => hm (miss_yes e).2
        have HI : Hid (missM l m h = m ∧ missOk l m h = false) := ⟨by unfold missM; rw [if_neg hok], by simpa using hok⟩
        have hr2 : isRadio l ((h - l) / 6) = false := radio_no (fun e => hm e.2.2)
        rw [hr2] at hs
        have HS := Lib.hid hs
        clear hs hr2 hok ha ht hho he
        go_enter Try.func29, Try.ntmps29
        go_wp2_with fail
        refine (HA.out _).mono ?_
        rintro e w2 ⟨rfl, hg⟩
        have HRX := Lib.hid (HR0.out.on hg)
        obtain ⟨c0, c1⟩ := two HRX.out.par
        clear hg
        go_wp2_with fail
        refine (HE1.out _).mono ?_
        rintro e w3 ⟨rfl, rfl⟩
        have HN := Lib.hid (HRX.out.next (x' := l) (y' := m))
        have hlt := HRX.out.res.lt
        go_wp2_with fail
        refine (miss_any _ _ l m h HN.out.2 (by omega)).mono ?_
        rintro e w4 ⟨rfl, hb, hg⟩
        have HRY := Lib.hid (HN.out.1.kept hg (by omega))
        have HBY := Lib.hid hb
        clear hb hg HN hlt
        obtain ⟨d0, d1⟩ := two HBY.out
        go_wp2_with fail
        refine (HS.out _).mono ?_
        rintro e w5 ⟨rfl, hg⟩
        have HRZ := Lib.hid (HRY.out.on hg)
        obtain ⟨d0, d1⟩ := two (HBY.out.grown hg)
        clear hg HRX
        have HRX := HRZ
        clear HRZ HRY
        obtain ⟨c0, c1⟩ := two HRX.out.par
        obtain ⟨⟨p0, r0⟩, ⟨p1, r1⟩, o0, o1⟩ := put2_on HRX.out.res (.int .i64 l) (.int .i64 m)
        go_wp2
        try simp only [Exit.inBlock, Exit.then]
        exact ret_box1 rfl rfl (put2_box (x' := .int .i64 l) (y' := .int .i64 m) HRX.out.res) Try.underlying27 rfl (by kernel_rfl) rfl ⟨by rw [HI.out.1, HI.out.2]; rfl, HRX.out.fin⟩
    · have hok : ¬ missOk l m h = true := fun e => hh (hear_yes (miss_yes e).1).2
      have HI : Hid (missM l m h = m ∧ missOk l m h = false) := ⟨by unfold missM; rw [if_neg hok], by simpa using hok⟩
      simp only [decide_eq_false hh] at he
      have HE1 := Lib.hid he
      clear ha ht hok hh he
      go_enter Try.func29, Try.ntmps29
      go_wp2_with fail
      refine (HA.out _).mono ?_
      rintro e w2 ⟨rfl, hg⟩
      have HRX := Lib.hid (HR0.out.on hg)
      obtain ⟨c0, c1⟩ := two HRX.out.par
      clear hg
      go_wp2_with fail
      refine (HE1.out _).mono ?_
      rintro e w3 ⟨rfl, rfl⟩
      obtain ⟨c0, c1⟩ := two HRX.out.par
      obtain ⟨⟨p0, r0⟩, ⟨p1, r1⟩, o0, o1⟩ := put2_on HRX.out.res (.int .i64 l) (.int .i64 m)
      go_wp2
      try simp only [Exit.inBlock, Exit.then]
      exact ret_box1 rfl rfl (put2_box (x' := .int .i64 l) (y' := .int .i64 m) HRX.out.res) Try.underlying27 rfl (by kernel_rfl) rfl ⟨by rw [HI.out.1, HI.out.2]; rfl, HRX.out.fin⟩

set_option maxRecDepth 20000 in
set_option maxHeartbeats 1000000 in
theorem iMiss_any (w : World) (l m h : Int) :
    Calls Try.prog 19 #[.agg #[.int .i64 l, .int .i64 m], .int .i64 h] w fun e w' => e = .returned (.tuple #[.agg #[.int .i64 (l), .int .i64 (missM l m h)], .bool (missOk l m h)]) ∧ w.grownBy w' none := by
  have HR0 := Lib.hid (HR.start (w := w) (l := l) (m := m))
  obtain ⟨c0, c1⟩ := two HR0.out.par
  go_enter Try.func19, Try.ntmps19
  go_wp2_with fail
  refine (at_miss _ l m h).mono ?_
  rintro e w2 ⟨rfl, hg⟩
  have HRX := Lib.hid (HR0.out.on hg)
  clear hg HR0 c0 c1
  obtain ⟨x, hx⟩ : ∃ x, x = l := ⟨_, rfl⟩
  obtain ⟨y, hy⟩ : ∃ y, y = missM l m h := ⟨_, rfl⟩
  obtain ⟨b, hb⟩ : ∃ b, b = missOk l m h := ⟨_, rfl⟩
  rw [← hy, ← hb]
  have HX := Lib.hid hx
  have HY := Lib.hid hy
  have HB := Lib.hid hb
  clear hx hy hb
  obtain ⟨⟨p0, r0⟩, ⟨p1, r1⟩, o0, o1⟩ := put2_on HRX.out.res (.int .i64 l) (.int .i64 y)
  go_wp2
  try simp only [Exit.inBlock, Exit.then]
  exact ret_box1 rfl rfl (put2_box (x' := .int .i64 l) (y' := .int .i64 y) HRX.out.res) Try.underlying27 rfl (by kernel_rfl) rfl ⟨by rw [← HY.out, ← HB.out]; rfl, HRX.out.fin⟩

end Go.Proofs.Ytnjlgnbhjhfohaa.RadI
