/- Contracts of the program's searches on the tides: closures, a jump back, a crossing. -/
import Derived.Test.YtkbgbllcekmfcaaTideI
import Derived.WalkMore
import Derived.ScopeJumps
namespace Go.Proofs.Ytkbgbllcekmfcaa.TideI
open Go.RowKit Kit Rw Md Tid Tw

set_option maxHeartbeats 1000000 in
theorem iCross_any (w : World) (h k n l : Int) (hn64 : -9223372036854775808 ≤ n ∧ n ≤ 9223372036854775807) :
    Calls Try.prog 20 #[.agg #[.int .i64 h, .int .i64 k], .int .i64 n, .int .i64 l] w fun e w' => e = .returned (.bool (canCross h k n l)) ∧ w.grownBy w' none := by
  have hgr := World.grownBy_alloc w (.cells #[.int .i64 h, .int .i64 k] 25 (0, 0)) none
  have HG := Lib.hid hgr
  have HB := Lib.hid (box_new w #[.int .i64 h, .int .i64 k] 25)
  clear hgr
  obtain ⟨c0, c1⟩ := two HB.out
  have hb := fun w => inRange_any l 0 100 w
  by_cases hl : 0 ≤ l ∧ l ≤ 100
  · have HL : Hid (canCross h k n l = dryFor h k n (l.toNat + 1)) := by show _ = _; unfold canCross longOk; rw [decide_eq_true hl, Bool.true_and]
    rw [decide_eq_true hl] at hb
    have HB1 := Lib.hid hb
    clear hb
    go_enter Try.func20, Try.ntmps20
    go_wp2_with fail
    refine (HB1.out _).mono ?_
    rintro e w2 ⟨rfl, rfl⟩
    go_wp2
    go_loopw [13] (fun i wr => ∃ j : Nat, i = .int .i64 j ∧ j ≤ l.toNat + 1 ∧ Hid (dryFor h k n j = true) ∧ Hid ((w.alloc (.cells #[.int .i64 h, .int .i64 k] 25 (0, 0))).grownBy wr none)) (fun i _ => (l + 1 - intOf i).toNat)
    case atStart => exact ⟨0, by go_num, Nat.zero_le _, rfl, World.grownBy.refl _ _⟩
    case round =>
      obtain ⟨j, rfl, hj, HD, HGR⟩ := hrel
      obtain ⟨c0, c1⟩ := two (HB.out.grown HGR.out)
      by_cases hlt : j < l.toNat + 1
      · have hjl : (j : Int) < l + 1 := by omega
        have hnj : IntKind.i64.wrap (n + (j : Int)) = n + (j : Int) := by
          apply IntWalk.i64_in
          by_cases hj0 : j = 0
          · omega
          · have h0 := dryFor_at HD.out 0 (by omega)
            have h1 := (dryOk_yes (isDry_ok h0)).2
            omega
        go_wp2_with fail
        (try rw [hnj])
        refine (iDry_any _ h k (n + j)).mono ?_
        rintro e w3 ⟨rfl, hg⟩
        have HG3 := Lib.hid (grownN_trans HGR.out hg)
        clear hg
        cases hd : isDry h k (n + j)
        · have HI : Hid (dryFor h k n (l.toNat + 1) = false) := dryFor_no hlt hd
          go_wp2
          go_ret
          exact ⟨ret_bool (by rw [HL.out, HI.out]), grownN_trans HG.out HG3.out⟩
        · have HI : Hid (dryFor h k n (j + 1) = true) := dryFor_next HD.out hd
          go_wp2
          go_roundw
          case rel => exact ⟨j + 1, by go_num, by omega, HI, HG3⟩
          case measure => simp [intOf]; omega
      · have hje : j = l.toNat + 1 := by omega
        have hjl : ¬ (j : Int) < l + 1 := by omega
        subst hje
        go_wp2
        go_ret
        exact ⟨ret_bool (by rw [HL.out, HD.out]), grownN_trans HG.out HGR.out⟩
  · have HI : Hid (canCross h k n l = false) := by show _ = _; unfold canCross longOk; rw [decide_eq_false hl, Bool.false_and]
    rw [decide_eq_false hl] at hb
    have HB1 := Lib.hid hb
    clear hb
    go_enter Try.func20, Try.ntmps20
    go_wp2_with fail
    refine (HB1.out _).mono ?_
    rintro e w2 ⟨rfl, rfl⟩
    go_wp2
    go_ret
    exact ⟨ret_bool HI.out.symm, HG.out⟩

set_option maxHeartbeats 1000000 in
theorem wet1_any (w : World) (b : Nat) (h k n : Int) (hb : Box w b #[.int .i64 h, .int .i64 k] 25) (hk : isTide h k = true) (hn : 0 ≤ n ∧ n ≤ 1000000) :
    Calls Try.prog 41 #[.int .i64 n, .pointer (some ⟨b, 0, none⟩)] w fun e w' => e = .returned (.bool (!isWet h k n)) ∧ w.grownBy w' none := by
  obtain ⟨c0, c1⟩ := two hb
  have HK := Lib.hid hk
  clear hb hk
  go_enter Try.func41, Try.ntmps41
  go_wp2_with fail
  refine (isWet_any _ h k n HK.out hn).mono ?_
  rintro e w2 ⟨rfl, hg⟩
  have HG2 := Lib.hid hg
  clear hg
  go_wp2
  go_ret
  exact ⟨rfl, HG2.out⟩
set_option maxHeartbeats 1000000 in
theorem cross1_any (w : World) (b c : Nat) (h k n l : Int) (hb : Box w b #[.int .i64 h, .int .i64 k] 25) (hc : w.cell? ⟨c, 0, none⟩ = some (.int .i64 l)) (hn64 : -9223372036854775808 ≤ n ∧ n ≤ 9223372036854775807) :
    Calls Try.prog 42 #[.int .i64 n, .pointer (some ⟨b, 0, none⟩), .pointer (some ⟨c, 0, none⟩)] w fun e w' => e = .returned (.bool (canCross h k n l)) ∧ w.grownBy w' none := by
  obtain ⟨c0, c1⟩ := two hb
  clear hb
  go_enter Try.func42, Try.ntmps42
  go_wp2_with fail
  refine (iCross_any _ h k n l hn64).mono ?_
  rintro e w2 ⟨rfl, hg⟩
  have HG2 := Lib.hid hg
  clear hg
  go_wp2
  go_ret
  exact ⟨rfl, HG2.out⟩


set_option maxRecDepth 20000 in
set_option maxHeartbeats 1000000 in
theorem firstDry_any (w : World) (b : Nat) (h k n : Int) (hb : Box w b #[.int .i64 h, .int .i64 k] 25) (hk : isTide h k = true) (hn : 0 ≤ n ∧ n ≤ 100000) :
    Calls Try.prog 40 #[.int .i64 n, .func (.func 41) #[] #[.pointer (some ⟨b, 0, none⟩)]] w fun e w' => e = .returned (.int .i64 (firstOf (fun x => !isWet h k x) n 13)) ∧ w.grownBy w' none := by
  have HB := Lib.hid hb
  have HK := Lib.hid hk
  clear hb hk
  go_enter Try.func40, Try.ntmps40
  go_wp2
  refine wp_scope_jumps 0 (fun a wr => Hid (w.grownBy wr none) ∧ ∃ (j : Nat) (u6 u7 u8 u9 u10 u11 u12 u13 u14 u15 u16 u17 : Value), j ≤ 13 ∧ Hid (missed (fun x => !isWet h k x) n j) ∧ a = { tmps := #[.int .i64 n, .func (.func 41) #[] #[.pointer (some ⟨b, 0, none⟩)], undef, undef, .int .i64 0, .int .i64 (n + (j : Int)), u6, u7, u8, u9, u10, u11, u12, u13, u14, u15, u16, u17], defers := [] }) (fun a _ => (n + 13 - intOf (a.tmps.getD 5 undef)).toNat) rfl ?_ ?_
  · have HGR := Lib.hid (World.grownBy.refl w none)
    go_wp2
    go_step3
    go_wp2_with fail
    refine (wet1_any _ b h k n HB.out HK.out (by omega)).mono ?_
    rintro e w3 ⟨rfl, hg⟩
    have HG3 := Lib.hid (grownN_trans HGR.out hg)
    clear hg
    cases hd : isWet h k n
    · have HN : Hid (firstOf (fun x => !isWet h k x) n 13 = n) := by show _ = _; have := missed_hit (k := 13) (missed_0 (fun x => !isWet h k x) n) (by omega) (by simpa using hd); simpa using this
      go_wp2
      simp only [Exit.jump]
      go_ret
      exact ⟨ret_i64 HN.out.symm, HG3.out⟩
    · have HN : Hid (missed (fun x => !isWet h k x) n 1) := by show missed _ _ (0 + 1); exact missed_next (missed_0 _ _) (by simpa using hd)
      go_wp2
      go_step3
      refine ⟨rfl, HG3, 1, _, _, _, _, _, _, _, _, _, _, _, _, by omega, HN, rfl⟩
  · rintro a wr ⟨HGR, j, u6, u7, u8, u9, u10, u11, u12, u13, u14, u15, u16, u17, hj, HM, rfl⟩
    have HBR := Lib.hid (HB.out.grown HGR.out)
    by_cases hlt : j < 13
    · have hjl : ¬ n + 12 < n + (j : Int) := by omega
      go_wp2_with fail
      refine (wet1_any _ b h k (n + j) HBR.out HK.out (by omega)).mono ?_
      rintro e w3 ⟨rfl, hg⟩
      have HG3 := Lib.hid (grownN_trans HGR.out hg)
      clear hg
      cases hd : isWet h k (n + (j : Int))
      · have HN : Hid (firstOf (fun x => !isWet h k x) n 13 = n + (j : Int)) := missed_hit HM.out hlt (by simpa using hd)
        go_wp2
        simp only [Exit.jump]
        go_ret
        exact ⟨ret_i64 HN.out.symm, HG3.out⟩
      · have HN : Hid (missed (fun x => !isWet h k x) n (j + 1)) := missed_next HM.out (by simpa using hd)
        go_wp2
        go_step3
        rw [show n + (j : Int) + 1 = n + ((j + 1 : Nat) : Int) by omega]
        refine ⟨rfl, ⟨HG3, j + 1, _, _, _, _, _, _, _, _, _, _, _, _, by omega, HN, rfl⟩, ?_⟩
        · simp [intOf]; omega
    · have hje : j = 13 := by omega
      subst hje
      have HN : Hid (firstOf (fun x => !isWet h k x) n 13 = -1) := missed_all HM.out
      go_wp2
      simp only [Exit.jump]
      go_ret
      exact ⟨ret_i64 HN.out.symm, HGR.out⟩


set_option maxRecDepth 20000 in
set_option maxHeartbeats 1000000 in
theorem firstCross_any (w : World) (b c : Nat) (h k n l : Int) (hb : Box w b #[.int .i64 h, .int .i64 k] 25) (hc : Box w c #[.int .i64 l] 3) (hn : 0 ≤ n ∧ n ≤ 100000) :
    Calls Try.prog 40 #[.int .i64 n, .func (.func 42) #[] #[.pointer (some ⟨b, 0, none⟩), .pointer (some ⟨c, 0, none⟩)]] w fun e w' => e = .returned (.int .i64 (firstOf (fun x => canCross h k x l) n 13)) ∧ w.grownBy w' none := by
  have HB := Lib.hid hb
  have HC := Lib.hid hc
  clear hb hc
  go_enter Try.func40, Try.ntmps40
  go_wp2
  refine wp_scope_jumps 0 (fun a wr => Hid (w.grownBy wr none) ∧ ∃ (j : Nat) (u6 u7 u8 u9 u10 u11 u12 u13 u14 u15 u16 u17 : Value), j ≤ 13 ∧ Hid (missed (fun x => canCross h k x l) n j) ∧ a = { tmps := #[.int .i64 n, .func (.func 42) #[] #[.pointer (some ⟨b, 0, none⟩), .pointer (some ⟨c, 0, none⟩)], undef, undef, .int .i64 0, .int .i64 (n + (j : Int)), u6, u7, u8, u9, u10, u11, u12, u13, u14, u15, u16, u17], defers := [] }) (fun a _ => (n + 13 - intOf (a.tmps.getD 5 undef)).toNat) rfl ?_ ?_
  · have HGR := Lib.hid (World.grownBy.refl w none)
    go_wp2
    go_step3
    go_wp2_with fail
    refine (cross1_any _ b c h k n l HB.out (HC.out.cell 0) (by omega)).mono ?_
    rintro e w3 ⟨rfl, hg⟩
    have HG3 := Lib.hid (grownN_trans HGR.out hg)
    clear hg
    cases hd : canCross h k n l
    · have HN : Hid (missed (fun x => canCross h k x l) n 1) := by show missed _ _ (0 + 1); exact missed_next (missed_0 _ _) (by simpa using hd)
      go_wp2
      go_step3
      refine ⟨rfl, HG3, 1, _, _, _, _, _, _, _, _, _, _, _, _, by omega, HN, rfl⟩
    · have HN : Hid (firstOf (fun x => canCross h k x l) n 13 = n) := by show _ = _; have := missed_hit (k := 13) (missed_0 (fun x => canCross h k x l) n) (by omega) (by simpa using hd); simpa using this
      go_wp2
      simp only [Exit.jump]
      go_ret
      exact ⟨ret_i64 HN.out.symm, HG3.out⟩
  · rintro a wr ⟨HGR, j, u6, u7, u8, u9, u10, u11, u12, u13, u14, u15, u16, u17, hj, HM, rfl⟩
    have HBR := Lib.hid (HB.out.grown HGR.out)
    have HCR := Lib.hid (HC.out.grown HGR.out)
    by_cases hlt : j < 13
    · have hjl : ¬ n + 12 < n + (j : Int) := by omega
      go_wp2_with fail
      refine (cross1_any _ b c h k (n + j) l HBR.out (HCR.out.cell 0) (by omega)).mono ?_
      rintro e w3 ⟨rfl, hg⟩
      have HG3 := Lib.hid (grownN_trans HGR.out hg)
      clear hg
      cases hd : canCross h k (n + (j : Int)) l
      · have HN : Hid (missed (fun x => canCross h k x l) n (j + 1)) := missed_next HM.out (by simpa using hd)
        go_wp2
        go_step3
        rw [show n + (j : Int) + 1 = n + ((j + 1 : Nat) : Int) by omega]
        refine ⟨rfl, ⟨HG3, j + 1, _, _, _, _, _, _, _, _, _, _, _, _, by omega, HN, rfl⟩, ?_⟩
        · simp [intOf]; omega
      · have HN : Hid (firstOf (fun x => canCross h k x l) n 13 = n + (j : Int)) := missed_hit HM.out hlt (by simpa using hd)
        go_wp2
        simp only [Exit.jump]
        go_ret
        exact ⟨ret_i64 HN.out.symm, HG3.out⟩
    · have hje : j = 13 := by omega
      subst hje
      have HN : Hid (firstOf (fun x => canCross h k x l) n 13 = -1) := missed_all HM.out
      go_wp2
      simp only [Exit.jump]
      go_ret
      exact ⟨ret_i64 HN.out.symm, HGR.out⟩


set_option maxHeartbeats 1000000 in
theorem iNext_any (w : World) (h k n : Int) :
    Calls Try.prog 18 #[.agg #[.int .i64 h, .int .i64 k], .int .i64 n] w fun e w' => e = .returned (.int .i64 (nextDry h k n)) ∧ w.grownBy w' none := by
  have hmf : ∀ (fn : Fn) (first cap : Array Value) (w : World), (Instr.makeFunc fn first cap).run Try.prog w = .ok (.func fn first cap) w := fun _ _ _ _ => rfl
  have hgr := World.grownBy_alloc w (.cells #[.int .i64 h, .int .i64 k] 25 (0, 0)) none
  have HG := Lib.hid hgr
  have HB := Lib.hid (box_new w #[.int .i64 h, .int .i64 k] 25)
  clear hgr
  obtain ⟨c0, c1⟩ := two HB.out
  have ha := fun w => iIs_any w h k
  have hb := fun w => inRange_any n 0 100000 w
  cases ht : isTide h k
  · rw [ht] at ha
    have HA := Lib.hid ha
    have HI : Hid (nextDry h k n = -1) := by show _ = _; unfold nextDry dryOk; rw [ht]; rfl
    clear ha hb ht
    go_enter Try.func18, Try.ntmps18
    go_wp2_with fail
    refine (HA.out _).mono ?_
    rintro e w2 ⟨rfl, hg⟩
    have HG2 := Lib.hid (grownN_trans HG.out hg)
    clear hg
    go_wp2
    go_ret
    exact ⟨ret_i64 HI.out.symm, HG2.out⟩
  · rw [ht] at ha
    have HA := Lib.hid ha
    have HT := Lib.hid ht
    by_cases hn : 0 ≤ n ∧ n ≤ 100000
    · rw [decide_eq_true hn] at hb
      have HB1 := Lib.hid hb
      have HI : Hid (firstOf (fun x => !isWet h k x) n 13 = nextDry h k n) := nextDry_first (dryOk_mk ht hn.1 hn.2)
      clear ha hb ht
      go_enter Try.func18, Try.ntmps18
      go_wp2_with fail
      refine (HA.out _).mono ?_
      rintro e w2 ⟨rfl, hg⟩
      obtain ⟨c0, c1⟩ := two (HB.out.grown hg)
      have HB2 := Lib.hid (HB.out.grown hg)
      have HG2 := Lib.hid (grownN_trans HG.out hg)
      clear hg
      go_wp2_with fail
      refine (HB1.out _).mono ?_
      rintro e w2 ⟨rfl, rfl⟩
      go_wp2_with fail
      refine (firstDry_any _ _ h k n HB2.out HT.out hn).mono ?_
      rintro e w3 ⟨rfl, hg⟩
      have HG3 := Lib.hid (grownN_trans HG2.out hg)
      clear hg
      go_wp2
      go_ret
      exact ⟨ret_i64 HI.out, HG3.out⟩
    · rw [decide_eq_false hn] at hb
      have HB1 := Lib.hid hb
      have HI : Hid (nextDry h k n = -1) := by show _ = _; unfold nextDry dryOk; rw [decide_eq_false hn, Bool.and_false]; rfl
      clear ha hb ht
      go_enter Try.func18, Try.ntmps18
      go_wp2_with fail
      refine (HA.out _).mono ?_
      rintro e w2 ⟨rfl, hg⟩
      obtain ⟨c0, c1⟩ := two (HB.out.grown hg)
      have HG2 := Lib.hid (grownN_trans HG.out hg)
      clear hg
      go_wp2_with fail
      refine (HB1.out _).mono ?_
      rintro e w2 ⟨rfl, rfl⟩
      go_wp2
      go_ret
      exact ⟨ret_i64 HI.out.symm, HG2.out⟩

set_option maxHeartbeats 1000000 in
theorem iNextCross_any (w : World) (h k n l : Int) :
    Calls Try.prog 22 #[.agg #[.int .i64 h, .int .i64 k], .int .i64 n, .int .i64 l] w fun e w' => e = .returned (.int .i64 (nextCross h k n l)) ∧ w.grownBy w' none := by
  have hmf : ∀ (fn : Fn) (first cap : Array Value) (w : World), (Instr.makeFunc fn first cap).run Try.prog w = .ok (.func fn first cap) w := fun _ _ _ _ => rfl
  have h1 := World.grownBy_alloc w (.cells #[.int .i64 h, .int .i64 k] 25 (0, 0)) (none : Option Nat)
  have h2 := World.grownBy_alloc (w.alloc (.cells #[.int .i64 h, .int .i64 k] 25 (0, 0))) (.cells #[.int .i64 l] 3 (0, 0)) (none : Option Nat)
  have HB := Lib.hid ((box_new w #[.int .i64 h, .int .i64 k] 25).grown h2)
  have h3 := box_new (w.alloc (.cells #[.int .i64 h, .int .i64 k] 25 (0, 0))) #[.int .i64 l] 3
  simp only [World.size_alloc] at h3
  have HC := Lib.hid h3
  have HG := Lib.hid (grownN_trans h1 h2)
  clear h1 h2 h3
  have hb := fun w => inRange_any n 0 90000 w
  by_cases hn : 0 ≤ n ∧ n ≤ 90000
  · rw [decide_eq_true hn] at hb
    have HB1 := Lib.hid hb
    have HI : Hid (nextCross h k n l = firstOf (fun x => canCross h k x l) n 13) := by show _ = _; unfold nextCross startOk; rw [if_pos (decide_eq_true hn)]
    clear hb
    go_enter Try.func22, Try.ntmps22
    go_wp2_with fail
    refine (HB1.out _).mono ?_
    rintro e w2 ⟨rfl, rfl⟩
    go_wp2_with fail
    refine (firstCross_any _ _ _ h k n l HB.out HC.out (by omega)).mono ?_
    rintro e w3 ⟨rfl, hg⟩
    have HG3 := Lib.hid (grownN_trans HG.out hg)
    clear hg
    go_wp2
    go_ret
    exact ⟨ret_i64 HI.out.symm, HG3.out⟩
  · rw [decide_eq_false hn] at hb
    have HB1 := Lib.hid hb
    have HI : Hid (nextCross h k n l = -1) := by show _ = _; unfold nextCross startOk; rw [if_neg (by rw [decide_eq_true_iff]; exact hn)]
    clear hb
    go_enter Try.func22, Try.ntmps22
    go_wp2_with fail
    refine (HB1.out _).mono ?_
    rintro e w2 ⟨rfl, rfl⟩
    go_wp2
    go_ret
    exact ⟨ret_i64 HI.out.symm, HG.out⟩
end Go.Proofs.Ytkbgbllcekmfcaa.TideI
