/- Contract of the model's WayTo. -/
import Derived.Test.YtbpiojnehomljaaG31
import Derived.Test.YtbpiojnehomljaaG15
namespace Go.Proofs.Ytbpiojnehomljaa.WayS
open Go.RowKit Kit Rw Ld Bfs Wf LandS FromS

theorem find_drop {L : List Int} {P : Int → Bool} {k : Nat} (hk : k < L.length) : (L.drop k).find? P = if P (L.getD k 0) = true then some (L.getD k 0) else (L.drop (k + 1)).find? P := by
  have e : L.getD k 0 = L[k] := by simp [hk]
  rw [List.drop_eq_getElem_cons hk, List.find?_cons, e]
  cases P L[k] <;> simp

set_option maxRecDepth 100000 in
set_option maxHeartbeats 1000000 in
theorem sWayTo_any (w : World) (W H a b : Int) (v : Value) (X : List Int) (hv : Sees .i64 w v X) :
    Calls Try.prog 47 #[.agg #[.int .i64 W, .int .i64 H, v], .int .i64 a, .int .i64 b] w fun e w' => ∃ u, e = .returned u ∧ Own .i64 3 w' w.heap.size u (wayOf W H X a b) ∧ w.grownBy w' none := by
  have hgr := grownN_trans (World.grownBy_alloc w (.cells #[.int .i64 W, .int .i64 H, v] 29 (0, 0)) none) (World.grownBy_alloc (w.alloc (.cells #[.int .i64 W, .int .i64 H, v] 29 (0, 0))) (.cells #[] 3 (0, 0)) none)
  have HG0 := Lib.hid hgr
  have HV0 := Lib.hid (hv.grown hgr)
  have HB0 := Lib.hid ((box_new w #[.int .i64 W, .int .i64 H, v] 29).grown (World.grownBy_alloc _ (.cells #[] 3 (0, 0)) none))
  have ho := own_empty (k := .i64) (E := 3) (w.alloc (.cells #[.int .i64 W, .int .i64 H, v] 29 (0, 0)))
  simp only [World.size_alloc] at ho
  have HO0 := Lib.hid ho
  have HS0 : Hid (((w.alloc (.cells #[.int .i64 W, .int .i64 H, v] 29 (0, 0))).alloc (.cells #[] 3 (0, 0))).heap.size = w.heap.size + 2) := by show _ = _; simp
  obtain ⟨va, vn, vc, hvv, HVN⟩ := hv.shape
  subst hvv
  obtain ⟨c0, c1, c2⟩ := HB0.out.three
  have HVW := Lib.hid hv
  clear hv hgr ho
  obtain ⟨i0, hi, hz0, hz1, hz2⟩ := info_parts Inf.info_i64
  go_enter Try.func47, Try.ntmps47
  go_upto_region 2 with (fail)
  generalize (w.alloc (.cells #[.int .i64 W, .int .i64 H, .slice va vn vc] 29 (0, 0))).alloc (.cells #[] 3 (0, 0)) = w1 at *
  have hs := sDays_any w1 W H a b _ X HV0.out
  by_cases hneg : daysOf W H X a b < 0
  · have HE : Hid (wayOf W H X a b = []) := by
      show _ = _
      unfold wayOf
      split
      · rename_i h
        obtain ⟨p, q, n, rfl, rfl, rfl, hn, hL, h64, _⟩ := open_nat h.1
        obtain ⟨p', q', m, e1, e2, rfl, hm, _, _, _⟩ := open_nat h.2
        unfold daysOf at hneg
        rw [if_pos h, dist_sym h.1 h.2] at hneg
        have := (dist_is hL (a := (m : Int)) (by omega) (by omega)).low (n : Int) (by omega) (by omega)
        rw [show at' (distL p X m) n = -1 by omega]
        rfl
      · rfl
    have HS := Lib.hid hs
    clear hs
    go_wp2_with fail
    refine HS.out.mono ?_
    rintro e w2 ⟨rfl, hg⟩
    have HG2 := Lib.hid (grownN_trans HG0.out hg)
    have HO2 := Lib.hid (HO0.out.grown hg)
    clear hg
    go_wp2
    go_ret
    exact ⟨_, rfl, by rw [HE.out]; exact HO2.out.lower (Nat.le_succ _), HG2.out⟩
  · have HAB : Hid (isOpen W H X a = true ∧ isOpen W H X b = true ∧ daysOf W H X a b = at' (distL W X b) a ∧ 0 ≤ at' (distL W X b) a) := by
      unfold daysOf at hneg ⊢
      split at hneg
      · rename_i h
        obtain ⟨p, q, n, rfl, rfl, rfl, hn, hL, h64, _⟩ := open_nat h.1
        obtain ⟨p', q', m, e1, e2, rfl, hm, _, _, _⟩ := open_nat h.2
        show _ ∧ _
        rw [if_pos h]
        rw [dist_sym h.1 h.2] at hneg ⊢
        exact ⟨h.1, h.2, rfl, by omega⟩
      · omega
    have HS := Lib.hid hs
    have hneg2 : ¬ daysOf W H X a b < 0 := hneg
    clear hs hneg
    go_wp2_with fail
    refine HS.out.mono ?_
    rintro e w2 ⟨rfl, hg⟩
    have HB2 := Lib.hid (HB0.out.grown hg)
    have HV2 := Lib.hid (HV0.out.grown hg)
    have HG2 := Lib.hid (grownN_trans HG0.out hg)
    have HO2 := Lib.hid (HO0.out.grown hg)
    have HZ2 : Hid (w.heap.size + 2 ≤ w2.heap.size) := by have := hg.size; rw [HS0.out] at this; exact this
    clear hg c0 c1 c2
    obtain ⟨c0, c1, c2⟩ := HB2.out.three
    go_wp2_with fail
    refine (from_any w2 W H b _ X HV2.out (isOpen_of HAB.out.2.1).1).mono ?_
    rintro e w4 ⟨u, rfl, hod, hg⟩
    obtain ⟨ua, un, uc, hu, HUN⟩ := hod.sees.shape
    subst hu
    obtain ⟨p, h, n, rfl, rfl, rfl, hn, hL, h64, _⟩ := open_nat HAB.out.1
    obtain ⟨p', h', m, hp', hh', rfl, hm, _, _, _⟩ := open_nat HAB.out.2.1
    have hdl := (dist_is hL (a := (m : Int)) (by omega) (by omega)).len
    have HL : Hid (isLand p h X = true ∧ n < X.length ∧ X.length ≤ 64 ∧ m < X.length) := ⟨hL, hn, h64, hm⟩
    have HDL : Hid (un = X.length) := by show _ = _; rw [← HUN.out]; exact hdl
    have hu64 : un ≤ 64 := by rw [HDL.out]; exact h64
    have HSL : Hid (DL w w4 w2.heap.size (.slice ua un uc) (distL p X m) (.slice (some ⟨w.heap.size + 1, 0, none⟩) 0 0) []) :=
      ⟨hod, HO2.out.grown hg, (hod.apart HO2.out (Nat.le_refl _)).1, grownN_trans HG2.out hg⟩
    have HB4 := Lib.hid (HB2.out.grown hg)
    have hbase : w.heap.size + 1 ≤ w4.heap.size := by have := HB4.out.lt; omega
    clear hod hg c0 c1 c2 hdl hL hn h64 hm hp' hh'
    go_wp2_with (at_builtin; go_loud (refine wpList_append_one_at _ rfl _ _ 22 rfl (w.heap.size + 1) 3 i0 (.int .i64 0) 8 Try.underlying22 hi hz0 hz1 hz2 rfl .i64 _ [] rfl HSL.out.own (n : Int) rfl (i64_mk (by have := HL.out; omega)) (by simp) (by decide) hbase ?_); intro v3 w5 hown3 hgrow3 hpl3; have HT5 := Lib.hid (HSL.out.more (L' := wayFrom p X (distL p X m) (0 + 1) n) hown3 hgrow3 hpl3); have HB5 := Lib.hid (HB4.out.kept hgrow3 (by simp [Act.eval, Act.put, Value.ownBlock])); clear hown3 hgrow3 hpl3)
    obtain ⟨dn, hdn⟩ : ∃ dn : Nat, at' (distL p X m) (n : Int) = dn := ⟨(at' (distL p X m) (n : Int)).toNat, by have := HAB.out.2.2.2; omega⟩
    have HDN := Lib.hid hdn
    have HDI : Hid (isOpen p h X m = true ∧ at' (distL p X m) (m : Int) = 0) := ⟨HAB.out.2.1, (dist_is HL.out.1 (by omega) (by have := HL.out.2.2.2; omega)).src⟩
    clear hdn hbase
    go_loopw [1, 7] (fun s1 s7 wz => ∃ (k r : Nat), s1 = .int .i64 r ∧ r < X.length ∧ Hid (wayAt p X (distL p X m) k n = (r : Int)) ∧ Hid (at' (distL p X m) (r : Int) + k = dn ∧ 0 ≤ at' (distL p X m) (r : Int)) ∧ Hid (DL w wz w2.heap.size (.slice ua un uc) (distL p X m) s7 (wayFrom p X (distL p X m) (k + 1) n)) ∧ Hid (Box wz w.heap.size #[.int .i64 (p : Int), .int .i64 (h : Int), .slice va vn vc] 29)) (fun s1 _ _ => (at' (distL p X m) (intOf s1)).toNat)
    case atStart => exact ⟨0, n, rfl, HL.out.2.1, rfl, ⟨by rw [HDN.out]; omega, by rw [HDN.out]; omega⟩, HT5, HB5⟩
    case round =>
      obtain ⟨k, r, rfl, hr, HW, HK, HT, HB⟩ := hrel
      clear HT5 HB5 HSL HB4
      by_cases hrm : r = m
      · subst hrm
        have HE : Hid (wayOf p h X n r = wayFrom p X (distL p X r) (k + 1) n) := by
          show _ = _
          unfold wayOf
          rw [if_pos ⟨HAB.out.1, HAB.out.2.1⟩]
          congr 1
          have := HK.out.1; have := HDN.out; have := HDI.out.2
          omega
        go_wp2
        go_ret
        exact ⟨_, rfl, by rw [HE.out]; exact HT.out.own.lower (Nat.le_succ _), HT.out.grown⟩
      have hrb : ((r : Int) == (m : Int)) = false := by simp; omega
      have hrb2 : ¬ (r : Int) = (m : Int) := by omega
      have HRM := Lib.hid hrm
      obtain ⟨c0, c1, c2⟩ := HB.out.three
      clear hrm
      go_wp2_with fail
      refine (l4Near_any wr p h r _ X (HVW.out.grown HT.out.grown) (isCell_mk HL.out.1 (by omega) (by omega))).mono ?_
      rintro e w6 ⟨u9, rfl, ho9, hg⟩
      have HT6 := Lib.hid (HT.out.on hg)
      have HB6 := Lib.hid (HB.out.grown hg)
      obtain ⟨na, nn, nc, hu9, HNN⟩ := ho9.sees.shape
      subst hu9
      have HN := Lib.hid ho9.sees
      have hnn4 : nn ≤ 4 := by rw [← HNN.out]; exact near_len _ _ _
      obtain ⟨oa, on, oc, hu7, HON⟩ := HT6.out.own.sees.shape
      subst hu7
      have hon : on = k + 1 := by rw [← HON.out, wayFrom_len]
      subst hon
      obtain ⟨ob, oo, rfl, hck⟩ := HT6.out.own.sees.at_row (j := k) (by rw [wayFrom_len]; omega)
      have hlast : (wayFrom p X (distL p X m) (k + 1) n).getD k 0 = (r : Int) := by
        rw [wayFrom_add, HW.out]
        have := wayFrom_len p X (distL p X m) k n
        rw [List.getD_eq_getElem?_getD, List.getElem?_append_right (by omega)]
        simp [this]
      rw [hlast] at hck
      have hcr := HT6.out.d.sees.at_row (j := r) (by have := (dist_is HL.out.1 (a := (m : Int)) (by omega) (by have := HL.out.2.2.2; omega)).len; omega)
      obtain ⟨ub, uo, rfl, hcr⟩ := hcr
      obtain ⟨z, hz⟩ : ∃ z, z = at' (distL p X m) (r : Int) := ⟨_, rfl⟩
      rw [show (distL p X m).getD r 0 = z from hz.symm] at hcr
      have HZZ := Lib.hid hz
      have hzb : 0 ≤ z ∧ z ≤ 64 := by
        have h1 := dist_lt HL.out.1 (a := (m : Int)) (by omega) (by have := HL.out.2.2.2; omega) (n := (r : Int)) (by omega) (by omega)
        have := HK.out.2; have := HL.out.2.2.1
        omega
      obtain ⟨hzz0, hz64⟩ := hzb
      have hk64 : k ≤ 64 := by
        have h1 := dist_lt HL.out.1 (a := (m : Int)) (by omega) (by have := HL.out.2.2.2; omega) (n := (n : Int)) (by omega) (by have := HL.out.2.1; omega)
        have := HK.out; have := HDN.out; have := HL.out.2.2.1
        omega
      have HCK := Lib.hid hck
      have HCR := Lib.hid hcr
      have hru : r < un := by rw [HDL.out]; exact hr
      clear hz hck hcr ho9 hg c0 c1 c2 HT HB hlast
      go_wp2_with fail
      go_loopw [1, 10] (fun s1 s10 wz => ∃ (kk : Nat) (x : Int), kk ≤ nn ∧ s10 = .int .i64 ((kk : Int) - 1) ∧ s1 = .int .i64 x ∧ Hid (x = (((near p r X).drop kk).find? (fun y => at' (distL p X m) y == at' (distL p X m) (r : Int) - 1)).getD (r : Int)) ∧ Hid (w6.grownBy wz none)) (fun _ s10 _ => (intOf s10 + 1).toNat)
      case atStart => exact ⟨nn, r, Nat.le_refl _, rfl, rfl, by show _ = _; rw [List.drop_of_length_le (by rw [HNN.out]; exact Nat.le_refl _)]; rfl, World.grownBy.refl _ _⟩
      case round =>
        obtain ⟨kk, x, hkk, rfl, rfl, HX, HZ⟩ := hrel
        by_cases h0 : 0 < kk
        · obtain ⟨i, hi⟩ : ∃ i, kk = i + 1 := ⟨kk - 1, by omega⟩
          subst hi
          have hin : i < nn := by omega
          have hiN : i < (near p r X).length := by rw [HNN.out]; exact hin
          obtain ⟨nb, no, rfl, hci⟩ := (HN.out.grown HZ.out).at_row (j := i) hiN
          have hrin := near_in HL.out.1 (by omega) (by omega) (mem_getD hiN)
          obtain ⟨t, ht⟩ : ∃ t : Nat, (near p r X).getD i 0 = t := ⟨((near p r X).getD i 0).toNat, by omega⟩
          rw [ht] at hci hrin
          have htX : t < X.length := by omega
          have htu : t < un := by rw [HDL.out]; exact htX
          have hct := (HT6.out.d.sees.grown HZ.out).at' (j := t) (by have := (dist_is HL.out.1 (a := (m : Int)) (by omega) (by have := HL.out.2.2.2; omega)).len; omega)
          have hck := HZ.out.cell HCK.out (by simp)
          have hcr := HZ.out.cell HCR.out (by simp)
          obtain ⟨y, hy⟩ : ∃ y, y = at' (distL p X m) (t : Int) := ⟨_, rfl⟩
          rw [show (distL p X m).getD t 0 = y from hy.symm] at hct
          have HFD : Hid (((near p r X).drop i).find? (fun y => at' (distL p X m) y == at' (distL p X m) (r : Int) - 1) = if (y == z - 1) = true then some (t : Int) else ((near p r X).drop (i + 1)).find? (fun y => at' (distL p X m) y == at' (distL p X m) (r : Int) - 1)) := by
            show _ = _
            rw [find_drop hiN, ht, hy, HZZ.out]
          have hii : ((i + 1 : Nat) : Int) - 1 = (i : Int) := by omega
          have hw1 : IntKind.i64.wrap (k : Int) = (k : Int) := IntWalk.i64_in _ (by omega)
          have hw3 : IntKind.i64.wrap (z - 1) = z - 1 := IntWalk.i64_in _ (by omega)
          rw [hii]
          clear hrin ht hiN hy hii
          by_cases hyz : y = z - 1
          · have hyb : (y == z - 1) = true := by simpa using hyz
            go_wp2_with fail
            go_quiet (fail)
            go_wp2_with fail
            go_roundw
            case rel =>
              exact ⟨i, (t : Int), by omega, by go_num, rfl, by show _ = _; rw [HFD.out, if_pos hyb]; rfl, grown_drewN HZ.out _⟩
            case measure => simp [intOf] <;> omega
          · have hyb : (y == z - 1) = false := by simpa using hyz
            go_wp2_with fail
            go_quiet (fail)
            go_wp2_with fail
            go_roundw
            case rel =>
              exact ⟨i, x, by omega, by go_num, rfl, by show _ = _; rw [HFD.out, if_neg (by simp [hyb])]; exact HX.out, grown_drewN HZ.out _⟩
            case measure => simp [intOf] <;> omega
        · have hk0 : kk = 0 := by omega
          subst hk0
          have HXN : Hid (x = nearerOf p X (distL p X m) r) := by have := HX.out; rw [List.drop_zero] at this; exact this
          have hday := nearer_day HDI.out.1 (n := (r : Int)) (by omega) (by omega) HK.out.2 (by have := HRM.out; omega)
          rw [← HXN.out] at hday
          have hxin := near_in HL.out.1 (by omega) (by omega) hday.2
          obtain ⟨x', hx'⟩ : ∃ x' : Nat, x = x' := ⟨x.toNat, by omega⟩
          subst hx'
          have HDAY := Lib.hid hday
          have hxX : x' < X.length := by omega
          have HTZ := Lib.hid (HT6.out.on HZ.out)
          have HBZ := Lib.hid (HB6.out.grown HZ.out)
          have HAD : Hid (wayFrom p X (distL p X m) (k + 1 + 1) n = wayFrom p X (distL p X m) (k + 1) n ++ [(x' : Int)]) := by
            show _ = _
            rw [wayFrom_add]
            simp only [wayAt]
            rw [HW.out, ← HXN.out]
          have hbase : w.heap.size + 1 ≤ wr.heap.size := by have := HBZ.out.lt; omega
          have HWL := Lib.hid (wayFrom_len p X (distL p X m) (k + 1) n)
          have hx64 : x' < 64 := by have := HL.out.2.2.1; omega
          clear hday hxin
          go_wp2_with (at_builtin; go_loud (refine wpList_append_one_at _ rfl _ _ 22 rfl (w.heap.size + 1) 3 i0 (.int .i64 0) 8 Try.underlying22 hi hz0 hz1 hz2 rfl .i64 _ (wayFrom p X (distL p X m) (k + 1) n) rfl HTZ.out.own (x' : Int) rfl (i64_mk (by omega)) (by rw [HWL.out]; omega) (by decide) hbase ?_); intro v3 w8 hown3 hgrow3 hpl3; have HT8 := Lib.hid (HTZ.out.more (L' := wayFrom p X (distL p X m) (k + 1 + 1) n) (by rw [HAD.out]; exact hown3) hgrow3 hpl3); have HB8 := Lib.hid (HBZ.out.kept hgrow3 (HTZ.out.own.off (Nat.lt_succ_self _))); clear hown3 hgrow3 hpl3)
          go_roundw
          case rel =>
            refine ⟨k + 1, x', rfl, hxX, by show _ = _; simp only [wayAt]; rw [HW.out, ← HXN.out], ⟨?_, ?_⟩, HT8, HB8⟩
            · have := HDAY.out.1; have := HK.out.1; omega
            · have := HDAY.out.1; have := dist_open HDI.out.1 (n := (r : Int)) (by omega) (by omega) HK.out.2
              have hn := (dist_is HL.out.1 (a := (m : Int)) (by omega) (by have := HL.out.2.2.2; omega)).pre (r : Int) (by omega) (by omega) (by have := HRM.out; omega) HK.out.2
              obtain ⟨q, _, _, q2, _, q4⟩ := hn
              omega
          case measure =>
            have h1 := HDAY.out.1
            have h2 := HK.out.2
            have hn := (dist_is HL.out.1 (a := (m : Int)) (by omega) (by have := HL.out.2.2.2; omega)).pre (r : Int) (by omega) (by omega) (by have := HRM.out; omega) HK.out.2
            obtain ⟨q, _, _, q2, _, q4⟩ := hn
            simp only [intOf]
            omega
end Go.Proofs.Ytbpiojnehomljaa.WayS
