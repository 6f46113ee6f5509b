/- Contracts of the model's Days, Farthest and Reach. -/
import Derived.Test.YtfccikhmcenanaaFromS
import Derived.Test.YtfccikhmcenanaaWayF
import Derived.Test.YtfccikhmcenanaaWayG
namespace Go.Proofs.Ytfccikhmcenanaa.WayS
open Go.RowKit Kit Rw Ld Bfs Wf LandS FromS

set_option maxRecDepth 100000 in
set_option maxHeartbeats 1000000 in
theorem sDays_any (w : World) (W H a b : Int) (v : Value) (X : List Int) (hv : Sees .i64 w v X) :
    Calls Try.prog 51 #[.agg #[.int .i64 W, .int .i64 H, v], .int .i64 a, .int .i64 b] w fun e w' => e = .returned (.int .i64 (daysOf W H X a b)) ∧ w.grownBy w' none := by
  obtain ⟨hb0, hv0, hg0⟩ := wb_new (W := W) (H := H) hv
  obtain ⟨c0, c1, c2⟩ := hb0.three
  have HB0 := Lib.hid hb0
  have HV0 := Lib.hid hv0
  have HG0 := Lib.hid hg0
  obtain ⟨va, vn, vc, hvv, HVN⟩ := hv.shape
  subst hvv
  have hs := sIsOpen_any _ W H a _ X hv0
  clear hv hb0 hv0 hg0
  by_cases hA : isOpen W H X a = true
  · rw [hA] at hs
    have HS := Lib.hid hs
    have HA := Lib.hid hA
    clear hs hA
    go_enter Try.func51, Try.ntmps51
    go_wp2_with fail
    refine HS.out.mono ?_
    rintro e w2 ⟨rfl, hg⟩
    have HB2 := Lib.hid (HB0.out.grown hg)
    have HV2 := Lib.hid (HV0.out.grown hg)
    have HG2 := Lib.hid (grownN_trans HG0.out hg)
    clear hg c0 c1 c2
    obtain ⟨c0, c1, c2⟩ := HB2.out.three
    have hs := sIsOpen_any w2 W H b _ X HV2.out
    by_cases hB : isOpen W H X b = true
    · rw [hB] at hs
      have HS := Lib.hid hs
      have HBO := Lib.hid hB
      clear hs hB
      go_wp2_with fail
      refine HS.out.mono ?_
      rintro e w3 ⟨rfl, hg⟩
      have HB3 := Lib.hid (HB2.out.grown hg)
      have HV3 := Lib.hid (HV2.out.grown hg)
      have HG3 := Lib.hid (grownN_trans HG2.out hg)
      have HE : Hid (daysOf W H X a b = at' (distL W X a) b) := by show _ = _; unfold daysOf; rw [if_pos ⟨HA.out, HBO.out⟩]
      obtain ⟨p, h, n, rfl, rfl, rfl, hn, hL, h64, _⟩ := open_nat HA.out
      obtain ⟨p', h', m, hp', hh', rfl, hm, _, _, _⟩ := open_nat HBO.out
      have HL : Hid (isLand p h X = true ∧ n < X.length ∧ m < X.length ∧ X.length ≤ 64) := ⟨hL, hn, hm, h64⟩
      clear hg c0 c1 c2 hL hn hm h64 hp' hh'
      obtain ⟨c0, c1, c2⟩ := HB3.out.three
      go_wp2_with fail
      refine (from_any w3 p h n _ X HV3.out (isOpen_of HA.out).1).mono ?_
      rintro e w4 ⟨u, rfl, ho, hg⟩
      have HG4 := Lib.hid (grownN_trans HG3.out hg)
      have hdl := (dist_is HL.out.1 (a := (n : Int)) (by omega) (by have := HL.out.2.1; omega)).len
      have hml : m < (distL p X n).length := by rw [hdl]; exact HL.out.2.2.1
      obtain ⟨ua, un, uc, hu, HUN⟩ := ho.sees.shape
      subst hu
      obtain ⟨ub, uo, rfl, hc⟩ := ho.sees.at_row hml
      obtain ⟨y, hy⟩ : ∃ y, y = (distL p X n).getD m 0 := ⟨_, rfl⟩
      rw [← hy] at hc
      have HY : Hid (daysOf p h X n m = y) := by show _ = _; rw [HE.out, hy]; rfl
      have hmu : m < un := by rw [← HUN.out]; exact hml
      clear ho hg hdl hml hy c0 c1 c2
      go_wp2
      go_ret
      exact ⟨ret_i64 HY.out.symm, HG4.out⟩
    · have hB2 : isOpen W H X b = false := by simpa using hB
      rw [hB2] at hs
      have HS := Lib.hid hs
      have HE : Hid (daysOf W H X a b = -1) := by show _ = _; unfold daysOf; rw [if_neg (fun h => hB h.2)]
      clear hs hB hB2
      go_wp2_with fail
      refine HS.out.mono ?_
      rintro e w3 ⟨rfl, hg⟩
      have HG3 := Lib.hid (grownN_trans HG2.out hg)
      clear hg
      go_wp2
      go_ret
      exact ⟨ret_i64 HE.out.symm, HG3.out⟩
  · have hA2 : isOpen W H X a = false := by simpa using hA
    rw [hA2] at hs
    have HS := Lib.hid hs
    have HE : Hid (daysOf W H X a b = -1) := by show _ = _; unfold daysOf; rw [if_neg (fun h => hA h.1)]
    clear hs hA hA2
    go_enter Try.func51, Try.ntmps51
    go_wp2_with fail
    refine HS.out.mono ?_
    rintro e w2 ⟨rfl, hg⟩
    have HG2 := Lib.hid (grownN_trans HG0.out hg)
    clear hg
    go_wp2
    go_ret
    exact ⟨ret_i64 HE.out.symm, HG2.out⟩

set_option maxRecDepth 100000 in
set_option maxHeartbeats 1000000 in
theorem sFarthest_any (w : World) (W H a : Int) (v : Value) (X : List Int) (hv : Sees .i64 w v X) :
    Calls Try.prog 56 #[.agg #[.int .i64 W, .int .i64 H, v], .int .i64 a] w fun e w' => e = .returned (.int .i64 (farOf W H X a)) ∧ w.grownBy w' none := by
  obtain ⟨hb0, hv0, hg0⟩ := wb_new (W := W) (H := H) hv
  obtain ⟨c0, c1, c2⟩ := hb0.three
  have HB0 := Lib.hid hb0
  have HV0 := Lib.hid hv0
  have HG0 := Lib.hid hg0
  obtain ⟨va, vn, vc, hvv, HVN⟩ := hv.shape
  subst hvv
  have hs := sIsOpen_any _ W H a _ X hv0
  clear hv hb0 hv0 hg0
  by_cases hA : isOpen W H X a = true
  · rw [hA] at hs
    have HS := Lib.hid hs
    have HA := Lib.hid hA
    clear hs hA
    go_enter Try.func56, Try.ntmps56
    go_wp2_with fail
    refine HS.out.mono ?_
    rintro e w2 ⟨rfl, hg⟩
    have HB2 := Lib.hid (HB0.out.grown hg)
    have HV2 := Lib.hid (HV0.out.grown hg)
    have HG2 := Lib.hid (grownN_trans HG0.out hg)
    obtain ⟨p, h, n, rfl, rfl, rfl, hn, hL, h64, _⟩ := open_nat HA.out
    have HL : Hid (isLand p h X = true ∧ n < X.length ∧ X.length ≤ 64) := ⟨hL, hn, h64⟩
    clear hg c0 c1 c2 hL hn h64
    obtain ⟨c0, c1, c2⟩ := HB2.out.three
    go_wp2_with fail
    refine (from_any w2 p h n _ X HV2.out (isOpen_of HA.out).1).mono ?_
    rintro e w4 ⟨u, rfl, ho, hg⟩
    have HG4 := Lib.hid (grownN_trans HG2.out hg)
    have hdl := (dist_is HL.out.1 (a := (n : Int)) (by omega) (by have := HL.out.2.1; omega)).len
    obtain ⟨ua, un, uc, hu, HUN⟩ := ho.sees.shape
    subst hu
    have HDL : Hid (un = X.length) := by show _ = _; rw [← HUN.out]; exact hdl
    have hnu : n < un := by rw [HDL.out]; exact HL.out.2.1
    have hu64 : un ≤ 64 := by rw [HDL.out]; exact HL.out.2.2
    have HO := Lib.hid ho.sees
    clear ho hg hdl c0 c1 c2
    go_wp2_with fail
    go_loopw [6, 7] (fun s6 s7 wz => ∃ (k r : Nat), k ≤ un ∧ s7 = .int .i64 ((k : Int) - 1) ∧ s6 = .int .i64 r ∧ r < un ∧ Hid (w4.grownBy wz none) ∧ Hid ((∀ i : Nat, k ≤ i → i < un → at' (distL p X n) (i : Int) ≤ at' (distL p X n) (r : Int)) ∧ (∀ i : Nat, k ≤ i → i < r → at' (distL p X n) (i : Int) < at' (distL p X n) (r : Int)))) (fun _ s7 _ => (intOf s7 + 1).toNat)
    case atStart => exact ⟨un, n, Nat.le_refl _, rfl, rfl, hnu, World.grownBy.refl _ _, fun i h1 h2 => absurd h2 (by omega), fun i h1 h2 => by omega⟩
    case round =>
      obtain ⟨k, r, hk, rfl, rfl, hr, HZ, HF⟩ := hrel
      by_cases h0 : 0 < k
      · obtain ⟨i, hi⟩ : ∃ i, k = i + 1 := ⟨k - 1, by omega⟩
        subst hi
        have hiu : i < un := by omega
        obtain ⟨ub, uo, rfl, hci⟩ := (HO.out.grown HZ.out).at_row (j := i) (by rw [HUN.out]; omega)
        have hcr := (HO.out.grown HZ.out).at' (j := r) (by rw [HUN.out]; omega)
        obtain ⟨y, hy⟩ : ∃ y, y = at' (distL p X n) (i : Int) := ⟨_, rfl⟩
        obtain ⟨z, hz⟩ : ∃ z, z = at' (distL p X n) (r : Int) := ⟨_, rfl⟩
        rw [show (distL p X n).getD i 0 = y from hy.symm] at hci
        rw [show (distL p X n).getD r 0 = z from hz.symm] at hcr
        have HY := Lib.hid hy
        have HZZ := Lib.hid hz
        have hii : ((i + 1 : Nat) : Int) - 1 = (i : Int) := by omega
        rw [hii]
        clear hy hz hii
        by_cases hyz : z ≤ y
        · go_wp2_with fail
          go_quiet (fail)
          go_wp2_with fail
          go_roundw
          case rel =>
            refine ⟨i, i, by omega, by go_num, rfl, hiu, grown_drewN HZ.out _, fun j h1 h2 => ?_, fun j h1 h2 => by omega⟩
            by_cases e : j = i
            · subst e; exact Int.le_refl _
            · have := HF.out.1 j (by omega) h2; rw [← HY.out]; rw [← HZZ.out] at this; omega
          case measure => simp [intOf] <;> omega
        · go_wp2_with fail
          go_quiet (fail)
          go_wp2_with fail
          go_roundw
          case rel =>
            refine ⟨i, r, by omega, by go_num, rfl, hr, grown_drewN HZ.out _, fun j h1 h2 => ?_, fun j h1 h2 => ?_⟩
            · by_cases e : j = i
              · subst e; rw [← HY.out, ← HZZ.out]; omega
              · exact HF.out.1 j (by omega) h2
            · by_cases e : j = i
              · subst e; rw [← HY.out, ← HZZ.out]; omega
              · exact HF.out.2 j (by omega) h2
          case measure => simp [intOf] <;> omega
      · have hk0 : k = 0 := by omega
        subst hk0
        have HE : Hid (farOf p h X n = (r : Int)) := farOf_eq HA.out (by
          have hl : (distL p X n).length = un := HUN.out
          refine ⟨by omega, by omega, fun i i0 i1 => ?_, fun i i0 i1 => ?_⟩
          · have := HF.out.1 i.toNat (by omega) (by omega); rwa [show ((i.toNat : Nat) : Int) = i by omega] at this
          · have := HF.out.2 i.toNat (by omega) (by omega); rwa [show ((i.toNat : Nat) : Int) = i by omega] at this)
        go_wp2
        go_ret
        exact ⟨ret_i64 HE.out.symm, grownN_trans HG4.out HZ.out⟩
  · have hA2 : isOpen W H X a = false := by simpa using hA
    rw [hA2] at hs
    have HS := Lib.hid hs
    have HE : Hid (farOf W H X a = -1) := by show _ = _; unfold farOf; rw [if_neg hA]
    clear hs hA hA2
    go_enter Try.func56, Try.ntmps56
    go_wp2_with fail
    refine HS.out.mono ?_
    rintro e w2 ⟨rfl, hg⟩
    have HG2 := Lib.hid (grownN_trans HG0.out hg)
    clear hg
    go_wp2
    go_ret
    exact ⟨ret_i64 HE.out.symm, HG2.out⟩
end Go.Proofs.Ytfccikhmcenanaa.WayS
