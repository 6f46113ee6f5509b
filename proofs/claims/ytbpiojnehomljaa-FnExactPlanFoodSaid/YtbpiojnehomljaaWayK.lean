/- Contract of the program's WayTo. -/
import Derived.Test.YtbpiojnehomljaaWayJ
namespace Go.Proofs.Ytbpiojnehomljaa.WayI
open Go.RowKit Kit Rw Ld Gr GrI Bfs Wf Sr LandI

set_option maxRecDepth 100000 in
set_option maxHeartbeats 1000000 in
theorem wayTo_any (w : World) (W H a b : Int) (v : Value) (X : List Int) (hv : Sees .i64 w v X) :
    Calls Try.prog 93 #[.agg #[.int .i64 W, .int .i64 H, v], .int .i64 a, .int .i64 b] w fun e w' => ∃ u, e = .returned u ∧ Own .i64 3 w' w.heap.size u (wayOf W H X a b) ∧ w.grownBy w' none := by
  have hgr := grownN_trans (World.grownBy_alloc w (.cells #[.int .i64 W, .int .i64 H, v] 29 (0, 0)) none) (World.grownBy_alloc (w.alloc (.cells #[.int .i64 W, .int .i64 H, v] 29 (0, 0))) (.cells #[] 3 (0, 0)) none)
  have HG0 := Lib.hid hgr
  have HV0 := Lib.hid (hv.grown hgr)
  have HB0 := Lib.hid ((box_new w #[.int .i64 W, .int .i64 H, v] 29).grown (World.grownBy_alloc _ (.cells #[] 3 (0, 0)) none))
  have ho := own_empty (k := .i64) (E := 3) (w.alloc (.cells #[.int .i64 W, .int .i64 H, v] 29 (0, 0)))
  simp only [World.size_alloc] at ho
  have HO0 := Lib.hid ho
  have HS0 : Hid (((w.alloc (.cells #[.int .i64 W, .int .i64 H, v] 29 (0, 0))).alloc (.cells #[] 3 (0, 0))).heap.size = w.heap.size + 2) := by show _ = _; simp
  obtain ⟨va, vn, vc, hvv, HVN⟩ := hv.shape
  subst hvv
  obtain ⟨c0, c1, c2⟩ := HB0.out.three
  clear hv hgr ho
  obtain ⟨i0, hi, hz0, hz1, hz2⟩ := info_parts Inf.info_i64
  go_enter Try.func93, Try.ntmps93
  go_upto_region 2 with (fail)
  generalize (w.alloc (.cells #[.int .i64 W, .int .i64 H, .slice va vn vc] 29 (0, 0))).alloc (.cells #[] 3 (0, 0)) = w1 at *
  have hs := isOpen_any w1 W H a _ X HV0.out
  by_cases hA : isOpen W H X a = true
  · rw [hA] at hs
    have HS := Lib.hid hs
    have HA := Lib.hid hA
    clear hs hA
    go_wp2_with fail
    refine HS.out.mono ?_
    rintro e w2 ⟨rfl, hg⟩
    have HB2 := Lib.hid (HB0.out.grown hg)
    have HV2 := Lib.hid (HV0.out.grown hg)
    have HG2 := Lib.hid (grownN_trans HG0.out hg)
    have HO2 := Lib.hid (HO0.out.grown hg)
    have HZ2 : Hid (w.heap.size + 2 ≤ w2.heap.size) := by have := hg.size; rw [HS0.out] at this; exact this
    clear hg c0 c1 c2
    obtain ⟨c0, c1, c2⟩ := HB2.out.three
    have hs := isOpen_any w2 W H b _ X HV2.out
    by_cases hB : isOpen W H X b = true
    rotate_left
    · have hB2 : isOpen W H X b = false := by simpa using hB
      rw [hB2] at hs
      have HS := Lib.hid hs
      have HE : Hid (wayOf W H X a b = []) := by show _ = _; unfold wayOf; rw [if_neg (fun h => hB h.2)]
      clear hs hB hB2
      go_wp2_with fail
      refine HS.out.mono ?_
      rintro e w3 ⟨rfl, hg⟩
      have HG3 := Lib.hid (grownN_trans HG2.out hg)
      have HO3 := Lib.hid (HO2.out.grown hg)
      clear hg
      go_wp2
      go_ret
      exact ⟨_, rfl, by rw [HE.out]; exact HO3.out.lower (Nat.le_succ _), HG3.out⟩
    rw [hB] at hs
    have HS := Lib.hid hs
    have HBO := Lib.hid hB
    clear hs hB
    go_wp2_with fail
    refine HS.out.mono ?_
    rintro e w3 ⟨rfl, hg⟩
    have HB2 := Lib.hid (HB2.out.grown hg)
    have HV2 := Lib.hid (HV2.out.grown hg)
    have HG2 := Lib.hid (grownN_trans HG2.out hg)
    have HO2 := Lib.hid (HO2.out.grown hg)
    have HZ2 : Hid (w.heap.size + 2 ≤ w3.heap.size) := Nat.le_trans HZ2.out hg.size
    have HE : Hid (wayOf W H X a b = wayFrom W X (distL W X b) (at' (distL W X b) a + 1).toNat a) := by show _ = _; unfold wayOf; rw [if_pos ⟨HA.out, HBO.out⟩]
    obtain ⟨p, h, n, rfl, rfl, rfl, hn, hL, h64, _⟩ := open_nat HA.out
    obtain ⟨p', h', m, hp', hh', rfl, hm, _, _, _⟩ := open_nat HBO.out
    have HL : Hid (isLand p h X = true ∧ n < X.length ∧ X.length ≤ 64 ∧ m < X.length) := ⟨hL, hn, h64, hm⟩
    clear hg c0 c1 c2 hL hn h64 hm hp' hh'
    obtain ⟨c0, c1, c2⟩ := HB2.out.three
    go_wp2_with fail
    refine (searchIn_any w3 p h _ X HV2.out HL.out.1).mono ?_
    rintro e w4 ⟨bb, rfl, hle, hS, hg⟩
    have HG4 := Lib.hid (grownN_trans HG2.out hg)
    have HS4 := Lib.hid hS
    have HB4 := Lib.hid (HB2.out.grown hg)
    have HO4 := Lib.hid (HO2.out.grown hg)
    have HLE : Hid (w.heap.size + 2 ≤ bb) := Nat.le_trans HZ2.out hle
    clear hle hS hg c0 c1 c2
    go_wp2_with fail
    refine (begin_any w4 bb p h m X 64 [] _ _ HS4.out HL.out.1 HL.out.2.2.2 (by omega)).mono ?_
    rintro e w5 ⟨rfl, qv, Q, M, hS, hM, hb⟩
    rw [cut64 HL.out.1 HL.out.2.2.2 HL.out.2.2.1] at hM
    have HM5 := Lib.hid hM
    have HB5 : Hid (Box w5 w.heap.size #[.int .i64 (p : Int), .int .i64 (h : Int), .slice va vn vc] 29) := (hb.block _ (by have := HLE.out; omega)).trans HB4.out
    have hle := HLE.out
    have HSL : Hid (SL w w5 bb p (grid p X) qv Q M (.slice (some ⟨w.heap.size + 1, 0, none⟩) 0 0) (wayFrom p X (distL p X m) 0 n)) := by
      refine ⟨hS, ?_, by simp [Value.ownBlock]; omega, ?_, search_on HG4.out (by omega) hb, fun _ _ => trivial⟩
      · exact own_under HO4.out hb (fun c hc => by simp only [Value.ownBlock, Option.some.injEq] at hc; omega)
      · cases hq : qv.ownBlock with
        | none => exact .inl rfl
        | some e => have := hS.own.lt e hq; exact .inr (by simp [Value.ownBlock]; omega)
    clear hS hM hb hle
    obtain ⟨c0, c1, c2⟩ := HB5.out.three
    have hdb := dist_bnd HL.out.1 HL.out.2.2.2 HL.out.2.2.1
    have HDB := Lib.hid hdb
    have hk0 := hdb (n : Int) (by omega) (by have := HL.out.2.1; omega)
    obtain ⟨dn, hdn⟩ : ∃ dn, dn = at' (distL p X m) (n : Int) := ⟨_, rfl⟩
    rw [← hdn] at hk0
    have HDN := Lib.hid hdn
    obtain ⟨hk0, hk1⟩ := hk0
    clear hdb hdn
    obtain ⟨kk, hkk⟩ : ∃ kk : Nat, dn + 1 = kk := ⟨(dn + 1).toNat, by omega⟩
    have HKK := Lib.hid hkk
    have hkk65 : kk ≤ 65 := by omega
    go_wp2_with fail
    refine (daysTo_any w5 bb p n _ Q M qv dn HSL.out.sb (sq_100 HL.out.1 HL.out.2.1).1 (by have := HL.out; omega) (sq_100 HL.out.1 HL.out.2.1).2 (by rw [HM5.out.at_ n HL.out.2.1, HDN.out]) (by omega)).mono ?_
    rintro e w6 ⟨rfl, hg6⟩
    have HSL := Lib.hid (HSL.out.on hg6)
    clear hg6
    obtain rfl : dn = (kk : Int) - 1 := by omega
    clear hkk
    go_wp2_with fail
    go_loopw [7, 9, 32] (fun s7 s9 s32 wz => ∃ (k r : Nat), k ≤ kk ∧ s32 = .int .i64 k ∧ s9 = .int .i64 r ∧ r < X.length ∧ Hid (wayAt p X (distL p X m) k n = (r : Int)) ∧ Hid (SL w wz bb p (grid p X) qv Q M s7 (wayFrom p X (distL p X m) k n))) (fun _ _ s32 _ => kk - (intOf s32).toNat)
    case atStart => exact ⟨0, n, Nat.zero_le _, rfl, rfl, HL.out.2.1, rfl, HSL⟩
    case round =>
      obtain ⟨k, r, hk, rfl, rfl, hr, HR, HT⟩ := hrel
      by_cases hlt : k < kk
      · have hbase : w.heap.size + 1 ≤ wr.heap.size := by have := HT.out.sb.box.lt; have := HLE.out; omega
        have HAD : Hid (wayFrom p X (distL p X m) (k + 1) n = wayFrom p X (distL p X m) k n ++ [(r : Int)]) := by show _ = _; rw [wayFrom_add, HR.out]
        obtain ⟨r2, hr2, hr2l⟩ := nearerOf_in (d := distL p X m) HL.out.1 hr
        have HR2 := Lib.hid hr2
        have hwl := wayFrom_len p X (distL p X m) k n
        have HWL := Lib.hid hwl
        have hx64 := HL.out.2.2.1
        clear hr2 hwl
        go_wp2_with (at_builtin; go_loud (refine wpList_append_one_at _ rfl _ _ 22 rfl (w.heap.size + 1) 3 i0 (.int .i64 0) 8 Try.underlying22 hi hz0 hz1 hz2 rfl .i64 _ (wayFrom p X (distL p X m) k n) rfl HT.out.own (r : Int) rfl (i64_mk (by omega)) (by rw [HWL.out]; omega) (by decide) hbase ?_); intro v3 w8 hown3 hgrow3 hpl3; have HT8 := Lib.hid (HT.out.more (L' := wayFrom p X (distL p X m) (k + 1) n) (by rw [HAD.out]; exact hown3) hgrow3 hpl3); clear hown3 hgrow3 hpl3)
        refine (nearer_any w8 bb p h r X _ Q M qv HT8.out.sb HM5.out HDB.out HL.out.1 hr).mono ?_
        rintro e w9 ⟨rfl, hg9⟩
        have HT9 := Lib.hid (HT8.out.on hg9)
        clear hg9
        rw [HR2.out]
        go_wp2_with fail
        go_roundw
        case rel => exact ⟨k + 1, r2, by omega, by go_num, rfl, hr2l, by show _ = _; simp only [wayAt]; rw [HR.out, HR2.out], HT9⟩
        case measure => simp [intOf]; omega
      · have hkk : k = kk := by omega
        have HE2 : Hid (wayOf p h X n m = wayFrom p X (distL p X m) k n) := by
          show _ = _
          rw [HE.out, hkk, ← HDN.out]; congr 1; omega
        go_wp2
        go_ret
        exact ⟨_, rfl, by rw [HE2.out]; exact HT.out.own.lower (Nat.le_succ _), HT.out.grown⟩
  · have hA2 : isOpen W H X a = false := by simpa using hA
    rw [hA2] at hs
    have HS := Lib.hid hs
    have HE : Hid (wayOf W H X a b = []) := by show _ = _; unfold wayOf; rw [if_neg (fun h => hA h.1)]
    clear hs hA hA2
    go_wp2_with fail
    refine HS.out.mono ?_
    rintro e w2 ⟨rfl, hg⟩
    have HG2 := Lib.hid (grownN_trans HG0.out hg)
    have HO2 := Lib.hid (HO0.out.grown hg)
    clear hg
    go_wp2
    go_ret
    exact ⟨_, rfl, by rw [HE.out]; exact HO2.out.lower (Nat.le_succ _), HG2.out⟩
end Go.Proofs.Ytbpiojnehomljaa.WayI
