/- Contracts of the model's Reach and WayTo. -/
import Derived.Test.YtbibkjponadipaaDoorWayS
namespace Go.Proofs.YtbibkjponadipaaDoor.WayS
open Go.RowKit Kit Rw Ld Bfs Wf LandS FromS

/-- The days of the search, and a list that grows beside them. -/
structure DL (w wr : World) (c : Nat) (u : Value) (d : List Int) (v : Value) (L : List Int) : Prop where
  d : Own .i64 3 wr c u d
  own : Own .i64 3 wr (w.heap.size + 1) v L
  apart : u.ownBlock = none ∨ u.ownBlock ≠ v.ownBlock
  grown : w.grownBy wr none
section
variable {w wr wy : World} {c : Nat} {d L L' : List Int} {u v v' : Value}
theorem DL.on (h : DL w wr c u d v L) (hg : wr.grownBy wy none) : DL w wy c u d v L := ⟨h.d.grown hg, h.own.grown hg, h.apart, grownN_trans h.grown hg⟩
theorem DL.more (h : DL w wr c u d v L) (ho : Own .i64 3 wy (w.heap.size + 1) v' L') (hg : wr.grownBy wy v.ownBlock) (hl : v'.ownBlock = v.ownBlock ∨ ∃ c, v'.ownBlock = some c ∧ wr.heap.size ≤ c) : DL w wy c u d v' L' := by
  refine ⟨h.d.kept hg h.apart, ho, ?_, grown_new h.grown hg (fun c hc => by have := h.own.lt c hc; omega)⟩
  rcases hl with hl | ⟨e, hl, hle⟩
  · rw [hl]; exact h.apart
  · rw [hl]
    cases hq : u.ownBlock with
    | none => exact .inl rfl
    | some f => have := h.d.lt f hq; exact .inr (fun e' => by injection e' with e'; omega)
end

set_option maxRecDepth 100000 in
set_option maxHeartbeats 1000000 in
theorem sReach_any (w : World) (W H a D : Int) (v : Value) (X : List Int) (hv : Sees .i64 w v X) :
    Calls Tryd.prog 17 #[.agg #[.int .i64 W, .int .i64 H, v], .int .i64 a, .int .i64 D] w fun e w' => ∃ u, e = .returned u ∧ Own .i64 3 w' w.heap.size u (reachOf W H X a D) ∧ w.grownBy w' none := by
  have hgr := grownN_trans (World.grownBy_alloc w (.cells #[.int .i64 W, .int .i64 H, v] 26 (0, 0)) none) (World.grownBy_alloc (w.alloc (.cells #[.int .i64 W, .int .i64 H, v] 26 (0, 0))) (.cells #[] 3 (0, 0)) none)
  have HG0 := Lib.hid hgr
  have HV0 := Lib.hid (hv.grown hgr)
  have HB0 := Lib.hid ((box_new w #[.int .i64 W, .int .i64 H, v] 26).grown (World.grownBy_alloc _ (.cells #[] 3 (0, 0)) none))
  have ho := own_empty (k := .i64) (E := 3) (w.alloc (.cells #[.int .i64 W, .int .i64 H, v] 26 (0, 0)))
  simp only [World.size_alloc] at ho
  have HO0 := Lib.hid ho
  have HS0 : Hid (((w.alloc (.cells #[.int .i64 W, .int .i64 H, v] 26 (0, 0))).alloc (.cells #[] 3 (0, 0))).heap.size = w.heap.size + 2) := by show _ = _; simp
  obtain ⟨va, vn, vc, hvv, HVN⟩ := hv.shape
  subst hvv
  obtain ⟨c0, c1, c2⟩ := HB0.out.three
  clear hv hgr ho
  obtain ⟨i0, hi, hz0, hz1, hz2⟩ := info_parts Inf.info_i64
  go_enter Tryd.func17, Tryd.ntmps17
  go_upto_region 2 with (fail)
  generalize (w.alloc (.cells #[.int .i64 W, .int .i64 H, .slice va vn vc] 26 (0, 0))).alloc (.cells #[] 3 (0, 0)) = w1 at *
  have hs := sIsOpen_any w1 W H a _ X HV0.out
  by_cases hA : isOpen W H X a = true
  · rw [hA] at hs
    have HS := Lib.hid hs
    have HA := Lib.hid hA
    clear hs hA
    go_wp2_with fail
    refine HS.out.mono ?_
    rintro e w2 ⟨rfl, hg⟩
    have HB2 := Lib.hid (HB0.out.grown hg)
    have HV2 := Lib.hid (HV0.out.grown hg)
    have HG2 := Lib.hid (grownN_trans HG0.out hg)
    have HO2 := Lib.hid (HO0.out.grown hg)
    have HZ2 : Hid (w.heap.size + 2 ≤ w2.heap.size) := by have := hg.size; rw [HS0.out] at this; exact this
    obtain ⟨p, h, n, rfl, rfl, rfl, hn, hL, h64, _⟩ := open_nat HA.out
    have HL : Hid (isLand p h X = true ∧ n < X.length ∧ X.length ≤ 64) := ⟨hL, hn, h64⟩
    clear hg c0 c1 c2 hL hn h64
    obtain ⟨c0, c1, c2⟩ := HB2.out.three
    go_wp2_with fail
    refine (from_any w2 p h n _ X HV2.out (isOpen_of HA.out).1).mono ?_
    rintro e w4 ⟨u, rfl, hod, hg⟩
    obtain ⟨ua, un, uc, hu, HUN⟩ := hod.sees.shape
    subst hu
    have hdl := (dist_is HL.out.1 (a := (n : Int)) (by omega) (by have := HL.out.2.1; omega)).len
    have HDL : Hid (un = X.length) := by show _ = _; rw [← HUN.out]; exact hdl
    have hu64 : un ≤ 64 := by rw [HDL.out]; exact HL.out.2.2
    have HSL : Hid (DL w w4 w2.heap.size (.slice ua un uc) (distL p X n) (.slice (some ⟨w.heap.size + 1, 0, none⟩) 0 0) (reachTo (distL p X n) D 0)) :=
      ⟨hod, HO2.out.grown hg, (hod.apart HO2.out (Nat.le_refl _)).1, grownN_trans HG2.out hg⟩
    clear hod hg c0 c1 c2 hdl
    go_wp2_with fail
    go_loopw [7, 9] (fun s7 s9 wz => ∃ k : Nat, k ≤ un ∧ s9 = .int .i64 k ∧ Hid (DL w wz w2.heap.size (.slice ua un uc) (distL p X n) s7 (reachTo (distL p X n) D k))) (fun _ s9 _ => un - (intOf s9).toNat)
    case atStart => exact ⟨0, Nat.zero_le _, rfl, HSL⟩
    case round =>
      obtain ⟨k, hk, rfl, HT⟩ := hrel
      by_cases hlt : k < un
      · obtain ⟨ub, uo, rfl, hci⟩ := HT.out.d.sees.at_row (j := k) (by rw [HUN.out]; omega)
        obtain ⟨y, hy⟩ : ∃ y, y = at' (distL p X n) (k : Int) := ⟨_, rfl⟩
        rw [show (distL p X n).getD k 0 = y from hy.symm] at hci
        have HAD := Lib.hid (reachTo_add (distL p X n) D k)
        have HRL := Lib.hid (reachTo_len (distL p X n) D k)
        have hin : (inReach (distL p X n) D k = true) ↔ (0 ≤ y ∧ y ≤ D) := by unfold inReach; rw [decide_eq_true_eq, hy]
        have HIN := Lib.hid hin
        have hbase : w.heap.size + 1 ≤ wr.heap.size := by have := HT.out.grown.size; have := HT.out.d.lt ub rfl; have := HZ2.out; omega
        clear hy hin
        by_cases h0 : 0 ≤ y
        · by_cases h1 : y ≤ D
          · have HAD2 : Hid (reachTo (distL p X n) D (k + 1) = reachTo (distL p X n) D k ++ [(k : Int)]) := by show _ = _; rw [HAD.out, if_pos (HIN.out.2 ⟨h0, h1⟩)]
            go_wp2_with (at_builtin; go_loud (refine wpList_append_one_at _ rfl _ _ 24 rfl (w.heap.size + 1) 3 i0 (.int .i64 0) 8 Tryd.underlying24 hi hz0 hz1 hz2 rfl .i64 _ (reachTo (distL p X n) D k) rfl HT.out.own (k : Int) rfl (i64_mk (by omega)) (by have := HRL.out; omega) (by decide) hbase ?_); intro v3 w8 hown3 hgrow3 hpl3; have HT8 := Lib.hid (HT.out.more (L' := reachTo (distL p X n) D (k + 1)) (by rw [HAD2.out]; exact hown3) hgrow3 hpl3); clear hown3 hgrow3 hpl3)
            go_roundw
            case rel => exact ⟨k + 1, by omega, by go_num, HT8⟩
            case measure => simp [intOf] <;> omega
          · have HAD2 : Hid (reachTo (distL p X n) D (k + 1) = reachTo (distL p X n) D k) := by show _ = _; rw [HAD.out, if_neg (fun h => h1 (HIN.out.1 h).2)]; simp
            go_wp2
            go_roundw
            case rel => exact ⟨k + 1, by omega, by go_num, by rw [HAD2.out]; exact HT⟩
            case measure => simp [intOf] <;> omega
        · have HAD2 : Hid (reachTo (distL p X n) D (k + 1) = reachTo (distL p X n) D k) := by show _ = _; rw [HAD.out, if_neg (fun h => h0 (HIN.out.1 h).1)]; simp
          go_wp2
          go_roundw
          case rel => exact ⟨k + 1, by omega, by go_num, by rw [HAD2.out]; exact HT⟩
          case measure => simp [intOf] <;> omega
      · have hkk : k = X.length := by have := HDL.out; omega
        have HE : Hid (reachOf p h X n D = reachTo (distL p X n) D k) := by show _ = _; unfold reachOf; rw [if_pos HA.out, hkk]
        go_wp2
        go_ret
        exact ⟨_, rfl, by rw [HE.out]; exact HT.out.own.lower (Nat.le_succ _), HT.out.grown⟩
  · have hA2 : isOpen W H X a = false := by simpa using hA
    rw [hA2] at hs
    have HS := Lib.hid hs
    have HE : Hid (reachOf W H X a D = []) := by show _ = _; unfold reachOf; rw [if_neg hA]
    clear hs hA hA2
    go_wp2_with fail
    refine HS.out.mono ?_
    rintro e w2 ⟨rfl, hg⟩
    have HG2 := Lib.hid (grownN_trans HG0.out hg)
    have HO2 := Lib.hid (HO0.out.grown hg)
    clear hg
    go_wp2
    go_ret
    exact ⟨_, rfl, by rw [HE.out]; exact HO2.out.lower (Nat.le_succ _), HG2.out⟩
end Go.Proofs.YtbibkjponadipaaDoor.WayS
