/- Contracts of the program's Reach and WayTo. -/
import Derived.Test.YtonalkamfgpokaaGreatWayI
namespace Go.Proofs.YtonalkamfgpokaaGreat.WayI
open Go.RowKit Kit Rw Ld Gr GrI Bfs Wf Sr LandI

theorem own_under {k : IntKind} {E : TypeId} {w w' : World} {base B : Nat} {v : Value} {L : List Int} (h : Own k E w base v L) (hb : Below B w w') (hlt : ∀ c, v.ownBlock = some c → c < B) : Own k E w' base v L := by
  obtain ⟨⟨h1, h2⟩, h3⟩ := h
  refine ⟨⟨h1, ?_⟩, h3⟩
  rcases h2 with h2 | ⟨g, cap, cur, e, hg, hh, r⟩
  · exact .inl h2
  · subst e
    exact .inr ⟨g, cap, cur, rfl, hg, (hb.block g (hlt g rfl)).trans hh, r⟩
/-- A search, and a list that grows beside it. -/
structure SL (w wr : World) (bb p : Nat) (g : List Int) (qv : Value) (Q M : List Int) (v : Value) (L : List Int) : Prop where
  sb : SB wr bb p g qv Q M
  own : Own .i64 3 wr (w.heap.size + 1) v L
  off : v.ownBlock ≠ some bb
  apart : qv.ownBlock = none ∨ qv.ownBlock ≠ v.ownBlock
  grown : w.grownBy wr none
  box : ∀ cs, Box wr w.heap.size cs 37 → True
section
variable {w wr wy : World} {bb p : Nat} {g Q M L L' : List Int} {qv v v' : Value}
theorem SL.on (h : SL w wr bb p g qv Q M v L) (hg : wr.grownBy wy none) : SL w wy bb p g qv Q M v L := ⟨h.sb.on hg, h.own.grown hg, h.off, h.apart, grownN_trans h.grown hg, fun _ _ => trivial⟩
theorem SL.more (h : SL w wr bb p g qv Q M v L) (ho : Own .i64 3 wy (w.heap.size + 1) v' L') (hg : wr.grownBy wy v.ownBlock) (hl : v'.ownBlock = v.ownBlock ∨ ∃ c, v'.ownBlock = some c ∧ wr.heap.size ≤ c) : SL w wy bb p g qv Q M v' L' := by
  refine ⟨⟨h.sb.box.kept hg h.off, h.sb.own.kept hg h.apart, h.sb.gl, h.sb.ml⟩, ho, ?_, ?_, grown_new h.grown hg (fun c hc => by have := h.own.lt c hc; omega), fun _ _ => trivial⟩
  · rcases hl with hl | ⟨c, hl, hle⟩
    · rw [hl]; exact h.off
    · rw [hl]; have := h.sb.box.lt; intro e; injection e with e; omega
  · rcases hl with hl | ⟨c, hl, hle⟩
    · rw [hl]; exact h.apart
    · rw [hl]
      cases hq : qv.ownBlock with
      | none => exact .inl rfl
      | some e => have := h.sb.own.lt e hq; exact .inr (fun e' => by injection e' with e'; omega)
end
theorem nearerOf_in {p h n : Nat} {X d : List Int} (hL : isLand p h X = true) (hn : n < X.length) : ∃ m : Nat, nearerOf p X d n = m ∧ m < X.length := by
  unfold nearerOf
  cases hf : (near p n X).find? (fun m => at' d m == at' d n - 1) with
  | none => exact ⟨n, rfl, hn⟩
  | some m =>
    have := near_in hL (by omega) (by omega) (List.mem_of_find?_eq_some hf)
    exact ⟨m.toNat, by simp; omega, by omega⟩
theorem cut_in {D : Int} {d : List Int} {i : Nat} (hi : i < d.length) (hl : -1 ≤ at' d (i : Int)) : (0 ≤ at' (cut D d) (i : Int)) ↔ inReach d D i = true := by
  rw [cut_at (by omega) (by omega)]
  unfold inReach
  rw [decide_eq_true_eq]
  split <;> omega

set_option maxRecDepth 100000 in
set_option maxHeartbeats 1000000 in
theorem reach_any (w : World) (W H a D : Int) (v : Value) (X : List Int) (hv : Sees .i64 w v X) :
    Calls Tryz.prog 84 #[.agg #[.int .i64 W, .int .i64 H, v], .int .i64 a, .int .i64 D] w fun e w' => ∃ u, e = .returned u ∧ Own .i64 3 w' w.heap.size u (reachOf W H X a D) ∧ w.grownBy w' none := by
  have hgr := grownN_trans (World.grownBy_alloc w (.cells #[.int .i64 W, .int .i64 H, v] 37 (0, 0)) none) (World.grownBy_alloc (w.alloc (.cells #[.int .i64 W, .int .i64 H, v] 37 (0, 0))) (.cells #[] 3 (0, 0)) none)
  have HG0 := Lib.hid hgr
  have HV0 := Lib.hid (hv.grown hgr)
  have HB0 := Lib.hid ((box_new w #[.int .i64 W, .int .i64 H, v] 37).grown (World.grownBy_alloc _ (.cells #[] 3 (0, 0)) none))
  have ho := own_empty (k := .i64) (E := 3) (w.alloc (.cells #[.int .i64 W, .int .i64 H, v] 37 (0, 0)))
  simp only [World.size_alloc] at ho
  have HO0 := Lib.hid ho
  have HS0 : Hid (((w.alloc (.cells #[.int .i64 W, .int .i64 H, v] 37 (0, 0))).alloc (.cells #[] 3 (0, 0))).heap.size = w.heap.size + 2) := by show _ = _; simp
  obtain ⟨va, vn, vc, hvv, HVN⟩ := hv.shape
  subst hvv
  obtain ⟨c0, c1, c2⟩ := HB0.out.three
  clear hv hgr ho
  obtain ⟨i0, hi, hz0, hz1, hz2⟩ := info_parts Inf.info_i64
  go_enter Tryz.func84, Tryz.ntmps84
  go_upto_region 2 with (fail)
  generalize (w.alloc (.cells #[.int .i64 W, .int .i64 H, .slice va vn vc] 37 (0, 0))).alloc (.cells #[] 3 (0, 0)) = w1 at *
  have hs := isOpen_any w1 W H a _ X HV0.out
  by_cases hA : isOpen W H X a = true
  · rw [hA] at hs
    have HS := Lib.hid hs
    have HA := Lib.hid hA
    clear hs hA
    by_cases hD : D < 0
    · have HE : Hid (reachOf W H X a D = []) := by
        show _ = _
        unfold reachOf reachTo
        rw [if_pos HA.out, List.filter_eq_nil_iff.2 (fun i _ => by unfold inReach; rw [decide_eq_true_eq]; omega)]
        rfl
      go_wp2_with fail
      refine HS.out.mono ?_
      rintro e w2 ⟨rfl, hg⟩
      have HG2 := Lib.hid (grownN_trans HG0.out hg)
      have HO2 := Lib.hid (HO0.out.grown hg)
      clear hg
      go_wp2
      go_ret
      exact ⟨_, rfl, by rw [HE.out]; exact HO2.out.lower (Nat.le_succ _), HG2.out⟩
    go_wp2_with fail
    refine HS.out.mono ?_
    rintro e w2 ⟨rfl, hg⟩
    have HB2 := Lib.hid (HB0.out.grown hg)
    have HV2 := Lib.hid (HV0.out.grown hg)
    have HG2 := Lib.hid (grownN_trans HG0.out hg)
    have HO2 := Lib.hid (HO0.out.grown hg)
    have HZ2 : Hid (w.heap.size + 2 ≤ w2.heap.size) := by have := hg.size; rw [HS0.out] at this; exact this
    obtain ⟨p, h, n, rfl, rfl, rfl, hn, hL, h64, _⟩ := open_nat HA.out
    have HL : Hid (isLand p h X = true ∧ n < X.length ∧ X.length ≤ 64 ∧ 0 ≤ D) := ⟨hL, hn, h64, by omega⟩
    clear hg c0 c1 c2 hL hn h64
    obtain ⟨c0, c1, c2⟩ := HB2.out.three
    go_wp2_with fail
    refine (searchIn_any w2 p h _ X HV2.out HL.out.1).mono ?_
    rintro e w4 ⟨bb, rfl, hle, hS, hg⟩
    have HG4 := Lib.hid (grownN_trans HG2.out hg)
    have HS4 := Lib.hid hS
    have HB4 := Lib.hid (HB2.out.grown hg)
    have HO4 := Lib.hid (HO2.out.grown hg)
    have HLE : Hid (w.heap.size + 2 ≤ bb) := Nat.le_trans HZ2.out hle
    clear hle hS hg c0 c1 c2
    go_wp2_with fail
    refine (begin_any w4 bb p h n X D [] _ _ HS4.out HL.out.1 HL.out.2.1 HL.out.2.2.2).mono ?_
    rintro e w5 ⟨rfl, qv, Q, M, hS, hM, hb⟩
    have HM5 := Lib.hid hM
    have HB5 : Hid (Box w5 w.heap.size #[.int .i64 (p : Int), .int .i64 (h : Int), .slice va vn vc] 37) := (hb.block _ (by have := HLE.out; omega)).trans HB4.out
    have hle := HLE.out
    have HSL : Hid (SL w w5 bb p (grid p X) qv Q M (.slice (some ⟨w.heap.size + 1, 0, none⟩) 0 0) (reachTo (distL p X n) D 0)) := by
      refine ⟨hS, ?_, by simp [Value.ownBlock]; omega, ?_, search_on HG4.out (by omega) hb, fun _ _ => trivial⟩
      · exact own_under HO4.out hb (fun c hc => by simp only [Value.ownBlock, Option.some.injEq] at hc; omega)
      · cases hq : qv.ownBlock with
        | none => exact .inl rfl
        | some e => have := hS.own.lt e hq; exact .inr (by simp [Value.ownBlock]; omega)
    clear hS hM hb hle
    obtain ⟨c0, c1, c2⟩ := HB5.out.three
    have hvn64 : vn ≤ 64 := by rw [← HVN.out]; exact HL.out.2.2.1
    go_wp2_with fail
    go_loopw [7, 29] (fun s7 s29 wz => ∃ k : Nat, k ≤ vn ∧ s29 = .int .i64 k ∧ Hid (SL w wz bb p (grid p X) qv Q M s7 (reachTo (distL p X n) D k))) (fun _ s29 _ => vn - (intOf s29).toNat)
    case atStart => exact ⟨0, Nat.zero_le _, rfl, HSL⟩
    case round =>
      obtain ⟨k, hk, rfl, HT⟩ := hrel
      by_cases hlt : k < vn
      · have HKX : Hid (k < X.length) := by rw [HVN.out]; exact hlt
        have hk1 := dist_bnd HL.out.1 HL.out.2.1 HL.out.2.2.1 (k : Int) (by omega) (by have := HKX.out; omega)
        have hdl := (dist_is HL.out.1 (a := (n : Int)) (by omega) (by have := HL.out.2.1; omega)).len
        have hci := cut_in (D := D) (d := distL p X n) (i := k) (by rw [hdl]; exact HKX.out) hk1.1
        have hcb : -1 ≤ at' (cut D (distL p X n)) (k : Int) ∧ at' (cut D (distL p X n)) (k : Int) ≤ 64 := by rw [cut_at (by omega) (by rw [hdl]; have := HKX.out; omega)]; split <;> omega
        obtain ⟨y, hy⟩ : ∃ y, y = at' (cut D (distL p X n)) (k : Int) := ⟨_, rfl⟩
        rw [← hy] at hci hcb
        have HY := Lib.hid hy
        have HCB := Lib.hid hcb
        have HCI := Lib.hid hci
        have HAD := Lib.hid (reachTo_add (distL p X n) D k)
        have hrl := reachTo_len (distL p X n) D k
        have HRL := Lib.hid hrl
        clear hy hk1 hdl hci hcb hrl
        go_wp2_with fail
        refine (daysTo_any wr bb p k _ Q M qv y HT.out.sb (sq_100 HL.out.1 HKX.out).1 (by omega) (sq_100 HL.out.1 HKX.out).2 (by rw [HM5.out.at_ k HKX.out, HY.out]) (by have := HCB.out; omega)).mono ?_
        rintro e w6 ⟨rfl, hg6⟩
        have HT6 := Lib.hid (HT.out.on hg6)
        clear hg6
        by_cases hyz : 0 ≤ y
        · have HAD2 : Hid (reachTo (distL p X n) D (k + 1) = reachTo (distL p X n) D k ++ [(k : Int)]) := by show _ = _; rw [HAD.out, if_pos (HCI.out.1 hyz)]
          have hbase : w.heap.size + 1 ≤ w6.heap.size := by have := HT6.out.sb.box.lt; have := HLE.out; omega
          go_wp2_with (at_builtin; go_loud (refine wpList_append_one_at _ rfl _ _ 22 rfl (w.heap.size + 1) 3 i0 (.int .i64 0) 8 Tryz.underlying22 hi hz0 hz1 hz2 rfl .i64 _ (reachTo (distL p X n) D k) rfl HT6.out.own (k : Int) rfl (i64_mk (by omega)) (by have := HRL.out; omega) (by decide) hbase ?_); intro v3 w8 hown3 hgrow3 hpl3; have HT8 := Lib.hid (HT6.out.more (L' := reachTo (distL p X n) D (k + 1)) (by rw [HAD2.out]; exact hown3) hgrow3 hpl3); clear hown3 hgrow3 hpl3)
          go_roundw
          case rel => exact ⟨k + 1, by omega, by go_num, HT8⟩
          case measure => simp [intOf]; omega
        · have HAD2 : Hid (reachTo (distL p X n) D (k + 1) = reachTo (distL p X n) D k) := by show _ = _; rw [HAD.out, if_neg (fun h => hyz (HCI.out.2 h))]; simp
          go_wp2
          go_roundw
          case rel => exact ⟨k + 1, by omega, by go_num, by rw [HAD2.out]; exact HT6⟩
          case measure => simp [intOf]; omega
      · have hkk : k = X.length := by rw [HVN.out]; omega
        have HE : Hid (reachOf p h X n D = reachTo (distL p X n) D k) := by show _ = _; unfold reachOf; rw [if_pos HA.out, hkk]
        go_wp2
        go_ret
        exact ⟨_, rfl, by rw [HE.out]; exact HT.out.own.lower (Nat.le_succ _), HT.out.grown⟩
  · have hA2 : isOpen W H X a = false := by simpa using hA
    rw [hA2] at hs
    have HS := Lib.hid hs
    have HE : Hid (reachOf W H X a D = []) := by show _ = _; unfold reachOf; rw [if_neg hA]
    clear hs hA hA2
    go_wp2_with fail
    refine HS.out.mono ?_
    rintro e w2 ⟨rfl, hg⟩
    have HG2 := Lib.hid (grownN_trans HG0.out hg)
    have HO2 := Lib.hid (HO0.out.grown hg)
    clear hg
    go_wp2
    go_ret
    exact ⟨_, rfl, by rw [HE.out]; exact HO2.out.lower (Nat.le_succ _), HG2.out⟩
end Go.Proofs.YtonalkamfgpokaaGreat.WayI
