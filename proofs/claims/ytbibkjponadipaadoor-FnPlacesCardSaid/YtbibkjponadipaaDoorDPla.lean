/- Contract of the draw of places after steps and sights. -/
import Derived.Test.YtbibkjponadipaaDoorG7
import Derived.Test.YtbibkjponadipaaDoorWayT
import Derived.Test.YtbibkjponadipaaDoorApartS
import Derived.Test.YtbibkjponadipaaDoorWayF
import Derived.OwnWalk
namespace Go.Proofs.YtbibkjponadipaaDoor.Draw
open Go.RowKit Kit Rw Inf Ld Bfs Wf

theorem apart_i64 {W H : Int} {X : List Int} (a b : Int) : -1 ≤ apart W H X a b ∧ apart W H X a b ≤ 200 := by
  unfold apart
  split
  · rename_i h
    obtain ⟨hL, a0, a1⟩ := isCell_of h.1
    obtain ⟨_, b0, b1⟩ := isCell_of h.2
    obtain ⟨hW, hH, hLen, _⟩ := isLand_of hL
    have h64 := area hW hH
    have e1 := Int.emod_nonneg a (show W ≠ 0 by omega)
    have e2 := Int.emod_lt_of_pos a (show 0 < W by omega)
    have e3 := Int.emod_nonneg b (show W ≠ 0 by omega)
    have e4 := Int.emod_lt_of_pos b (show 0 < W by omega)
    have d1 := Int.ediv_nonneg a0 (show 0 ≤ W by omega)
    have d2 := Int.ediv_nonneg b0 (show 0 ≤ W by omega)
    have d3 := Int.ediv_le_self (a := a) W a0
    have d4 := Int.ediv_le_self (a := b) W b0
    generalize a % W = p at *
    generalize b % W = q at *
    generalize a / W = r at *
    generalize b / W = s at *
    unfold mx
    constructor
    · split <;> split <;> omega
    · split <;> split <;> omega
  · omega
theorem land_open {W H : Int} {X : List Int} (hW : 2 ≤ W ∧ W ≤ 6) (hH : 2 ≤ H ∧ H ≤ 5) (hl : (X.length : Int) = W * H) (hx : ∀ x ∈ X, 0 ≤ x ∧ x ≤ 2) (h0 : X.getD 0 0 = 0) : isOpen W H X 0 = true := by
  have hA := area (W := W) (H := H) (by omega) (by omega)
  have hL : isLand W H X = true := by
    simp only [isLand, side, kind, Bool.and_eq_true, decide_eq_true_eq, List.all_eq_true]
    exact ⟨by omega, by omega, hl, hx⟩
  exact isOpen_mk (isCell_mk hL (by omega) (by omega)) (by rw [show (0 : Int).toNat = 0 by rfl, h0]; decide)
theorem reach_pos {W H a D : Int} {X : List Int} (ho : isOpen W H X a = true) (hD : 0 ≤ D) : 0 < (reachOf W H X a D).length := by
  obtain ⟨p, q, n, rfl, rfl, rfl, hn, hL, _, _⟩ := open_nat ho
  unfold reachOf
  rw [if_pos ho]
  have hs := (dist_is hL (a := (n : Int)) (by omega) (by omega)).src
  refine List.length_pos_of_mem (a := (n : Int)) ?_
  unfold reachTo
  rw [List.mem_map]
  refine ⟨n, List.mem_filter.2 ⟨List.mem_range.2 hn, ?_⟩, rfl⟩
  unfold inReach
  rw [decide_eq_true_eq, hs]
  omega

theorem sees_one0 (w : World) : Sees .i64 (w.alloc (.cells #[.int .i64 0] 3 (0, 0))) (.slice (some ⟨w.heap.size, 0, none⟩) 1 1) [0] := by
  refine ⟨_, 1, rfl, by simp, by unfold maxLen; omega, (fun h => by cases h), (fun y hy => by simp at hy; subst hy; rfl), .inr ⟨_, _, rfl, fun j hj => ?_⟩⟩
  have hj0 : j = 0 := by simpa using hj
  subst hj0
  rw [World.cell?_alloc_new]; rfl
/-- Where the draw stands in its loop. -/
structure DQ (w wr : World) (c B : Nat) (W H : Int) (v : Value) (X : List Int) (m r : Value) (M R : List Int) : Prop where
  da : DA w wr c B W H v X
  cl : c < B
  om : Own .i64 3 wr (B + 1) m M
  orr : Own .i64 3 wr (B + 1) r R
  ap : ∀ g, m.ownBlock = some g → r.ownBlock ≠ some g
section
variable {w wr wy : World} {c B : Nat} {W H : Int} {v m r m' r' : Value} {X M R M' R' : List Int}
theorem DQ.call (h : DQ w wr c B W H v X m r M R) (hg : wr.grownBy wy (some c)) (hc : Cur wy c) : DQ w wy c B W H v X m r M R := by
  have h1 := h.cl
  exact ⟨h.da.call hg hc, h.cl, h.om.kept hg (.inr (h.om.off (by omega))), h.orr.kept hg (.inr (h.orr.off (by omega))), h.ap⟩
theorem DQ.on (h : DQ w wr c B W H v X m r M R) (hg : wr.grownBy wy none) : DQ w wy c B W H v X m r M R := ⟨h.da.on hg, h.cl, h.om.grown hg, h.orr.grown hg, h.ap⟩
theorem none_or {u t : Value} (h : ∀ g, u.ownBlock = some g → t.ownBlock ≠ some g) : u.ownBlock = none ∨ u.ownBlock ≠ t.ownBlock := by
  cases e : u.ownBlock with
  | none => exact .inl rfl
  | some g => exact .inr (fun e2 => h g e e2.symm)
theorem DA.row (h : DA w wr c B W H v X) (hc : c < B) {u : Value} (hu : ∀ g, u.ownBlock = some g → B + 1 ≤ g ∧ g < wr.heap.size) (hg : wr.grownBy wy u.ownBlock) : DA w wy c B W H v X := by
  have h1 := h.lt
  have h2 := h.cB
  have hne : ∀ b, b ≤ B → u.ownBlock ≠ some b := fun b hb e => by have := hu b e; omega
  refine ⟨h.box.kept hg (hne B (Nat.le_refl _)), h.res.kept hg (hne _ (by omega)), ?_, h.vb, h.cur.kept_row hg (fun g hb => by have := hu g hb; omega), grown_new h.grown hg (fun g hb => by have := hu g hb; omega), h.lt, h.cB, h.iW, h.iH, h.len⟩
  refine h.sees.kept hg ?_
  cases e : v.ownBlock with
  | none => exact .inl rfl
  | some b => exact .inr (fun e2 => by have h3 := h.vb b e; have h4 := hu b e2.symm; omega)
theorem DQ.moreM (h : DQ w wr c B W H v X m r M R) (ho : Own .i64 3 wy (B + 1) m' M') (hg : wr.grownBy wy m.ownBlock) (hp : m'.ownBlock = m.ownBlock ∨ ∃ g, m'.ownBlock = some g ∧ wr.heap.size ≤ g) : DQ w wy c B W H v X m' r M' R := by
  refine ⟨h.da.row h.cl h.om.lt hg, h.cl, ho, h.orr.kept hg (none_or (fun g e e2 => h.ap g e2 e)), fun g e e2 => ?_⟩
  rcases hp with hp | ⟨g', hp, hp2⟩
  · rw [hp] at e; exact h.ap g e e2
  · rw [hp] at e; injection e with e; have := (h.orr.lt g e2).2; omega
theorem DQ.moreR (h : DQ w wr c B W H v X m r M R) (ho : Own .i64 3 wy (B + 1) r' R') (hg : wr.grownBy wy r.ownBlock) (hp : r'.ownBlock = r.ownBlock ∨ ∃ g, r'.ownBlock = some g ∧ wr.heap.size ≤ g) : DQ w wy c B W H v X m r' M R' := by
  refine ⟨h.da.row h.cl h.orr.lt hg, h.cl, h.om.kept hg (none_or (fun g e e2 => h.ap g e e2)), ho, fun g e e2 => ?_⟩
  rcases hp with hp | ⟨g', hp, hp2⟩
  · rw [hp] at e2; exact h.ap g e e2
  · rw [hp] at e2; injection e2 with e2; have := (h.om.lt g e).2; omega
end

set_option maxRecDepth 100000 in
set_option maxHeartbeats 8000000 in
theorem dpla_any (w : World) (a : Option Addr) (len cap : Nat) (z : List Int) (hr : IsRow .u8 w a len cap z) :
    Calls Tryd.prog 5 #[.slice a len cap] w fun e w' => ∃ W H v X f m M r R, e = .returned (.tuple #[.agg #[.int .i64 W, .int .i64 H, v], f, .int .i64 3, m, r]) ∧ LandOut w w' W H v X ∧ Sees .i64 w' f [0] ∧ Sees .i64 w' m M ∧ Sees .i64 w' r R ∧ M.length ≤ 4 := by
  obtain ⟨i0, hi, hz0, hz1, hz2⟩ := info_parts info_i64
  have hg0 := World.grownBy_alloc w (.cells #[.int .i64 0, .int .i64 0, .slice none 0 0] 26 (0, 0)) (none : Option Nat)
  have HR := Lib.hid (hr.below (grown_below hg0 _ (Nat.le_refl _)))
  have HB := Lib.hid (box_new w #[.int .i64 0, .int .i64 0, .slice none 0 0] 26)
  have HG := Lib.hid hg0
  clear hr hg0
  go_enter Tryd.func5, Tryd.ntmps5
  go_wp2_with fail
  refine (new_any _ a len cap z HR.out).mono ?_
  rintro e w1 ⟨c, rfl, hc, hlc, hb⟩
  simp only [World.size_alloc] at hlc
  have HB1 := Lib.hid (HB.out.below hb)
  have HG1 := Lib.hid (grownN_trans HG.out (below_grown hb))
  have HC := Lib.hid hc
  clear hc hb HB HG HR
  go_wp2_with fail
  refine (ldrawV_any _ _ HC.out).mono ?_
  rintro e w2 ⟨W, H, v, X, rfl, hW, hH, hl, ⟨hxv, hx0⟩, hown, hc2, hg2⟩
  have hop := land_open hW hH hl hxv hx0
  obtain ⟨va, vn, vc, hv, HVN⟩ := hown.sees.shape
  subst hv
  have hsz1 := HG1.out.size
  have hcl := HC.out.lt
  have hl30 : X.length ≤ 30 := by
    have h2 := Int.mul_le_mul hW.2 hH.2 (by omega) (by omega)
    omega
  have hr0 : DA w (w2.alloc (.cells #[.int .i64 W, .int .i64 H, .slice va vn vc] 26 (0, 0))) c w2.heap.size W H (.slice va vn vc) X := by
    have hA1 := World.grownBy_alloc w2 (.cells #[.int .i64 W, .int .i64 H, .slice va vn vc] 26 (0, 0)) (none : Option Nat)
    have hs2 := hg2.size
    refine ⟨box_new _ _ _, (HB1.out.kept hg2 (by simp; omega)).grown hA1, hown.sees.grown hA1, fun b hb => ?_, hc2.kept_row hA1 (fun _ h => by cases h), grownN_trans (grown_new HG1.out hg2 (fun b hb => by injection hb with hb; omega)) hA1, by omega, ⟨by omega, by omega⟩, ⟨by omega, by omega⟩, ⟨by omega, by omega⟩, hl30⟩
    have h1 := hown.lt b hb
    omega
  have HD := Lib.hid hr0
  have HCB : Hid (c < w2.heap.size) := by show _ < _; have := hg2.size; omega
  have HOP := Lib.hid hop
  have HXN : Hid (0 < X.length) := by show _ < _; obtain ⟨hc9, _⟩ := isOpen_of hop; obtain ⟨_, h8, h9⟩ := isCell_of hc9; omega
  have hvn30 : vn ≤ 30 := by rw [← HVN.out]; exact hl30
  have HVB := Lib.hid hvn30
  clear hr0 hW hH hl hxv hx0 hown hc2 hg2 hop HC HB1 HG1 hsz1 hcl hl30 hvn30
  obtain ⟨k0, k1, k2⟩ := HD.out.box.three
  go_wp2_with fail
  generalize w2.alloc (.cells #[.int .i64 W, .int .i64 H, .slice va vn vc] 26 (0, 0)) = w3 at *
  generalize w2.heap.size = B at *
  refine (WayS.sReach_any w3 W H 0 3 (.slice va vn vc) X HD.out.sees).mono ?_
  rintro e w4 ⟨t, rfl, ho, hg⟩
  have HD4 := Lib.hid (HD.out.on hg)
  have hpos := reach_pos (D := 3) HOP.out (by omega)
  obtain ⟨ta, tn, tc, rfl, HTN⟩ := ho.sees.shape
  rw [HTN.out] at hpos
  have HT := Lib.hid ho.sees
  have HTP := Lib.hid hpos
  have htl : tn ≤ 30 := by
    have h1 := reachOf_len W H X 0 3
    have h2 := HVB.out
    have h3 := HVN.out
    have h4 := HTN.out
    omega
  have HTB : Hid (∀ b, (Value.slice ta tn tc).ownBlock = some b → b ≠ c) := fun b hb => by have h1 := (ho.lt b hb).1; have h2 := HD.out.box.lt; have h3 := HCB.out; omega
  clear ho hg k0 k1 k2 hpos
  obtain ⟨k0, k1, k2⟩ := HD4.out.box.three
  go_wp2_with fail
  refine (below_any tn (by omega) _ _ HD4.out.cur).mono ?_
  rintro e w5 ⟨x5, HP5, rfl, hc5, hg5⟩
  have h5 := HP5.1 (by have := HTP.out; omega)
  obtain ⟨n5, rfl⟩ : ∃ n : Nat, x5 = n := ⟨x5.toNat, by omega⟩
  have hT5 := HT.out.kept hg5 (by cases e : (Value.slice ta tn tc).ownBlock with
    | none => exact .inl rfl
    | some b => exact .inr (by have := HTB.out b e; simp; omega))
  have hn5 : n5 < (reachOf W H X 0 3).length := by rw [HTN.out]; omega
  obtain ⟨tb, tof, rfl, hrw5⟩ := hT5.at_row hn5
  clear hrw5
  have hq5 := hT5.at' hn5
  obtain ⟨here, hhere⟩ : ∃ h, h = (reachOf W H X 0 3).getD n5 0 := ⟨_, rfl⟩
  rw [← hhere] at hq5
  have HD5 := Lib.hid (HD4.out.call hg5 hc5)
  have hn5' : n5 < tn := by omega
  clear HP5 hc5 hg5 hT5 hn5 hhere k0 k1 k2
  go_wp2_with fail
  have HQ : Hid (DQ w ((w5.alloc (.cells #[] 3 (0, 0))).alloc (.cells #[] 3 (0, 0))) c B W H (.slice va vn vc) X (.slice (some ⟨w5.heap.size, 0, none⟩) 0 0) (.slice (some ⟨w5.heap.size + 1, 0, none⟩) 0 0) [] []) := by
    have e1 := own_empty (k := .i64) (E := 3) w5
    have e2 := own_empty (k := .i64) (E := 3) (w5.alloc (.cells #[] 3 (0, 0)))
    have a1 := World.grownBy_alloc w5 (.cells #[] 3 (0, 0)) (none : Option Nat)
    have a2 := World.grownBy_alloc (w5.alloc (.cells #[] 3 (0, 0))) (.cells #[] 3 (0, 0)) (none : Option Nat)
    have hB := HD5.out.box.lt
    rw [World.size_alloc] at e2
    exact ⟨HD5.out.on (grownN_trans a1 a2), HCB.out, (e1.grown a2).lower (by omega), e2.lower (by omega), fun g e e2 => by simp [Value.ownBlock] at e e2; omega⟩
  generalize (w5.alloc (.cells #[] 3 (0, 0))).alloc (.cells #[] 3 (0, 0)) = w6 at *
  generalize Value.slice (some ⟨w5.heap.size, 0, none⟩) 0 0 = m0 at *
  generalize Value.slice (some ⟨w5.heap.size + 1, 0, none⟩) 0 0 = r0 at *
  refine (below_any 3 (by omega) _ _ HQ.out.da.cur).mono ?_
  rintro e w7 ⟨x7, HP7, rfl, hc7, hg7⟩
  have h7 := HP7.1 (by omega)
  obtain ⟨n7, rfl⟩ : ∃ n : Nat, x7 = n := ⟨x7.toNat, by omega⟩
  have HQ7 := Lib.hid (HQ.out.call hg7 hc7)
  have hn7 : n7 ≤ 2 := by omega
  clear HP7 hc7 hg7 h7 hq5 h5
  go_wp2_with fail
  go_loopw [11, 12, 13] (fun m r i wr => ∃ (k : Nat) (M R : List Int), k ≤ n7 ∧ i = .int .i64 k ∧ M.length + k ≤ 2 ∧ R.length + k ≤ 2 ∧ Hid (DQ w wr c B W H (.slice va vn vc) X m r M R)) (fun _ _ i _ => (intOf i).toNat)
  case atStart => exact ⟨n7, [], [], Nat.le_refl _, rfl, by simpa using hn7, by simpa using hn7, HQ7⟩
  case round =>
    obtain ⟨mm, hmm⟩ : ∃ t, t = u11 := ⟨_, rfl⟩
    obtain ⟨rr, hrr⟩ : ∃ t, t = u12 := ⟨_, rfl⟩
    obtain ⟨k, M, R, hk, rfl, hM, hR, HK⟩ := hrel
    rw [← hmm, ← hrr] at HK
    rw [← hmm, ← hrr]
    clear hmm hrr
    obtain ⟨k0, k1, k2⟩ := HK.out.da.box.three
    have hvb := HVB.out
    by_cases hlt : 0 < k
    · go_wp2_with fail
      refine (below_any vn (by omega) _ _ HK.out.da.cur).mono ?_
      rintro e w8 ⟨y, HP8, rfl, hc8, hg8⟩
      have h8 := HP8.1 (by have h1 := HXN.out; have h2 := HVN.out; omega)
      have HK8 := Lib.hid (HK.out.call hg8 hc8)
      clear HP8 hc8 hg8 k0 k1 k2
      obtain ⟨k0, k1, k2⟩ := HK8.out.da.box.three
      go_wp2_with (at_builtin; go_loud (refine wpList_append_one_at _ rfl _ _ 24 rfl (B + 1) 3 i0 (.int .i64 0) 8 Tryd.underlying24 hi hz0 hz1 hz2 rfl .i64 _ M rfl HK8.out.om y rfl (i64_mk (by omega)) (by omega) (by decide) HK8.out.da.box.lt ?_); intro v9 w9 hown9 hgrow9 hpl9; have HK9 := Lib.hid (HK8.out.moreM hown9 hgrow9 hpl9); clear hown9 hgrow9 hpl9; obtain ⟨q0, q1, q2⟩ := HK9.out.da.box.three)
      refine (LandS.sApart_any w9 W H y here (.slice va vn vc) X HK9.out.da.sees).mono ?_
      rintro e w10 ⟨rfl, hg10⟩
      have HK10 := Lib.hid (HK9.out.on hg10)
      have hap := apart_i64 (W := W) (H := H) (X := X) y here
      obtain ⟨zz, hzz⟩ : ∃ t, t = apart W H X y here := ⟨_, rfl⟩
      rw [← hzz] at hap ⊢
      have HZZ := Lib.hid (And.intro hap.1 hap.2)
      clear hg10 k0 k1 k2 hzz q0 q1 q2
      go_wp2_with (at_builtin; go_loud (refine wpList_append_one_at _ rfl _ _ 24 rfl (B + 1) 3 i0 (.int .i64 0) 8 Tryd.underlying24 hi hz0 hz1 hz2 rfl .i64 _ R rfl HK10.out.orr zz rfl (i64_mk (by have := HZZ.out; omega)) (by omega) (by decide) HK10.out.da.box.lt ?_); intro v11 w11 hown11 hgrow11 hpl11; have HK11 := Lib.hid (HK10.out.moreR hown11 hgrow11 hpl11); clear hown11 hgrow11 hpl11)
      go_roundw
      case rel => exact ⟨k - 1, M ++ [y], R ++ [zz], by omega, congrArg (Value.int .i64) (by first | omega | (rw [IntWalk.i64_in _ (by omega)]; omega)), by simp; omega, by simp; omega, HK11⟩
      case measure => simp [intOf]; omega
    · have hk0 : k = 0 := by omega
      subst hk0
      go_wp2_with fail
      refine (once_any 8 (by omega) _ _ HK.out.da.cur).mono ?_
      rintro e w8 ⟨b, rfl, hc8, hg8⟩
      have HK8 := Lib.hid (HK.out.call hg8 hc8)
      clear hc8 hg8 k0 k1 k2
      cases b
      · skip
        have HE := Lib.hid (HK8.out.da.on (World.grownBy_alloc w8 (.cells #[.int .i64 0] 3 (0, 0)) none))
        have HF := Lib.hid (sees_one0 w8)
        obtain ⟨k0, k1, k2⟩ := HK8.out.da.box.three
        obtain ⟨⟨p0, r0⟩, ⟨p1, r1⟩, ⟨p2, r2⟩, o0, o1, o2⟩ := put3_on HE.out.res (.int .i64 W) (.int .i64 H) (.slice va vn vc)
        go_wp2
        try simp only [Exit.inBlock, Exit.then]
        refine ret_box4 rfl rfl (put3_box (x' := .int .i64 W) (y' := .int .i64 H) (z' := .slice va vn vc) HE.out.res) Tryd.underlying26 rfl (by kernel_rfl) rfl ?_
        have hP := put3_grown (World.alloc w8 (.cells #[.int .i64 0] 3 (0, 0))) w.heap.size (.int .i64 W) (.int .i64 H) (.slice va vn vc)
        have hsz := HE.out.box.lt
        have hBw := HK8.out.da.box.lt
        have hlt9 := HK8.out.da.cB
        have ga := World.grownBy_alloc w8 (.cells #[.int .i64 0] 3 (0, 0)) (none : Option Nat)
        exact ⟨W, H, _, X, _, _, M, _, R, rfl, HE.out.fin, HF.out.kept hP (.inr (by simp [Value.ownBlock]; omega)), (HK8.out.om.sees.grown ga).kept hP (.inr (HK8.out.om.off (by omega))), (HK8.out.orr.sees.grown ga).kept hP (.inr (HK8.out.orr.off (by omega))), by omega⟩
      · skip
        go_wp2_with (at_builtin; go_loud (refine wpList_append_one_at _ rfl _ _ 24 rfl (B + 1) 3 i0 (.int .i64 0) 8 Tryd.underlying24 hi hz0 hz1 hz2 rfl .i64 _ M rfl HK8.out.om 0 rfl (i64_mk (by omega)) (by omega) (by decide) HK8.out.da.box.lt ?_); intro v9 w9 hown9 hgrow9 hpl9; have HK9 := Lib.hid (HK8.out.moreM hown9 hgrow9 hpl9); clear hown9 hgrow9 hpl9; obtain ⟨k0, k1, k2⟩ := HK9.out.da.box.three; have HE := Lib.hid (HK9.out.da.on (World.grownBy_alloc w9 (.cells #[.int .i64 0] 3 (0, 0)) none)); have HF := Lib.hid (sees_one0 w9); obtain ⟨⟨p0, r0⟩, ⟨p1, r1⟩, ⟨p2, r2⟩, o0, o1, o2⟩ := put3_on HE.out.res (.int .i64 W) (.int .i64 H) (.slice va vn vc))
        try simp only [Exit.inBlock, Exit.then]
        refine ret_box4 rfl rfl (put3_box (x' := .int .i64 W) (y' := .int .i64 H) (z' := .slice va vn vc) HE.out.res) Tryd.underlying26 rfl (by kernel_rfl) rfl ?_
        have hP := put3_grown (World.alloc w9 (.cells #[.int .i64 0] 3 (0, 0))) w.heap.size (.int .i64 W) (.int .i64 H) (.slice va vn vc)
        have hsz := HE.out.box.lt
        have hBw := HK9.out.da.box.lt
        have hlt9 := HK9.out.da.cB
        have ga := World.grownBy_alloc w9 (.cells #[.int .i64 0] 3 (0, 0)) (none : Option Nat)
        exact ⟨W, H, _, X, _, _, (M ++ [0]), _, R, rfl, HE.out.fin, HF.out.kept hP (.inr (by simp [Value.ownBlock]; omega)), (HK9.out.om.sees.grown ga).kept hP (.inr (HK9.out.om.off (by omega))), (HK9.out.orr.sees.grown ga).kept hP (.inr (HK9.out.orr.off (by omega))), by simp; omega⟩
end Go.Proofs.YtbibkjponadipaaDoor.Draw
