/- Contracts of reading a cell, of the program and of its model. -/
import Derived.Test.YtoanhnklemlfmaaDoorCtx
namespace Go.Proofs.YtoanhnklemlfmaaDoor.Pcl
open Go.RowKit Kit Rw Rg Ld Txt Ctx

/-- The first index from j on, of so many, that is asked for. -/
def seek (p : Nat → Bool) : Nat → Nat → Int
  | 0, _ => -1
  | f + 1, j => if p j = true then j else seek p f (j + 1)
theorem seek_yes {p : Nat → Bool} {n j : Nat} (hj : j < n) (h : p j = true) : seek p (n - j) j = j := by
  obtain ⟨f, hf⟩ : ∃ f, n - j = f + 1 := ⟨n - j - 1, by omega⟩
  rw [hf, seek, if_pos h]
theorem seek_no {p : Nat → Bool} {n j : Nat} (hj : j < n) (h : p j = false) : seek p (n - j) j = seek p (n - (j + 1)) (j + 1) := by
  obtain ⟨f, hf⟩ : ∃ f, n - j = f + 1 := ⟨n - j - 1, by omega⟩
  rw [hf, seek, if_neg (by rw [h]; decide), show n - (j + 1) = f by omega]
theorem seek_end (p : Nat → Bool) (n : Nat) : seek p (n - n) n = -1 := by rw [Nat.sub_self]; rfl
noncomputable def isIt (W H : Int) (X : List Int) (s : ByteArray) (k : Nat) : Bool := decide (cellT W H X k = s)
noncomputable def parse (W H : Int) (X : List Int) (s : ByteArray) : Int := if isLand W H X = true then seek (isIt W H X s) X.length 0 else -1
theorem parse_no {W H : Int} {X : List Int} {s : ByteArray} (h : isLand W H X = false) : parse W H X s = -1 := if_neg (by rw [h]; simp)
theorem parse_yes {W H : Int} {X : List Int} {s : ByteArray} (h : isLand W H X = true) : parse W H X s = seek (isIt W H X s) X.length 0 := if_pos h
theorem ret_i {a b : Int} (h : a = b) : Ending.returned (.int .i64 a) = .returned (.int .i64 b) := by rw [h]
theorem bne {a b : ByteArray} (h : a ≠ b) : (a.toList == b.toList) = false := by
  rw [beq_eq_false_iff_ne]
  intro e
  apply h
  apply ByteArray.ext
  apply Array.toList_inj.1
  rw [ByteArray.toList_eq, ByteArray.toList_eq] at e
  exact e

set_option maxRecDepth 20000 in
set_option maxHeartbeats 2000000 in
theorem iParse_any (w : World) (W H : Int) (s : ByteArray) (v : Value) (X : List Int) (hv : Sees .i64 w v X) (htab : Fmt.Pow10 w) :
    Calls Tryd.prog 20 #[.agg #[.int .i64 W, .int .i64 H, v], .string s] w fun e w' => e = .returned (.int .i64 (parse W H X s)) ∧ w.grownBy w' none := by
  obtain ⟨va, vn, vc, rfl, HVN⟩ := hv.shape
  have hvl := hv.len
  rw [HVN.out] at hvl
  have hgr := World.grownBy_alloc w (.cells #[.int .i64 W, .int .i64 H, .slice va vn vc] 27 (0, 0)) none
  have HG := Lib.hid hgr
  have HV := Lib.hid hv
  have HT := Lib.hid htab
  have HB := Lib.hid (box_new w #[.int .i64 W, .int .i64 H, .slice va vn vc] 27)
  obtain ⟨c0, c1, c2⟩ := HB.out.three
  have hs := LandI.isLand_any _ W H _ X (hv.grown hgr)
  have hcell := fun w' (j : Nat) hx ht => Ctx.iCell_any w' W H j (.slice va vn vc) X hx ht
  have HCE := Lib.hid hcell
  clear hgr hv htab hcell
  cases hc : isLand W H X
  · rw [hc] at hs
    have HS := Lib.hid hs
    have HR : Hid (parse W H X s = -1) := parse_no hc
    clear hs hc
    go_enter Tryd.func20, Tryd.ntmps20
    go_wp2_with fail
    refine HS.out.mono ?_
    rintro e w2 ⟨rfl, hg⟩
    have HG2 := Lib.hid (grownN_trans HG.out hg)
    clear hg
    go_wp2
    go_ret
    exact ⟨ret_i HR.out.symm, HG2.out⟩
  · rw [hc] at hs
    have HS := Lib.hid hs
    have HR : Hid (parse W H X s = seek (isIt W H X s) X.length 0) := parse_yes hc
    clear hs hc
    go_enter Tryd.func20, Tryd.ntmps20
    go_wp2_with fail
    refine HS.out.mono ?_
    rintro e w2 ⟨rfl, hg⟩
    have HG2 := Lib.hid (grownN_trans HG.out hg)
    have HB2 := Lib.hid (HB.out.grown hg)
    clear hg c0 c1 c2
    obtain ⟨c0, c1, c2⟩ := HB2.out.three
    go_wp2
    go_loopw [12] (fun i wr => ∃ j : Nat, j ≤ vn ∧ i = .int .i64 j ∧ Hid (seek (isIt W H X s) X.length 0 = seek (isIt W H X s) (vn - j) j) ∧ Hid (w.grownBy wr none) ∧ Hid (Box wr w.heap.size #[.int .i64 W, .int .i64 H, .slice va vn vc] 27)) (fun i _ => vn - (intOf i).toNat)
    case atStart => exact ⟨0, Nat.zero_le _, rfl, by show _ = _; rw [HVN.out, Nat.sub_zero], HG2, HB2⟩
    case round =>
      rename_i _ wr
      obtain ⟨j, hj, rfl, HK, HGr, HBr⟩ := hrel
      clear c0 c1 c2
      by_cases hlt : j < vn
      · have hj0 : (0 : Int) ≤ (j : Int) := by omega
        have hjv : (j : Int) < (vn : Int) := by omega
        obtain ⟨c0, c1, c2⟩ := HBr.out.three
        obtain ⟨t, ht⟩ : ∃ t, t = cellT W H X j := ⟨_, rfl⟩
        have HTT := Lib.hid ht
        clear ht
        go_wp2_with fail
        refine (HCE.out wr j (HV.out.grown HGr.out) (pow_grown HT.out HGr.out)).mono ?_
        rintro e w5 ⟨rfl, hg⟩
        rw [← HTT.out]
        have HG5 := Lib.hid (grownN_trans HGr.out hg)
        have HB5 := Lib.hid (HBr.out.grown hg)
        clear hg c0 c1 c2
        by_cases hz : t = s
        · have HN : Hid (seek (isIt W H X s) X.length 0 = j) := by show _ = _; rw [HK.out, seek_yes hlt]; unfold isIt; rw [← HTT.out]; exact decide_eq_true hz
          subst hz
          go_wp2
          go_ret
          exact ⟨ret_i (by rw [HR.out, HN.out]), HG5.out⟩
        · have HN : Hid (seek (isIt W H X s) X.length 0 = seek (isIt W H X s) (vn - (j + 1)) (j + 1)) := by show _ = _; rw [HK.out, seek_no hlt]; unfold isIt; rw [← HTT.out]; exact decide_eq_false hz
          have hz1 := bne hz
          clear hz
          go_wp2
          go_roundw
          case rel => exact ⟨j + 1, by omega, by go_num, HN, HG5, HB5⟩
          case measure => simp [intOf]; omega
      · have : j = vn := by omega
        subst this
        go_wp2
        go_ret
        exact ⟨ret_i (by rw [HR.out, HK.out, seek_end]), HGr.out⟩

set_option maxRecDepth 20000 in
set_option maxHeartbeats 2000000 in
theorem sParse_any (w : World) (W H : Int) (s : ByteArray) (v : Value) (X : List Int) (hv : Sees .i64 w v X) :
    Calls Tryd.prog 19 #[.agg #[.int .i64 W, .int .i64 H, v], .string s] w fun e w' => e = .returned (.int .i64 (parse W H X s)) ∧ w.grownBy w' none := by
  obtain ⟨va, vn, vc, rfl, HVN⟩ := hv.shape
  have hvl := hv.len
  rw [HVN.out] at hvl
  have hgr := World.grownBy_alloc w (.cells #[.int .i64 W, .int .i64 H, .slice va vn vc] 27 (0, 0)) none
  have HG := Lib.hid hgr
  have HV := Lib.hid hv
  have HB := Lib.hid (box_new w #[.int .i64 W, .int .i64 H, .slice va vn vc] 27)
  obtain ⟨c0, c1, c2⟩ := HB.out.three
  have hland := fun w' hx => LandS.sIsLand_any w' W H (.slice va vn vc) X hx
  have hcell := fun w' (j : Nat) hx => Ctx.sCell_any w' W H j (.slice va vn vc) X hx
  have HCE := Lib.hid hcell
  clear hgr hv hcell
  cases hc : isLand W H X
  · rw [hc] at hland
    have HS := Lib.hid hland
    have HR : Hid (parse W H X s = -1) := parse_no hc
    clear hland hc
    go_enter Tryd.func19, Tryd.ntmps19
    go_wp2
    generalize w.alloc (.cells #[.int .i64 W, .int .i64 H, .slice va vn vc] 27 (0, 0)) = W2 at *
    refine wp_loop_rounds 1 ?_
    rw [rounds_succ]
    by_cases h0 : 0 < vn
    · go_wp2_with fail
      refine (HS.out _ (HV.out.grown HG.out)).mono ?_
      rintro e w3 ⟨rfl, hg⟩
      have HG3 := Lib.hid (grownN_trans HG.out hg)
      clear hg
      go_wp2
      go_ret
      exact ⟨ret_i HR.out.symm, HG3.out⟩
    · have : vn = 0 := by omega
      subst this
      go_wp2
      go_ret
      exact ⟨ret_i HR.out.symm, HG.out⟩
  · rw [hc] at hland
    have HS := Lib.hid hland
    have HR : Hid (parse W H X s = seek (isIt W H X s) X.length 0) := parse_yes hc
    clear hland hc
    go_enter Tryd.func19, Tryd.ntmps19
    go_wp2
    generalize w.alloc (.cells #[.int .i64 W, .int .i64 H, .slice va vn vc] 27 (0, 0)) = W2 at *
    clear c0 c1 c2
    go_loopw [5] (fun i wr => ∃ j : Nat, j ≤ vn ∧ i = .int .i64 j ∧ Hid (seek (isIt W H X s) X.length 0 = seek (isIt W H X s) (vn - j) j) ∧ Hid (w.grownBy wr none) ∧ Hid (Box wr w.heap.size #[.int .i64 W, .int .i64 H, .slice va vn vc] 27)) (fun i _ => vn - (intOf i).toNat)
    case atStart => exact ⟨0, Nat.zero_le _, rfl, by show _ = _; rw [HVN.out, Nat.sub_zero], HG, HB⟩
    case round =>
      rename_i _ wr
      obtain ⟨j, hj, rfl, HK, HGr, HBr⟩ := hrel
      obtain ⟨c0, c1, c2⟩ := HBr.out.three
      by_cases hlt : j < vn
      · have hj0 : (0 : Int) ≤ (j : Int) := by omega
        have hjv : (j : Int) < (vn : Int) := by omega
        obtain ⟨t, ht⟩ : ∃ t, t = cellT W H X j := ⟨_, rfl⟩
        have HTT := Lib.hid ht
        clear ht
        go_wp2_with fail
        refine (HS.out _ (HV.out.grown HGr.out)).mono ?_
        rintro e w3 ⟨rfl, hg⟩
        have HG3 := Lib.hid (grownN_trans HGr.out hg)
        have HB3 := Lib.hid (HBr.out.grown hg)
        clear hg c0 c1 c2
        obtain ⟨c0, c1, c2⟩ := HB3.out.three
        go_wp2_with fail
        refine (HCE.out w3 j (HV.out.grown HG3.out)).mono ?_
        rintro e w5 ⟨rfl, hg⟩
        rw [← HTT.out]
        have HG5 := Lib.hid (grownN_trans HG3.out hg)
        have HB5 := Lib.hid (HB3.out.grown hg)
        clear hg c0 c1 c2
        by_cases hz : t = s
        · have HN : Hid (seek (isIt W H X s) X.length 0 = j) := by show _ = _; rw [HK.out, seek_yes hlt]; unfold isIt; rw [← HTT.out]; exact decide_eq_true hz
          subst hz
          go_wp2
          go_ret
          exact ⟨ret_i (by rw [HR.out, HN.out]), HG5.out⟩
        · have HN : Hid (seek (isIt W H X s) X.length 0 = seek (isIt W H X s) (vn - (j + 1)) (j + 1)) := by show _ = _; rw [HK.out, seek_no hlt]; unfold isIt; rw [← HTT.out]; exact decide_eq_false hz
          have hz1 := bne hz
          clear hz
          go_wp2
          go_roundw
          case rel => exact ⟨j + 1, by omega, by go_num, HN, HG5, HB5⟩
          case measure => simp [intOf]; omega
      · have : j = vn := by omega
        subst this
        go_wp2
        go_ret
        exact ⟨ret_i (by rw [HR.out, HK.out, seek_end]), HGr.out⟩
end Go.Proofs.YtoanhnklemlfmaaDoor.Pcl
