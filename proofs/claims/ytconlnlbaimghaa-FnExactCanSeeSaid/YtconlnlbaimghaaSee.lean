/- Contracts of what can be seen from a cell, of the program and of its model. -/
import Derived.Test.YtconlnlbaimghaaApartS
import Derived.Test.YtconlnlbaimghaaApartI
import Derived.IntWalk
import Derived.WalkKit
namespace Go.Proofs.Ytconlnlbaimghaa.See
open Go.RowKit Kit Rw Ld

theorem info_int : (Try.prog.info? 3).map (fun i => (i.zero, i.size, i.bytes)) = some (some (.int .i64 0), 1, 8) := by kernel_rfl
def seeTo (W H : Int) (X : List Int) (c f : Int) : Nat → List Int
  | 0 => []
  | j + 1 => if apart W H X c j ≤ f then seeTo W H X c f j ++ [(j : Int)] else seeTo W H X c f j
theorem seeTo_len (W H : Int) (X : List Int) (c f : Int) : ∀ j, (seeTo W H X c f j).length ≤ j
  | 0 => Nat.le_refl _
  | j + 1 => by have := seeTo_len W H X c f j; unfold seeTo; split <;> simp <;> omega
noncomputable def see (W H : Int) (X : List Int) (c f : Int) : List Int := if isCell W H X c = true then seeTo W H X c f X.length else []
theorem see_len (W H : Int) (X : List Int) (c f : Int) : (see W H X c f).length ≤ X.length := by
  have := seeTo_len W H X c f X.length
  unfold see; split
  · exact this
  · simp
theorem see_yes {W H : Int} {X : List Int} {c f : Int} (h : isCell W H X c = true) : see W H X c f = seeTo W H X c f X.length := if_pos h
theorem see_no {W H : Int} {X : List Int} {c f : Int} (h : isCell W H X c = false) : see W H X c f = [] := if_neg (by rw [h]; simp)
theorem seeTo_yes {W H : Int} {X : List Int} {c f : Int} {j : Nat} (h : apart W H X c j ≤ f) : seeTo W H X c f (j + 1) = seeTo W H X c f j ++ [(j : Int)] := if_pos h
theorem seeTo_no {W H : Int} {X : List Int} {c f : Int} {j : Nat} (h : ¬ apart W H X c j ≤ f) : seeTo W H X c f (j + 1) = seeTo W H X c f j := if_neg h

structure SS (w wr : World) (cs : Array Value) (u : Value) (L : List Int) : Prop where
  box : Box wr w.heap.size cs 38
  own : Own .i64 3 wr (w.heap.size + 1) u L
  grown : w.grownBy wr none
theorem SS.on {w wr wy : World} {cs : Array Value} {u : Value} {L : List Int} (h : SS w wr cs u L) (hg : wr.grownBy wy none) : SS w wy cs u L := ⟨h.box.grown hg, h.own.grown hg, grownN_trans h.grown hg⟩
theorem SS.more {w wr wy : World} {cs : Array Value} {u u' : Value} {L L' : List Int} (h : SS w wr cs u L) (ho : Own .i64 3 wy (w.heap.size + 1) u' L') (hg : wr.grownBy wy u.ownBlock) : SS w wy cs u' L' :=
  ⟨h.box.kept hg (h.own.off (Nat.lt_succ_self _)), ho, grown_new h.grown hg (fun c hc => by have := h.own.lt c hc; omega)⟩
theorem SS.start (w : World) (cs : Array Value) : SS w ((w.alloc (.cells cs 38 (0, 0))).alloc (.cells #[] 3 (0, 0))) cs (.slice (some ⟨w.heap.size + 1, 0, none⟩) 0 0) [] :=
  ⟨(box_new w cs 38).grown (World.grownBy_alloc _ _ _), by have := own_empty (k := .i64) (E := 3) (w.alloc (.cells cs 38 (0, 0))); simpa using this, grownN_trans (World.grownBy_alloc _ _ _) (World.grownBy_alloc _ _ _)⟩

set_option maxRecDepth 20000 in
set_option maxHeartbeats 2000000 in
theorem iSee_any (w : World) (W H c f : Int) (v : Value) (X : List Int) (hv : Sees .i64 w v X) (hn : X.length ≤ 1000000000) :
    Calls Try.prog 27 #[.agg #[.int .i64 W, .int .i64 H, v], .int .i64 c, .int .i64 f] w fun e w' => ∃ u, e = .returned u ∧ Own .i64 3 w' w.heap.size u (see W H X c f) ∧ w.grownBy w' none := by
  obtain ⟨va, vn, vc, hvv, HVN⟩ := hv.shape
  subst hvv
  have hvn : vn ≤ 1000000000 := by rw [← HVN.out]; exact hn
  have HS0 := Lib.hid (SS.start w #[.int .i64 W, .int .i64 H, .slice va vn vc])
  have HV := Lib.hid hv
  have c0 := HS0.out.box.cell 0
  have c1 := HS0.out.box.cell 1
  have c2 := HS0.out.box.cell 2
  have hcell := fun w' hx => LandI.isCell_any w' W H c (.slice va vn vc) X hx
  have hap := fun w' (j : Nat) hx => LandI.apart_any w' W H c j (.slice va vn vc) X hx
  have HAP := Lib.hid hap
  obtain ⟨i0, hi, hz0, hz1, hz2⟩ := info_parts info_int
  clear hv hn hap
  cases hc : isCell W H X c
  · rw [hc] at hcell
    have HCE := Lib.hid hcell
    have HR : Hid (see W H X c f = []) := see_no hc
    clear hc hcell
    go_enter Try.func27, Try.ntmps27
    go_wp2_with fail
    generalize (w.alloc (.cells #[.int .i64 W, .int .i64 H, .slice va vn vc] 38 (0, 0))).alloc (.cells #[] 3 (0, 0)) = W2 at *
    refine (HCE.out _ (HV.out.grown HS0.out.grown)).mono ?_
    rintro e w3 ⟨rfl, hg⟩
    have HS3 := Lib.hid (HS0.out.on hg)
    clear hg c0 c1 c2 HS0
    obtain ⟨c0, c1, c2⟩ := And.intro (HS3.out.box.cell 0) (And.intro (HS3.out.box.cell 1) (HS3.out.box.cell 2))
    go_wp2
    go_ret
    exact ⟨_, rfl, by rw [HR.out]; exact HS3.out.own.lower (by omega), HS3.out.grown⟩
  · rw [hc] at hcell
    have HCE := Lib.hid hcell
    have HR : Hid (see W H X c f = seeTo W H X c f X.length) := see_yes hc
    clear hc hcell
    go_enter Try.func27, Try.ntmps27
    go_wp2_with fail
    generalize (w.alloc (.cells #[.int .i64 W, .int .i64 H, .slice va vn vc] 38 (0, 0))).alloc (.cells #[] 3 (0, 0)) = W2 at *
    refine (HCE.out _ (HV.out.grown HS0.out.grown)).mono ?_
    rintro e w3 ⟨rfl, hg⟩
    have HS3 := Lib.hid (HS0.out.on hg)
    clear hg c0 c1 c2 HS0
    obtain ⟨c0, c1, c2⟩ := And.intro (HS3.out.box.cell 0) (And.intro (HS3.out.box.cell 1) (HS3.out.box.cell 2))
    go_wp2
    go_loopw [7, 18] (fun u i wr => ∃ j : Nat, j ≤ vn ∧ i = .int .i64 j ∧ Hid (SS w wr #[.int .i64 W, .int .i64 H, .slice va vn vc] u (seeTo W H X c f j))) (fun _ i _ => vn - (intOf i).toNat)
    case atStart => exact ⟨0, Nat.zero_le _, rfl, HS3⟩
    case round =>
      rename_i u _ wr
      obtain ⟨j, hj, rfl, HS⟩ := hrel
      by_cases hlt : j < vn
      · skip
        have hj0 : (0 : Int) ≤ (j : Int) := by omega
        have hjv : (j : Int) < (vn : Int) := by omega
        obtain ⟨z, hz⟩ : ∃ z, z = apart W H X c j := ⟨_, rfl⟩
        have HZ := Lib.hid hz
        obtain ⟨c0, c1, c2⟩ := And.intro (HS.out.box.cell 0) (And.intro (HS.out.box.cell 1) (HS.out.box.cell 2))
        have hlen : (seeTo W H X c f j).length ≤ 1000000000 := Nat.le_trans (seeTo_len W H X c f j) (by omega)
        have HLEN := Lib.hid hlen
        clear hz hlen
        go_wp2_with fail
        refine (HAP.out _ j (HV.out.grown HS.out.grown)).mono ?_
        rintro e w5 ⟨rfl, hg⟩
        rw [← HZ.out]
        have HS5 := Lib.hid (HS.out.on hg)
        clear hg HS
        by_cases hz : z ≤ f
        · have HN : Hid (seeTo W H X c f (j + 1) = seeTo W H X c f j ++ [(j : Int)]) := seeTo_yes (by rw [← HZ.out]; exact hz)
          go_wp2_with (at_builtin; go_loud (refine wpList_append_one _ rfl _ _ 36 rfl (w.heap.size + 1) 3 i0 (.int .i64 0) 8 Try.underlying36 hi hz0 hz1 hz2 rfl .i64 _ (seeTo W H X c f j) rfl HS5.out.own (j : Int) rfl (i64_mk (by omega)) (by have := HLEN.out; omega) (by decide) HS5.out.box.lt ?_); intro v4 w4 hown4 hgrow4; have HS6 := Lib.hid (HS5.out.more hown4 hgrow4); clear hown4 hgrow4)
          go_roundw
          case rel => exact ⟨j + 1, by omega, by go_num, by rw [HN.out]; exact HS6⟩
          case measure => simp [intOf]; omega
        · have HN : Hid (seeTo W H X c f (j + 1) = seeTo W H X c f j) := seeTo_no (by rw [← HZ.out]; exact hz)
          go_wp2
          go_roundw
          case rel => exact ⟨j + 1, by omega, by go_num, by rw [HN.out]; exact HS5⟩
          case measure => simp [intOf]; omega
      · have : j = vn := by omega
        subst this
        obtain ⟨c0, c1, c2⟩ := And.intro (HS.out.box.cell 0) (And.intro (HS.out.box.cell 1) (HS.out.box.cell 2))
        go_wp2
        go_ret
        exact ⟨_, rfl, by rw [HR.out, HVN.out]; exact HS.out.own.lower (by omega), HS.out.grown⟩

set_option maxRecDepth 20000 in
set_option maxHeartbeats 2000000 in
theorem sSee_any (w : World) (W H c f : Int) (v : Value) (X : List Int) (hv : Sees .i64 w v X) (hn : X.length ≤ 1000000000) :
    Calls Try.prog 25 #[.agg #[.int .i64 W, .int .i64 H, v], .int .i64 c, .int .i64 f] w fun e w' => ∃ u, e = .returned u ∧ Own .i64 3 w' w.heap.size u (see W H X c f) ∧ w.grownBy w' none := by
  obtain ⟨va, vn, vc, hvv, HVN⟩ := hv.shape
  subst hvv
  have hvn : vn ≤ 1000000000 := by rw [← HVN.out]; exact hn
  have HS0 := Lib.hid (SS.start w #[.int .i64 W, .int .i64 H, .slice va vn vc])
  have HV := Lib.hid hv
  have c0 := HS0.out.box.cell 0
  have c1 := HS0.out.box.cell 1
  have c2 := HS0.out.box.cell 2
  have hcell := fun w' hx => LandS.sIsCell_any w' W H c (.slice va vn vc) X hx
  have hap := fun w' (j : Nat) hx => LandS.sApart_any w' W H c j (.slice va vn vc) X hx
  have HAP := Lib.hid hap
  obtain ⟨i0, hi, hz0, hz1, hz2⟩ := info_parts info_int
  clear hv hn hap
  cases hc : isCell W H X c
  · rw [hc] at hcell
    have HCE := Lib.hid hcell
    have HR : Hid (see W H X c f = []) := see_no hc
    clear hc hcell
    go_enter Try.func25, Try.ntmps25
    go_wp2
    generalize (w.alloc (.cells #[.int .i64 W, .int .i64 H, .slice va vn vc] 38 (0, 0))).alloc (.cells #[] 3 (0, 0)) = W2 at *
    refine wp_loop_rounds 1 ?_
    rw [rounds_succ]
    by_cases h0 : 0 < vn
    · go_wp2_with fail
      refine (HCE.out _ (HV.out.grown HS0.out.grown)).mono ?_
      rintro e w3 ⟨rfl, hg⟩
      have HS3 := Lib.hid (HS0.out.on hg)
      clear hg
      go_wp2
      go_ret
      exact ⟨_, rfl, by rw [HR.out]; exact HS3.out.own.lower (by omega), HS3.out.grown⟩
    · have : vn = 0 := by omega
      subst this
      go_wp2
      go_ret
      exact ⟨_, rfl, by rw [HR.out]; exact HS0.out.own.lower (by omega), HS0.out.grown⟩
  · rw [hc] at hcell
    have HCE := Lib.hid hcell
    have HR : Hid (see W H X c f = seeTo W H X c f X.length) := see_yes hc
    clear hc hcell
    go_enter Try.func25, Try.ntmps25
    go_wp2
    generalize (w.alloc (.cells #[.int .i64 W, .int .i64 H, .slice va vn vc] 38 (0, 0))).alloc (.cells #[] 3 (0, 0)) = W2 at *
    clear c0 c1 c2
    go_loopw [7, 8] (fun u i wr => ∃ j : Nat, j ≤ vn ∧ i = .int .i64 j ∧ Hid (SS w wr #[.int .i64 W, .int .i64 H, .slice va vn vc] u (seeTo W H X c f j))) (fun _ i _ => vn - (intOf i).toNat)
    case atStart => exact ⟨0, Nat.zero_le _, rfl, HS0⟩
    case round =>
      rename_i u _ wr
      obtain ⟨j, hj, rfl, HS⟩ := hrel
      by_cases hlt : j < vn
      · skip
        have hj0 : (0 : Int) ≤ (j : Int) := by omega
        have hjv : (j : Int) < (vn : Int) := by omega
        obtain ⟨c0, c1, c2⟩ := And.intro (HS.out.box.cell 0) (And.intro (HS.out.box.cell 1) (HS.out.box.cell 2))
        go_wp2_with fail
        refine (HCE.out _ (HV.out.grown HS.out.grown)).mono ?_
        rintro e w3 ⟨rfl, hg⟩
        replace HS := Lib.hid (HS.out.on hg)
        clear hg c0 c1 c2
        obtain ⟨z, hz⟩ : ∃ z, z = apart W H X c j := ⟨_, rfl⟩
        have HZ := Lib.hid hz
        obtain ⟨c0, c1, c2⟩ := And.intro (HS.out.box.cell 0) (And.intro (HS.out.box.cell 1) (HS.out.box.cell 2))
        have hlen : (seeTo W H X c f j).length ≤ 1000000000 := Nat.le_trans (seeTo_len W H X c f j) (by omega)
        have HLEN := Lib.hid hlen
        clear hz hlen
        go_wp2_with fail
        refine (HAP.out _ j (HV.out.grown HS.out.grown)).mono ?_
        rintro e w5 ⟨rfl, hg⟩
        rw [← HZ.out]
        have HS5 := Lib.hid (HS.out.on hg)
        clear hg HS
        by_cases hz : z ≤ f
        · have HN : Hid (seeTo W H X c f (j + 1) = seeTo W H X c f j ++ [(j : Int)]) := seeTo_yes (by rw [← HZ.out]; exact hz)
          go_wp2_with (at_builtin; go_loud (refine wpList_append_one _ rfl _ _ 36 rfl (w.heap.size + 1) 3 i0 (.int .i64 0) 8 Try.underlying36 hi hz0 hz1 hz2 rfl .i64 _ (seeTo W H X c f j) rfl HS5.out.own (j : Int) rfl (i64_mk (by omega)) (by have := HLEN.out; omega) (by decide) HS5.out.box.lt ?_); intro v4 w4 hown4 hgrow4; have HS6 := Lib.hid (HS5.out.more hown4 hgrow4); clear hown4 hgrow4)
          go_roundw
          case rel => exact ⟨j + 1, by omega, by go_num, by rw [HN.out]; exact HS6⟩
          case measure => simp [intOf]; omega
        · have HN : Hid (seeTo W H X c f (j + 1) = seeTo W H X c f j) := seeTo_no (by rw [← HZ.out]; exact hz)
          go_wp2
          go_roundw
          case rel => exact ⟨j + 1, by omega, by go_num, by rw [HN.out]; exact HS5⟩
          case measure => simp [intOf]; omega
      · have : j = vn := by omega
        subst this
        obtain ⟨c0, c1, c2⟩ := And.intro (HS.out.box.cell 0) (And.intro (HS.out.box.cell 1) (HS.out.box.cell 2))
        go_wp2
        go_ret
        exact ⟨_, rfl, by rw [HR.out, HVN.out]; exact HS.out.own.lower (by omega), HS.out.grown⟩
end Go.Proofs.Ytconlnlbaimghaa.See
