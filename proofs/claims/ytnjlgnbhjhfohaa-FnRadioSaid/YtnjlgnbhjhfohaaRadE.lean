/- Contracts of the draws of a radio and an hour. -/
import Derived.Test.YtnjlgnbhjhfohaaRadD
import Derived.Deep.RegionLaw
import Derived.Deep.RegionHeld3
namespace Go.Proofs.Ytnjlgnbhjhfohaa.RadD
open Go.RowKit Kit Rw Tw Draw

/-- Where a draw that hands out a struct stands. -/
structure DT (w wx : World) (c B : Nat) (x y : Int) : Prop where
  box : Box wx B #[.int .i64 x, .int .i64 y] 27
  res : Box wx w.heap.size #[.int .i64 0, .int .i64 0] 27
  cur : Cur wx c
  grown : w.grownBy wx none
  lt : w.heap.size < c
  lb : c < B
section
variable {w wx wy : World} {c B : Nat} {x y : Int}
theorem DT.on (h : DT w wx c B x y) (hg : wx.grownBy wy none) : DT w wy c B x y :=
  ⟨h.box.grown hg, h.res.grown hg, h.cur.kept_row hg (fun _ h => by cases h), grownN_trans h.grown hg, h.lt, h.lb⟩
theorem DT.call (h : DT w wx c B x y) (hg : wx.grownBy wy (some c)) (hc : Cur wy c) : DT w wy c B x y := by
  have h1 := h.lt
  have h2 := h.lb
  exact ⟨h.box.kept hg (by simp; omega), h.res.kept hg (by simp; omega), hc, grown_new h.grown hg (fun g e => by injection e with e; omega), h1, h2⟩
theorem DT.start {w1 w2 : World} (hb : Below (w.alloc (.cells #[.int .i64 0, .int .i64 0] 27 (0, 0))).heap.size (w.alloc (.cells #[.int .i64 0, .int .i64 0] 27 (0, 0))) w1) (hl : (w.alloc (.cells #[.int .i64 0, .int .i64 0] 27 (0, 0))).heap.size ≤ c) (hg : w1.grownBy w2 (some c)) (hc : Cur w2 c) :
    DT w (w2.alloc (.cells #[.int .i64 x, .int .i64 y] 27 (0, 0))) c w2.heap.size x y := by
  have h0 := World.grownBy_alloc w (.cells #[.int .i64 0, .int .i64 0] 27 (0, 0)) (none : Option Nat)
  have h3 := World.grownBy_alloc w2 (.cells #[.int .i64 x, .int .i64 y] 27 (0, 0)) (none : Option Nat)
  have hl' := hl
  simp only [World.size_alloc] at hl'
  have hbx := ((box_new w #[.int .i64 0, .int .i64 0] 27).below hb).kept hg (by simp; omega)
  exact ⟨box_new _ _ _, hbx.grown h3, hc.kept_row h3 (fun _ h => by cases h), grownN_trans (grown_new (grownN_trans h0 (below_grown hb)) hg (fun g e => by injection e with e; omega)) h3, by omega, hc.lt⟩
theorem DT.fin (h : DT w wx c B x y) : w.grownBy (put2 wx w.heap.size (.int .i64 x) (.int .i64 y)) none := grown_new h.grown (put2_grown _ _ _ _) (fun g e => by injection e with e; omega)
end

set_option maxRecDepth 20000 in
set_option maxHeartbeats 2000000 in
theorem dHear_any (w : World) (a : Option Addr) (len cap : Nat) (z : List Int) (hr : IsRow .u8 w a len cap z) :
    Calls Try.prog 25 #[.slice a len cap] w fun e w' => ∃ x y h, e = .returned (.tuple #[.agg #[.int .i64 x, .int .i64 y], .int .i64 h]) ∧ ((-1 ≤ x ∧ x ≤ 200000) ∧ (-1 ≤ y ∧ y ≤ 200000) ∧ -1 ≤ h ∧ h ≤ 200000) ∧ w.grownBy w' none := by
  have hg0 := World.grownBy_alloc w (.cells #[.int .i64 0, .int .i64 0] 27 (0, 0)) (none : Option Nat)
  have HR := Lib.hid (hr.below (grown_below hg0 _ (Nat.le_refl _)))
  clear hr hg0
  go_enter Try.func25, Try.ntmps25
  go_wp2_with fail
  refine (new_any _ a len cap z HR.out).mono ?_
  rintro e w1 ⟨c, rfl, hc, hlc, hb⟩
  have HC := Lib.hid hc
  have HW := Lib.hid hb
  have HLC := Lib.hid hlc
  clear hc hb hlc HR
  go_wp2_with fail
  refine (any2 _ _ HC.out).mono ?_
  rintro e w2 ⟨x, y, rfl, hx, hy, hc2, hg2⟩
  have HT0 := Lib.hid (DT.start (x := x) (y := y) HW.out HLC.out hg2 hc2)
  clear hc2 hg2 HC HW HLC
  obtain ⟨c0, c1⟩ := two HT0.out.box
  go_wp2_with fail
  generalize w2.alloc (.cells #[.int .i64 x, .int .i64 y] 27 (0, 0)) = w3 at *
  generalize w2.heap.size = B at *
  have HT := Lib.hid (HT0.out.on (grown_drew (World.grownBy.refl w3 none)))
  refine wp_region_held_drew (S := fun w' => w'.cell? ⟨B, 0, none⟩ = some (.int .i64 x) ∧ w'.cell? ⟨B, 1, none⟩ = some (.int .i64 y)) (by kernel_rfl) (two HT.out.box) (fun hHeld => ?_)
  refine wpAnyH_take (i := 0) (v := ?_) rfl (by kernel_rfl) (by kernel_rfl) (by kernel_rfl) (fun _ _ _ h => h) (Or.inl ⟨by rfl, ?_⟩) (by assumption) ?_; rotate_left; (focus (intro wS hSw; (try dsimp only at hSw); go_simp <;> with_reducible rfl)); (try simp only [Act.put, List.getElem_toArray, List.getElem_cons_succ, List.getElem_cons_zero, List.setIfInBounds_toArray, List.set_cons_zero, List.set_cons_succ])
  refine wpAnyH_take (i := 1) (v := ?_) rfl (by kernel_rfl) (by kernel_rfl) (by kernel_rfl) (fun _ _ _ h => h) (Or.inl ⟨by rfl, ?_⟩) (by assumption) ?_; rotate_left; (focus (intro wS hSw; (try dsimp only at hSw); go_simp <;> with_reducible rfl)); (try simp only [Act.put, List.getElem_toArray, List.getElem_cons_succ, List.getElem_cons_zero, List.setIfInBounds_toArray, List.set_cons_zero, List.set_cons_succ])
  refine wpAnyH_take (i := 2) (v := ?_) rfl (by kernel_rfl) (by kernel_rfl) (by kernel_rfl) (fun _ _ _ h => h) (Or.inl ⟨by rfl, ?_⟩) (by assumption) ?_; rotate_left; (focus (intro wS hSw; (try dsimp only at hSw); go_simp <;> with_reducible rfl)); (try simp only [Act.put, List.getElem_toArray, List.getElem_cons_succ, List.getElem_cons_zero, List.setIfInBounds_toArray, List.set_cons_zero, List.set_cons_succ])
  refine wpAnyH_take (i := 4) (v := ?_) rfl (by kernel_rfl) (by kernel_rfl) (by kernel_rfl) (fun _ _ _ h => h) (Or.inl ⟨by rfl, ?_⟩) (by assumption) ?_; rotate_left; (focus (intro wS hSw; (try dsimp only at hSw); go_simp <;> with_reducible rfl)); (try simp only [Act.put, List.getElem_toArray, List.getElem_cons_succ, List.getElem_cons_zero, List.setIfInBounds_toArray, List.set_cons_zero, List.set_cons_succ])
  refine wpAnyH_ready (rs := [3]) (by kernel_rfl) (by simp) ?_; refine AllReadyH.cons rfl (fun K hK => ?_) AllReadyH.nil; go_simp; (go_at_call 35; refine (below_any 80 (by omega) _ _ HT.out.cur).mono ?_; rintro e w4 ⟨p, HP, rfl, hc, hg⟩; obtain ⟨hp0, hp1⟩ := HP.1 (by omega); have HT1 := Lib.hid (HT.out.call hg hc); clear HP hc hg)
  refine hK.out _ _ ?_ (fun hHeld => ?_)
  · exact two HT1.out.box
  clear hK K
  (try simp only [Act.put, List.getElem_toArray, List.getElem_cons_succ, List.getElem_cons_zero, List.setIfInBounds_toArray, List.set_cons_zero, List.set_cons_succ])
  refine wpAnyH_ready (rs := [5]) (by kernel_rfl) (by simp) ?_; refine AllReadyH.cons rfl (fun K hK => ?_) AllReadyH.nil; go_simp; (go_at_call 35; refine (below_any 80 (by omega) _ _ HT1.out.cur).mono ?_; rintro e w5 ⟨q, HP, rfl, hc, hg⟩; obtain ⟨hq0, hq1⟩ := HP.1 (by omega); have HT2 := Lib.hid (HT1.out.call hg hc); clear HP hc hg)
  refine hK.out _ _ ?_ (fun hHeld => ?_)
  · exact two HT2.out.box
  clear hK K
  (try simp only [Act.put, List.getElem_toArray, List.getElem_cons_succ, List.getElem_cons_zero, List.setIfInBounds_toArray, List.set_cons_zero, List.set_cons_succ])
  have HL := Lib.hid (int_list [p, q, 6000, 7000, 100000, 100001, -1] w5 c HT2.out.cur (by simp) (by simp))
  have HT3 := Lib.hid (HT2.out.on (World.grownBy_alloc w5 (.cells #[.int .i64 p, .int .i64 q, .int .i64 6000, .int .i64 7000, .int .i64 100000, .int .i64 100001, .int .i64 (-1)] 3 (0, 0)) none))
  refine wpAnyH_ready (rs := [6]) (by kernel_rfl) (by simp) ?_
  refine AllReadyH.cons rfl (fun K hK => ?_) AllReadyH.nil
  go_simp
  refine hK.out _ _ ?_ (fun hHeld => ?_)
  · exact two HT3.out.box
  clear hK K
  (try simp only [Act.put, List.getElem_toArray, List.getElem_cons_succ, List.getElem_cons_zero, List.setIfInBounds_toArray, List.set_cons_zero, List.set_cons_succ])
  refine wpAnyH_ready (rs := [7]) (by kernel_rfl) (by simp) ?_; refine AllReadyH.cons rfl (fun K hK => ?_) AllReadyH.nil; go_simp; (go_at_call 34; refine HL.out.mono ?_; rintro e w6 ⟨h, hz, rfl, hc, hg⟩; have HT4 := Lib.hid (HT2.out.call hg hc); clear hc hg)
  refine hK.out _ _ ?_ (fun hHeld => ?_)
  · exact two HT4.out.box
  clear hK K
  (try simp only [Act.put, List.getElem_toArray, List.getElem_cons_succ, List.getElem_cons_zero, List.setIfInBounds_toArray, List.set_cons_zero, List.set_cons_succ])
  have hh : -1 ≤ h ∧ h ≤ 200000 := by
    simp only [List.mem_cons, List.not_mem_nil, or_false] at hz
    omega
  obtain ⟨⟨p0, r0⟩, ⟨p1, r1⟩, o0, o1⟩ := put2_on HT4.out.res (.int .i64 x) (.int .i64 y)
  have hP := HT4.out.box.kept (put2_grown w6 w.heap.size (.int .i64 x) (.int .i64 y)) (by have := HT4.out.lt; have := HT4.out.lb; simp; omega)
  refine wpAnyH_ready (rs := [8]) (by kernel_rfl) (by simp) ?_
  refine AllReadyH.cons rfl (fun K hK => ?_) AllReadyH.nil
  go_simp
  refine hK.out _ _ ?_ (fun hHeld => ?_)
  · exact two hP
  clear hK K
  (try simp only [Act.put, List.getElem_toArray, List.getElem_cons_succ, List.getElem_cons_zero, List.setIfInBounds_toArray, List.set_cons_zero, List.set_cons_succ])
  refine wpAnyH_take (i := 9) (v := ?_) rfl (by kernel_rfl) (by kernel_rfl) (by kernel_rfl) (fun _ _ _ h => h) (Or.inl ⟨by rfl, ?_⟩) (by assumption) ?_; rotate_left; (focus (intro wS hSw; (try dsimp only at hSw); go_simp <;> with_reducible rfl)); (try simp only [Act.put, List.getElem_toArray, List.getElem_cons_succ, List.getElem_cons_zero, List.setIfInBounds_toArray, List.set_cons_zero, List.set_cons_succ])
  refine wpAnyH_done (by kernel_rfl) ?_ _
  (try simp only [Act.put, List.getElem_toArray, List.getElem_cons_succ, List.getElem_cons_zero, List.setIfInBounds_toArray, List.set_cons_zero, List.set_cons_succ])
  clear hHeld
  go_wp2
  try simp only [Exit.inBlock, Exit.then]
  exact ret_box1 rfl rfl (put2_box (x' := .int .i64 x) (y' := .int .i64 y) HT4.out.res) Try.underlying27 rfl (by kernel_rfl) rfl ⟨x, y, h, rfl, ⟨hx, hy, hh⟩, HT4.out.fin⟩

set_option maxRecDepth 20000 in
set_option maxHeartbeats 2000000 in
theorem dMiss_any (w : World) (a : Option Addr) (len cap : Nat) (z : List Int) (hr : IsRow .u8 w a len cap z) :
    Calls Try.prog 26 #[.slice a len cap] w fun e w' => ∃ x y h, e = .returned (.tuple #[.agg #[.int .i64 x, .int .i64 y], .int .i64 h]) ∧ ((-1 ≤ x ∧ x ≤ 200000) ∧ (-1 ≤ y ∧ y ≤ 200000) ∧ -1 ≤ h ∧ h ≤ 200000) ∧ w.grownBy w' none := by
  have hg0 := World.grownBy_alloc w (.cells #[.int .i64 0, .int .i64 0] 27 (0, 0)) (none : Option Nat)
  have HR := Lib.hid (hr.below (grown_below hg0 _ (Nat.le_refl _)))
  have HB := Lib.hid (box_new w #[.int .i64 0, .int .i64 0] 27)
  have HG := Lib.hid hg0
  clear hr hg0
  go_enter Try.func26, Try.ntmps26
  go_wp2_with fail
  refine (dHear_any _ a len cap z HR.out).mono ?_
  rintro e w1 ⟨x, y, h, rfl, hb, hg⟩
  have HB1 := Lib.hid (HB.out.grown hg)
  have HG1 := Lib.hid (grownN_trans HG.out hg)
  have HBD := Lib.hid hb
  clear hb hg HB HG HR
  obtain ⟨⟨p0, r0⟩, ⟨p1, r1⟩, o0, o1⟩ := put2_on HB1.out (.int .i64 x) (.int .i64 y)
  go_wp2
  try simp only [Exit.inBlock, Exit.then]
  exact ret_box1 rfl rfl (put2_box (x' := .int .i64 x) (y' := .int .i64 y) HB1.out) Try.underlying27 rfl (by kernel_rfl) rfl ⟨x, y, h, rfl, HBD.out, grown_new HG1.out (put2_grown _ _ _ _) (fun g e => by injection e with e; omega)⟩
end Go.Proofs.Ytnjlgnbhjhfohaa.RadD
