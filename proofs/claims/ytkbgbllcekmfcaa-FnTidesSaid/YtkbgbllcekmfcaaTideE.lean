/- Contracts of the draws of a tide, an hour, and a crossing. -/
import Derived.Test.YtkbgbllcekmfcaaTideD
import Derived.Deep.RegionLaw
import Derived.Deep.RegionHeld3
namespace Go.Proofs.Ytkbgbllcekmfcaa.TideD
open Go.RowKit Kit Rw Tw Draw

/-- Where a draw that hands out a struct stands. -/
structure DT (w wx : World) (c B : Nat) (x y : Int) : Prop where
  box : Box wx B #[.int .i64 x, .int .i64 y] 25
  res : Box wx w.heap.size #[.int .i64 0, .int .i64 0] 25
  cur : Cur wx c
  grown : w.grownBy wx none
  lt : w.heap.size < c
  lb : c < B
section
variable {w wx wy : World} {c B : Nat} {x y : Int}
theorem DT.on (h : DT w wx c B x y) (hg : wx.grownBy wy none) : DT w wy c B x y :=
  ⟨h.box.grown hg, h.res.grown hg, h.cur.kept_row hg (fun _ h => by cases h), grownN_trans h.grown hg, h.lt, h.lb⟩
theorem DT.call (h : DT w wx c B x y) (hg : wx.grownBy wy (some c)) (hc : Cur wy c) : DT w wy c B x y := by
  have h1 := h.lt
  have h2 := h.lb
  exact ⟨h.box.kept hg (by simp; omega), h.res.kept hg (by simp; omega), hc, grown_new h.grown hg (fun g e => by injection e with e; omega), h1, h2⟩
theorem DT.start {w1 w2 : World} (hb : Below (w.alloc (.cells #[.int .i64 0, .int .i64 0] 25 (0, 0))).heap.size (w.alloc (.cells #[.int .i64 0, .int .i64 0] 25 (0, 0))) w1) (hl : (w.alloc (.cells #[.int .i64 0, .int .i64 0] 25 (0, 0))).heap.size ≤ c) (hg : w1.grownBy w2 (some c)) (hc : Cur w2 c) :
    DT w (w2.alloc (.cells #[.int .i64 x, .int .i64 y] 25 (0, 0))) c w2.heap.size x y := by
  have h0 := World.grownBy_alloc w (.cells #[.int .i64 0, .int .i64 0] 25 (0, 0)) (none : Option Nat)
  have h3 := World.grownBy_alloc w2 (.cells #[.int .i64 x, .int .i64 y] 25 (0, 0)) (none : Option Nat)
  have hl' := hl
  simp only [World.size_alloc] at hl'
  have hbx := ((box_new w #[.int .i64 0, .int .i64 0] 25).below hb).kept hg (by simp; omega)
  exact ⟨box_new _ _ _, hbx.grown h3, hc.kept_row h3 (fun _ h => by cases h), grownN_trans (grown_new (grownN_trans h0 (below_grown hb)) hg (fun g e => by injection e with e; omega)) h3, by omega, hc.lt⟩
theorem DT.fin (h : DT w wx c B x y) : w.grownBy (put2 wx w.heap.size (.int .i64 x) (.int .i64 y)) none := grown_new h.grown (put2_grown _ _ _ _) (fun g e => by injection e with e; omega)
end


set_option maxHeartbeats 1000000 in
theorem hour_any (w : World) (c : Nat) (hc : Cur w c) :
    Calls Try.prog 50 #[.pointer (some ⟨c, 0, none⟩)] w (Drawn c w fun x => -1 ≤ x ∧ x ≤ 200000) := by
  have HC := Lib.hid hc
  clear hc
  go_enter Try.func50, Try.ntmps50
  go_wp2_with fail
  refine (below_any 50 (by omega) _ _ HC.out).mono ?_
  rintro e w1 ⟨p, HP, rfl, hc1, hg1⟩
  obtain ⟨hp0, hp1⟩ := HP.1 (by omega)
  have HC1 := Lib.hid hc1
  have HG1 := Lib.hid hg1
  clear HP hc1 hg1
  go_wp2_with fail
  refine (below_any 50 (by omega) _ _ HC1.out).mono ?_
  rintro e w2 ⟨q, HP, rfl, hc2, hg2⟩
  obtain ⟨hq0, hq1⟩ := HP.1 (by omega)
  have HL := Lib.hid (int_list [p, q, 90000, 90001, 100000, 100001, -1] w2 c hc2 (by simp) (by simp))
  have HG2 := Lib.hid (grown_trans HG1.out hg2)
  clear HP hc2 hg2
  go_wp2_with fail
  refine HL.out.mono ?_
  rintro e w3 ⟨h, hz, rfl, hc3, hg3⟩
  have HC3 := Lib.hid hc3
  have HG3 := Lib.hid (grown_trans HG2.out hg3)
  have hh : -1 ≤ h ∧ h ≤ 200000 := by
    simp only [List.mem_cons, List.not_mem_nil, or_false] at hz
    omega
  clear hc3 hg3 hz
  go_wp2
  go_ret
  exact ⟨h, hh, rfl, HC3.out, HG3.out⟩

set_option maxRecDepth 20000 in
set_option maxHeartbeats 2000000 in
theorem dDry_any (w : World) (a : Option Addr) (len cap : Nat) (z : List Int) (hr : IsRow .u8 w a len cap z) :
    Calls Try.prog 44 #[.slice a len cap] w fun e w' => ∃ x y h, e = .returned (.tuple #[.agg #[.int .i64 x, .int .i64 y], .int .i64 h]) ∧ ((-1 ≤ x ∧ x ≤ 200000) ∧ (-1 ≤ y ∧ y ≤ 200000) ∧ -1 ≤ h ∧ h ≤ 200000) ∧ w.grownBy w' none := by
  have hg0 := World.grownBy_alloc w (.cells #[.int .i64 0, .int .i64 0] 25 (0, 0)) (none : Option Nat)
  have HR := Lib.hid (hr.below (grown_below hg0 _ (Nat.le_refl _)))
  clear hr hg0
  go_enter Try.func44, Try.ntmps44
  go_wp2_with fail
  refine (new_any _ a len cap z HR.out).mono ?_
  rintro e w1 ⟨c, rfl, hc, hlc, hb⟩
  have HC := Lib.hid hc
  have HW := Lib.hid hb
  have HLC := Lib.hid hlc
  clear hc hb hlc HR
  go_wp2_with fail
  refine (any2 _ _ HC.out).mono ?_
  rintro e w2 ⟨x, y, rfl, hx, hy, hc2, hg2⟩
  have HT0 := Lib.hid (DT.start (x := x) (y := y) HW.out HLC.out hg2 hc2)
  clear hc2 hg2 HC HW HLC
  obtain ⟨c0, c1⟩ := two HT0.out.box
  go_wp2_with fail
  generalize w2.alloc (.cells #[.int .i64 x, .int .i64 y] 25 (0, 0)) = w3 at *
  generalize w2.heap.size = B at *
  have HT := Lib.hid (HT0.out.on (grown_drew (World.grownBy.refl w3 none)))
  refine wp_region_held_drew (S := fun w' => w'.cell? ⟨B, 0, none⟩ = some (.int .i64 x) ∧ w'.cell? ⟨B, 1, none⟩ = some (.int .i64 y)) (by kernel_rfl) (two HT.out.box) (fun hHeld => ?_)
  refine wpAnyH_take (i := 0) (v := ?_) rfl (by kernel_rfl) (by kernel_rfl) (by kernel_rfl) (fun _ _ _ h => h) (Or.inl ⟨by rfl, ?_⟩) (by assumption) ?_; rotate_left; (focus (intro wS hSw; (try dsimp only at hSw); go_simp <;> with_reducible rfl)); (try simp only [Act.put, List.getElem_toArray, List.getElem_cons_succ, List.getElem_cons_zero, List.setIfInBounds_toArray, List.set_cons_zero, List.set_cons_succ])
  refine wpAnyH_take (i := 1) (v := ?_) rfl (by kernel_rfl) (by kernel_rfl) (by kernel_rfl) (fun _ _ _ h => h) (Or.inl ⟨by rfl, ?_⟩) (by assumption) ?_; rotate_left; (focus (intro wS hSw; (try dsimp only at hSw); go_simp <;> with_reducible rfl)); (try simp only [Act.put, List.getElem_toArray, List.getElem_cons_succ, List.getElem_cons_zero, List.setIfInBounds_toArray, List.set_cons_zero, List.set_cons_succ])
  refine wpAnyH_ready (rs := [2]) (by kernel_rfl) (by simp) ?_; refine AllReadyH.cons rfl (fun K hK => ?_) AllReadyH.nil; go_simp; (go_at_call 50; refine (hour_any _ _ HT.out.cur).mono ?_; rintro e w6 ⟨h, hh, rfl, hc, hg⟩; have HT4 := Lib.hid (HT.out.call hg hc); clear hc hg)
  refine hK.out _ _ ?_ (fun hHeld => ?_)
  · exact two HT4.out.box
  clear hK K
  (try simp only [Act.put, List.getElem_toArray, List.getElem_cons_succ, List.getElem_cons_zero, List.setIfInBounds_toArray, List.set_cons_zero, List.set_cons_succ])
  obtain ⟨⟨p0, r0⟩, ⟨p1, r1⟩, o0, o1⟩ := put2_on HT4.out.res (.int .i64 x) (.int .i64 y)
  have hP := HT4.out.box.kept (put2_grown w6 w.heap.size (.int .i64 x) (.int .i64 y)) (by have := HT4.out.lt; have := HT4.out.lb; simp; omega)
  refine wpAnyH_ready (rs := [3]) (by kernel_rfl) (by simp) ?_
  refine AllReadyH.cons rfl (fun K hK => ?_) AllReadyH.nil
  go_simp
  refine hK.out _ _ ?_ (fun hHeld => ?_)
  · exact two hP
  clear hK K
  (try simp only [Act.put, List.getElem_toArray, List.getElem_cons_succ, List.getElem_cons_zero, List.setIfInBounds_toArray, List.set_cons_zero, List.set_cons_succ])
  refine wpAnyH_take (i := 4) (v := ?_) rfl (by kernel_rfl) (by kernel_rfl) (by kernel_rfl) (fun _ _ _ h => h) (Or.inl ⟨by rfl, ?_⟩) (by assumption) ?_; rotate_left; (focus (intro wS hSw; (try dsimp only at hSw); go_simp <;> with_reducible rfl)); (try simp only [Act.put, List.getElem_toArray, List.getElem_cons_succ, List.getElem_cons_zero, List.setIfInBounds_toArray, List.set_cons_zero, List.set_cons_succ])
  refine wpAnyH_done (by kernel_rfl) ?_ _
  (try simp only [Act.put, List.getElem_toArray, List.getElem_cons_succ, List.getElem_cons_zero, List.setIfInBounds_toArray, List.set_cons_zero, List.set_cons_succ])
  clear hHeld
  go_wp2
  try simp only [Exit.inBlock, Exit.then]
  exact ret_box1 rfl rfl (put2_box (x' := .int .i64 x) (y' := .int .i64 y) HT4.out.res) Try.underlying25 rfl (by kernel_rfl) rfl ⟨x, y, h, rfl, ⟨hx, hy, hh⟩, HT4.out.fin⟩

set_option maxRecDepth 20000 in
set_option maxHeartbeats 2000000 in
theorem dNext_any (w : World) (a : Option Addr) (len cap : Nat) (z : List Int) (hr : IsRow .u8 w a len cap z) :
    Calls Try.prog 26 #[.slice a len cap] w fun e w' => ∃ x y h, e = .returned (.tuple #[.agg #[.int .i64 x, .int .i64 y], .int .i64 h]) ∧ ((-1 ≤ x ∧ x ≤ 200000) ∧ (-1 ≤ y ∧ y ≤ 200000) ∧ -1 ≤ h ∧ h ≤ 200000) ∧ w.grownBy w' none := by
  have hg0 := World.grownBy_alloc w (.cells #[.int .i64 0, .int .i64 0] 25 (0, 0)) (none : Option Nat)
  have HR := Lib.hid (hr.below (grown_below hg0 _ (Nat.le_refl _)))
  have HB := Lib.hid (box_new w #[.int .i64 0, .int .i64 0] 25)
  have HG := Lib.hid hg0
  clear hr hg0
  go_enter Try.func26, Try.ntmps26
  go_wp2_with fail
  refine (dDry_any _ a len cap z HR.out).mono ?_
  rintro e w1 ⟨x, y, h, rfl, hb, hg⟩
  have HB1 := Lib.hid (HB.out.grown hg)
  have HG1 := Lib.hid (grownN_trans HG.out hg)
  have HBD := Lib.hid hb
  clear hb hg HB HG HR
  obtain ⟨⟨p0, r0⟩, ⟨p1, r1⟩, o0, o1⟩ := put2_on HB1.out (.int .i64 x) (.int .i64 y)
  go_wp2
  try simp only [Exit.inBlock, Exit.then]
  exact ret_box1 rfl rfl (put2_box (x' := .int .i64 x) (y' := .int .i64 y) HB1.out) Try.underlying25 rfl (by kernel_rfl) rfl ⟨x, y, h, rfl, HBD.out, grown_new HG1.out (put2_grown _ _ _ _) (fun g e => by injection e with e; omega)⟩

set_option maxRecDepth 20000 in
set_option maxHeartbeats 2000000 in
theorem dCross_any (w : World) (a : Option Addr) (len cap : Nat) (z : List Int) (hr : IsRow .u8 w a len cap z) :
    Calls Try.prog 45 #[.slice a len cap] w fun e w' => ∃ x y h l, e = .returned (.tuple #[.agg #[.int .i64 x, .int .i64 y], .int .i64 h, .int .i64 l]) ∧ (((-1 ≤ x ∧ x ≤ 200000) ∧ (-1 ≤ y ∧ y ≤ 200000) ∧ -1 ≤ h ∧ h ≤ 200000) ∧ -1 ≤ l ∧ l ≤ 200000) ∧ w.grownBy w' none := by
  have hg0 := World.grownBy_alloc w (.cells #[.int .i64 0, .int .i64 0] 25 (0, 0)) (none : Option Nat)
  have HR := Lib.hid (hr.below (grown_below hg0 _ (Nat.le_refl _)))
  have HRES := Lib.hid (box_new w #[.int .i64 0, .int .i64 0] 25)
  have HG := Lib.hid hg0
  clear hr hg0
  go_enter Try.func45, Try.ntmps45
  go_wp2_with fail
  refine (dDry_any _ a len cap z HR.out).mono ?_
  rintro e w1 ⟨x, y, h, rfl, hb, hg⟩
  have hA := World.grownBy_alloc w1 (.cells #[.int .i64 x, .int .i64 y] 25 (0, 0)) (none : Option Nat)
  have HB2 := Lib.hid (box_new w1 #[.int .i64 x, .int .i64 y] 25)
  have HR2 := Lib.hid (HR.out.below (grown_below (grownN_trans hg hA) _ (Nat.le_refl _)))
  have HRES2 := Lib.hid (HRES.out.grown (grownN_trans hg hA))
  have HG2 := Lib.hid (grownN_trans HG.out (grownN_trans hg hA))
  have HLT : Hid (w.heap.size < w1.heap.size) := by show _ < _; have := hg.size; simp only [World.size_alloc] at this; omega
  have HBD := Lib.hid hb
  clear hb hg hA HR HRES HG
  go_wp2_with fail
  generalize w1.alloc (.cells #[.int .i64 x, .int .i64 y] 25 (0, 0)) = w2 at *
  generalize w1.heap.size = B at *
  refine (new_any _ a len cap z HR2.out).mono ?_
  rintro e w3 ⟨c, rfl, hc, hlc, hb⟩
  have HC3 := Lib.hid hc
  have HB3 := Lib.hid (HB2.out.grown (below_grown hb))
  have HRES3 := Lib.hid (HRES2.out.grown (below_grown hb))
  have HG3 := Lib.hid (grownN_trans HG2.out (below_grown hb))
  have HBC : Hid (B < c ∧ w.heap.size < c) := ⟨by have := HB2.out.lt; omega, by have := HB2.out.lt; have := HLT.out; omega⟩
  clear hc hlc hb HB2 HRES2 HG2 HR2
  have hd := grown_drew (World.grownBy.refl w3 none)
  have HB4 := Lib.hid (HB3.out.grown hd)
  have HRES4 := Lib.hid (HRES3.out.grown hd)
  have HG4 := Lib.hid (grownN_trans HG3.out hd)
  have HC4 := Lib.hid (HC3.out.kept_row hd (fun _ h => by cases h))
  obtain ⟨c0, c1⟩ := two HB3.out
  clear hd
  go_wp2_with fail
  refine wp_region_held_drew (S := fun w' => w'.cell? ⟨B, 0, none⟩ = some (.int .i64 x) ∧ w'.cell? ⟨B, 1, none⟩ = some (.int .i64 y)) (by kernel_rfl) (two HB4.out) (fun hHeld => ?_)
  refine wpAnyH_take (i := 0) (v := ?_) rfl (by kernel_rfl) (by kernel_rfl) (by kernel_rfl) (fun _ _ _ h => h) (Or.inl ⟨by rfl, ?_⟩) (by assumption) ?_; rotate_left; (focus (intro wS hSw; (try dsimp only at hSw); go_simp <;> with_reducible rfl)); (try simp only [Act.put, List.getElem_toArray, List.getElem_cons_succ, List.getElem_cons_zero, List.setIfInBounds_toArray, List.set_cons_zero, List.set_cons_succ])
  refine wpAnyH_take (i := 1) (v := ?_) rfl (by kernel_rfl) (by kernel_rfl) (by kernel_rfl) (fun _ _ _ h => h) (Or.inl ⟨by rfl, ?_⟩) (by assumption) ?_; rotate_left; (focus (intro wS hSw; (try dsimp only at hSw); go_simp <;> with_reducible rfl)); (try simp only [Act.put, List.getElem_toArray, List.getElem_cons_succ, List.getElem_cons_zero, List.setIfInBounds_toArray, List.set_cons_zero, List.set_cons_succ])
  refine wpAnyH_take (i := 2) (v := ?_) rfl (by kernel_rfl) (by kernel_rfl) (by kernel_rfl) (fun _ _ _ h => h) (Or.inl ⟨by rfl, ?_⟩) (by assumption) ?_; rotate_left; (focus (intro wS hSw; (try dsimp only at hSw); go_simp <;> with_reducible rfl)); (try simp only [Act.put, List.getElem_toArray, List.getElem_cons_succ, List.getElem_cons_zero, List.setIfInBounds_toArray, List.set_cons_zero, List.set_cons_succ])
  have HL := Lib.hid (int_list [0, 1, 3, 5, 10, 100, 101, -1] w3.drew c HC4.out (by simp) (by simp))
  have HB5 := Lib.hid (HB4.out.grown (World.grownBy_alloc w3.drew (.cells #[.int .i64 0, .int .i64 1, .int .i64 3, .int .i64 5, .int .i64 10, .int .i64 100, .int .i64 101, .int .i64 (-1)] 3 (0, 0)) none))
  refine wpAnyH_ready (rs := [3]) (by kernel_rfl) (by simp) ?_
  refine AllReadyH.cons rfl (fun K hK => ?_) AllReadyH.nil
  go_simp
  refine hK.out _ _ ?_ (fun hHeld => ?_)
  · exact two HB5.out
  clear hK K
  (try simp only [Act.put, List.getElem_toArray, List.getElem_cons_succ, List.getElem_cons_zero, List.setIfInBounds_toArray, List.set_cons_zero, List.set_cons_succ])
  refine wpAnyH_ready (rs := [4]) (by kernel_rfl) (by simp) ?_; refine AllReadyH.cons rfl (fun K hK => ?_) AllReadyH.nil; go_simp; (go_at_call 51; refine HL.out.mono ?_; rintro e w6 ⟨l, hz, rfl, hc, hg⟩; have HB6 := Lib.hid (HB4.out.kept hg (by have := HBC.out; simp; omega)); have HRES6 := Lib.hid (HRES4.out.kept hg (by have := HBC.out; simp; omega)); have HG6 := Lib.hid (grown_new HG4.out hg (fun g e => by injection e with e; have := HBC.out; omega)); clear hc hg)
  refine hK.out _ _ ?_ (fun hHeld => ?_)
  · exact two HB6.out
  clear hK K
  (try simp only [Act.put, List.getElem_toArray, List.getElem_cons_succ, List.getElem_cons_zero, List.setIfInBounds_toArray, List.set_cons_zero, List.set_cons_succ])
  have hh : -1 ≤ l ∧ l ≤ 200000 := by
    simp only [List.mem_cons, List.not_mem_nil, or_false] at hz
    omega
  obtain ⟨⟨p0, r0⟩, ⟨p1, r1⟩, o0, o1⟩ := put2_on HRES6.out (.int .i64 x) (.int .i64 y)
  have hP := HB6.out.kept (put2_grown w6 w.heap.size (.int .i64 x) (.int .i64 y)) (by have := HLT.out; simp; omega)
  refine wpAnyH_ready (rs := [5]) (by kernel_rfl) (by simp) ?_
  refine AllReadyH.cons rfl (fun K hK => ?_) AllReadyH.nil
  go_simp
  refine hK.out _ _ ?_ (fun hHeld => ?_)
  · exact two hP
  clear hK K
  (try simp only [Act.put, List.getElem_toArray, List.getElem_cons_succ, List.getElem_cons_zero, List.setIfInBounds_toArray, List.set_cons_zero, List.set_cons_succ])
  refine wpAnyH_take (i := 6) (v := ?_) rfl (by kernel_rfl) (by kernel_rfl) (by kernel_rfl) (fun _ _ _ h => h) (Or.inl ⟨by rfl, ?_⟩) (by assumption) ?_; rotate_left; (focus (intro wS hSw; (try dsimp only at hSw); go_simp <;> with_reducible rfl)); (try simp only [Act.put, List.getElem_toArray, List.getElem_cons_succ, List.getElem_cons_zero, List.setIfInBounds_toArray, List.set_cons_zero, List.set_cons_succ])
  refine wpAnyH_take (i := 7) (v := ?_) rfl (by kernel_rfl) (by kernel_rfl) (by kernel_rfl) (fun _ _ _ h => h) (Or.inl ⟨by rfl, ?_⟩) (by assumption) ?_; rotate_left; (focus (intro wS hSw; (try dsimp only at hSw); go_simp <;> with_reducible rfl)); (try simp only [Act.put, List.getElem_toArray, List.getElem_cons_succ, List.getElem_cons_zero, List.setIfInBounds_toArray, List.set_cons_zero, List.set_cons_succ])
  refine wpAnyH_done (by kernel_rfl) ?_ _
  (try simp only [Act.put, List.getElem_toArray, List.getElem_cons_succ, List.getElem_cons_zero, List.setIfInBounds_toArray, List.set_cons_zero, List.set_cons_succ])
  clear hHeld
  go_wp2
  try simp only [Exit.inBlock, Exit.then]
  exact ret_box2 rfl rfl (put2_box (x' := .int .i64 x) (y' := .int .i64 y) HRES6.out) Try.underlying25 rfl (by kernel_rfl) rfl ⟨x, y, h, l, rfl, ⟨HBD.out, hh⟩, grown_new HG6.out (put2_grown _ _ _ _) (fun g e => by injection e with e; omega)⟩

set_option maxRecDepth 20000 in
set_option maxHeartbeats 2000000 in
theorem dNextCross_any (w : World) (a : Option Addr) (len cap : Nat) (z : List Int) (hr : IsRow .u8 w a len cap z) :
    Calls Try.prog 27 #[.slice a len cap] w fun e w' => ∃ x y h l, e = .returned (.tuple #[.agg #[.int .i64 x, .int .i64 y], .int .i64 h, .int .i64 l]) ∧ (((-1 ≤ x ∧ x ≤ 200000) ∧ (-1 ≤ y ∧ y ≤ 200000) ∧ -1 ≤ h ∧ h ≤ 200000) ∧ -1 ≤ l ∧ l ≤ 200000) ∧ w.grownBy w' none := by
  have hg0 := World.grownBy_alloc w (.cells #[.int .i64 0, .int .i64 0] 25 (0, 0)) (none : Option Nat)
  have HR := Lib.hid (hr.below (grown_below hg0 _ (Nat.le_refl _)))
  have HB := Lib.hid (box_new w #[.int .i64 0, .int .i64 0] 25)
  have HG := Lib.hid hg0
  clear hr hg0
  go_enter Try.func27, Try.ntmps27
  go_wp2_with fail
  refine (dCross_any _ a len cap z HR.out).mono ?_
  rintro e w1 ⟨x, y, h, l, rfl, hb, hg⟩
  have HB1 := Lib.hid (HB.out.grown hg)
  have HG1 := Lib.hid (grownN_trans HG.out hg)
  have HBD := Lib.hid hb
  clear hb hg HB HG HR
  obtain ⟨⟨p0, r0⟩, ⟨p1, r1⟩, o0, o1⟩ := put2_on HB1.out (.int .i64 x) (.int .i64 y)
  go_wp2
  try simp only [Exit.inBlock, Exit.then]
  exact ret_box2 rfl rfl (put2_box (x' := .int .i64 x) (y' := .int .i64 y) HB1.out) Try.underlying25 rfl (by kernel_rfl) rfl ⟨x, y, h, l, rfl, HBD.out, grown_new HG1.out (put2_grown _ _ _ _) (fun g e => by injection e with e; omega)⟩
end Go.Proofs.Ytkbgbllcekmfcaa.TideD
