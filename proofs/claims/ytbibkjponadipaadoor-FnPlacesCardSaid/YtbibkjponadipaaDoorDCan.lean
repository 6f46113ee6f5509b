/- Contract of the draw of where one can be. -/
import Derived.Test.YtbibkjponadipaaDoorG7
import Derived.Deep.RegionHeld3
namespace Go.Proofs.YtbibkjponadipaaDoor.Draw
open Go.RowKit Kit Rw Inf Ld

theorem sees_two (w : World) {x y : Int} (hx : I64 x) (hy : I64 y) : Sees .i64 (w.alloc (.cells #[.int .i64 x, .int .i64 y] 3 (0, 0))) (.slice (some ⟨w.heap.size, 0, none⟩) 2 2) [x, y] := by
  refine ⟨_, 2, rfl, by simp, by unfold maxLen; omega, (fun h => by cases h), (fun u hu => ?_), .inr ⟨_, _, rfl, fun j hj => ?_⟩⟩
  · simp at hu
    rcases hu with rfl | rfl
    · exact hx.wf
    · exact hy.wf
  · have hj2 : j < 2 := by simpa using hj
    rw [World.cell?_alloc_new]
    match j, hj2 with
    | 0, _ => rfl
    | 1, _ => rfl

theorem keepA {B : Nat} {x y z : Value} (w : World) (o : Obj) (h : w.cell? ⟨B, 0, none⟩ = some x ∧ w.cell? ⟨B, 1, none⟩ = some y ∧ w.cell? ⟨B, 2, none⟩ = some z) : (w.alloc o).cell? ⟨B, 0, none⟩ = some x ∧ (w.alloc o).cell? ⟨B, 1, none⟩ = some y ∧ (w.alloc o).cell? ⟨B, 2, none⟩ = some z := by
  have hg := World.grownBy_alloc w o none
  exact ⟨hg.cell h.1 (fun e => by cases e), hg.cell h.2.1 (fun e => by cases e), hg.cell h.2.2 (fun e => by cases e)⟩
set_option maxRecDepth 100000 in
set_option maxHeartbeats 4000000 in
theorem dcan_any (w : World) (a : Option Addr) (len cap : Nat) (z : List Int) (hr : IsRow .u8 w a len cap z) :
    Calls Tryd.prog 12 #[.slice a len cap] w fun e w' => ∃ W H v X f F n, e = .returned (.tuple #[.agg #[.int .i64 W, .int .i64 H, v], f, .int .i64 n]) ∧ LandOut w w' W H v X ∧ Sees .i64 w' f F ∧ F.length = 2 ∧ -1 ≤ n ∧ n ≤ 4 := by
  have hg0 := World.grownBy_alloc w (.cells #[.int .i64 0, .int .i64 0, .slice none 0 0] 26 (0, 0)) (none : Option Nat)
  have HR := Lib.hid (hr.below (grown_below hg0 _ (Nat.le_refl _)))
  have HB := Lib.hid (box_new w #[.int .i64 0, .int .i64 0, .slice none 0 0] 26)
  have HG := Lib.hid hg0
  clear hr hg0
  go_enter Tryd.func12, Tryd.ntmps12
  go_wp2_with fail
  refine (new_any _ a len cap z HR.out).mono ?_
  rintro e w1 ⟨c, rfl, hc, hlc, hb⟩
  simp only [World.size_alloc] at hlc
  have HB1 := Lib.hid (HB.out.below hb)
  have HG1 := Lib.hid (grownN_trans HG.out (below_grown hb))
  have HC := Lib.hid hc
  clear hc hb HB HG HR
  go_wp2_with fail
  refine (lany_any _ _ HC.out).mono ?_
  rintro e w2 ⟨W, H, v, X, rfl, hW, hH, hs, hl, hvb, hc2, hg2⟩
  obtain ⟨va, vn, vc, hv, HVN⟩ := hs.shape
  subst hv
  have hsz1 := HG1.out.size
  have hcl := HC.out.lt
  have hr0 : DA w (w2.alloc (.cells #[.int .i64 W, .int .i64 H, .slice va vn vc] 26 (0, 0))) c w2.heap.size W H (.slice va vn vc) X := by
    have hA1 := World.grownBy_alloc w2 (.cells #[.int .i64 W, .int .i64 H, .slice va vn vc] 26 (0, 0)) (none : Option Nat)
    have hs2 := hg2.size
    refine ⟨box_new _ _ _, (HB1.out.kept hg2 (by simp; omega)).grown hA1, hs.grown hA1, fun b hb => ?_, hc2.kept_row hA1 (fun _ h => by cases h), grownN_trans (grown_new HG1.out hg2 (fun b hb => by injection hb with hb; omega)) hA1, by omega, ⟨by omega, by omega⟩, hW, hH, hl⟩
    have h1 := hvb b hb
    omega
  have HA := Lib.hid hr0
  have HCB : Hid (c < w2.heap.size) := by show _ < _; have := hg2.size; omega
  have hd0 := grown_drew (World.grownBy.refl (w2.alloc (.cells #[.int .i64 W, .int .i64 H, .slice va vn vc] 26 (0, 0))) none)
  have HD := Lib.hid (hr0.on hd0)
  have hBc : w2.heap.size ≠ c := by have := hr0.cB; omega
  have hrc : w.heap.size ≠ c := by have := hr0.lt; omega
  have hBr : w2.heap.size ≠ w.heap.size := by have := hr0.lt; have := hr0.cB; omega
  clear hr0 hd0 hW hH hs hl hvb hc2 hg2 HC HB1 HG1 hsz1 hcl
  go_wp2_with fail
  generalize w2.alloc (.cells #[.int .i64 W, .int .i64 H, .slice va vn vc] 26 (0, 0)) = w3 at *
  generalize w2.heap.size = B at *
  have h20 : (20 : Int) ≤ 9223372036854775807 := by omega
  have h5l : (5 : Int) ≤ 9223372036854775807 := by omega
  have hcd := HD.out.cur
  have hd0 := HD.out
  obtain ⟨k0, k1, k2⟩ := HD.out.box.three
  go_region_held3 (fun w' => w'.cell? ⟨B, 0, none⟩ = some (.int .i64 W) ∧ w'.cell? ⟨B, 1, none⟩ = some (.int .i64 H) ∧ w'.cell? ⟨B, 2, none⟩ = some (.slice va vn vc))
    (first | (with_reducible exact hd0.box.three) | (with_reducible exact hd4.box.three) | (with_reducible exact hd5.box.three) | (with_reducible exact hd6.box.three) | (with_reducible exact hd7.box.three) | (with_reducible exact hd8.box.three) | (with_reducible exact hd9.box.three) | (with_reducible exact ke6) | (with_reducible exact ke7) | (with_reducible exact ke8) | (with_reducible exact ke9))
    (first
      | (go_at_call 18; (with_reducible refine (below_any 5 h5l w5 _ hc5).mono ?_); rintro e w6 ⟨x6, HP6, rfl, hc6, hg6⟩; have hx6 := HP6.1 (by omega); clear HP6; have hd6 := hd5.call hg6 hc6; have hd9 := hd6.on (World.grownBy_alloc w6 (.cells #[.int .i64 x4, .int .i64 x5] 3 (0, 0)) none); have ke6 := keep3 (put3_grown (w6.alloc (.cells #[.int .i64 x4, .int .i64 x5] 3 (0, 0))) w.heap.size (.int .i64 W) (.int .i64 H) (.slice va vn vc)) hd9.box.three hBr; (unfold put3 at ke6); have ke8 := keep3 (put3_grown w6 w.heap.size (.int .i64 W) (.int .i64 H) (.slice va vn vc)) hd6.box.three hBr; have ke9 := keepA (put3 w6 w.heap.size (.int .i64 W) (.int .i64 H) (.slice va vn vc)) (.cells #[.int .i64 x4, .int .i64 x5] 3 (0, 0)) ke8; (unfold put3 at ke8 ke9); obtain ⟨⟨s0, t0⟩, ⟨s1, t1⟩, ⟨s2, t2⟩, u0, u1, u2⟩ := put3_on hd6.res (.int .i64 W) (.int .i64 H) (.slice va vn vc); obtain ⟨⟨p0, r0⟩, ⟨p1, r1⟩, ⟨p2, r2⟩, o0, o1, o2⟩ := put3_on hd9.res (.int .i64 W) (.int .i64 H) (.slice va vn vc))
      | (go_at_call 18; (with_reducible refine (below_any 5 h5l _ _ hd8.cur).mono ?_); rintro e w7 ⟨x6, HP6, rfl, hc6, hg6⟩; have hx6 := HP6.1 (by omega); clear HP6; have hd7 := hd8.call hg6 hc6; have ke7 := keep3 (put3_grown w7 w.heap.size (.int .i64 W) (.int .i64 H) (.slice va vn vc)) hd7.box.three hBr; (unfold put3 at ke7); obtain ⟨⟨p0, r0⟩, ⟨p1, r1⟩, ⟨p2, r2⟩, o0, o1, o2⟩ := put3_on hd7.res (.int .i64 W) (.int .i64 H) (.slice va vn vc))
      | (go_at_call 18; (with_reducible refine (below_any 20 h20 w4 _ hc4).mono ?_); rintro e w5 ⟨x5, HP5, rfl, hc5, hg5⟩; have hi5 : I64 x5 := (I64.below HP5 (by omega) (by omega)); have hd5 := hd4.call hg5 hc5; have hd8 := hd5.on (World.grownBy_alloc w5 (.cells #[.int .i64 x4, .int .i64 x5] 3 (0, 0)) none); clear HP5)
      | (go_at_call 18; (with_reducible refine (below_any 20 h20 w3.drew _ hcd).mono ?_); rintro e w4 ⟨x4, HP4, rfl, hc4, hg4⟩; have hi4 : I64 x4 := (I64.below HP4 (by omega) (by omega)); have hd4 := hd0.call hg4 hc4; clear HP4))
  all_goals
    have hcb9 := HCB.out
    have hlt9 := HD.out.cB
    have hB5 := hd5.box.lt
  · have hs1 : Sees .i64 (put3 w7 w.heap.size (.int .i64 W) (.int .i64 H) (.slice va vn vc)) (.slice (some ⟨w5.heap.size, 0, none⟩) 2 2) [x4, x5] := ((sees_two w5 hi4 hi5).kept hg6 (.inr (by simp [Value.ownBlock]; omega))).kept (put3_grown w7 w.heap.size (.int .i64 W) (.int .i64 H) (.slice va vn vc)) (.inr (by simp [Value.ownBlock]; omega))
    have HS1 := Lib.hid hs1
    have HD7 := Lib.hid hd7
    have hn1 : -1 ≤ IntKind.i64.wrap (x6 - 1) ∧ IntKind.i64.wrap (x6 - 1) ≤ 4 := by rw [IntWalk.i64_in _ (by omega)]; omega
    have HN1 := Lib.hid hn1
    clear hs1 hn1
    go_wp2
    try simp only [Exit.inBlock, Exit.then]
    exact ret_box2 rfl rfl (put3_box (x' := .int .i64 W) (y' := .int .i64 H) (z' := .slice va vn vc) HD7.out.res) Tryd.underlying26 rfl (by kernel_rfl) rfl ⟨W, H, _, X, _, [x4, x5], _, rfl, HD7.out.fin, HS1.out, rfl, HN1.out.1, HN1.out.2⟩
  · have hB6 := hd6.box.lt
    have hs1 : Sees .i64 (put3 (w6.alloc (.cells #[.int .i64 x4, .int .i64 x5] 3 (0, 0))) w.heap.size (.int .i64 W) (.int .i64 H) (.slice va vn vc)) (.slice (some ⟨w6.heap.size, 0, none⟩) 2 2) [x4, x5] := (sees_two w6 hi4 hi5).kept (put3_grown (w6.alloc (.cells #[.int .i64 x4, .int .i64 x5] 3 (0, 0))) w.heap.size (.int .i64 W) (.int .i64 H) (.slice va vn vc)) (.inr (by simp [Value.ownBlock]; omega))
    have HS1 := Lib.hid hs1
    have HD9 := Lib.hid hd9
    have hn1 : -1 ≤ IntKind.i64.wrap (x6 - 1) ∧ IntKind.i64.wrap (x6 - 1) ≤ 4 := by rw [IntWalk.i64_in _ (by omega)]; omega
    have HN1 := Lib.hid hn1
    clear hs1 hn1
    go_wp2
    try simp only [Exit.inBlock, Exit.then]
    exact ret_box2 rfl rfl (put3_box (x' := .int .i64 W) (y' := .int .i64 H) (z' := .slice va vn vc) HD9.out.res) Tryd.underlying26 rfl (by kernel_rfl) rfl ⟨W, H, _, X, _, [x4, x5], _, rfl, HD9.out.fin, HS1.out, rfl, HN1.out.1, HN1.out.2⟩
  · have hB6 := hd6.box.lt
    have hpz : (put3 w6 w.heap.size (.int .i64 W) (.int .i64 H) (.slice va vn vc)).heap.size = w6.heap.size := by unfold put3; simp
    have hs1 : Sees .i64 ((put3 w6 w.heap.size (.int .i64 W) (.int .i64 H) (.slice va vn vc)).alloc (.cells #[.int .i64 x4, .int .i64 x5] 3 (0, 0))) (.slice (some ⟨w6.heap.size, 0, none⟩) 2 2) [x4, x5] := by
      have h := sees_two (put3 w6 w.heap.size (.int .i64 W) (.int .i64 H) (.slice va vn vc)) hi4 hi5
      rw [hpz] at h
      exact h
    have ga := World.grownBy_alloc (put3 w6 w.heap.size (.int .i64 W) (.int .i64 H) (.slice va vn vc)) (.cells #[.int .i64 x4, .int .i64 x5] 3 (0, 0)) (none : Option Nat)
    have HS1 := Lib.hid hs1
    have HL1 : Hid (LandOut w ((put3 w6 w.heap.size (.int .i64 W) (.int .i64 H) (.slice va vn vc)).alloc (.cells #[.int .i64 x4, .int .i64 x5] 3 (0, 0))) W H (.slice va vn vc) X) := by
      have h := hd6.fin
      exact ⟨h.sees.grown ga, fun b hb => ⟨(h.vb b hb).1, Nat.lt_of_lt_of_le (h.vb b hb).2 ga.size⟩, grownN_trans h.grown ga, h.iW, h.iH, h.len⟩
    have HBX := Lib.hid ((put3_box (x' := .int .i64 W) (y' := .int .i64 H) (z' := .slice va vn vc) hd6.res).grown ga)
    have hn1 : -1 ≤ IntKind.i64.wrap (x6 - 1) ∧ IntKind.i64.wrap (x6 - 1) ≤ 4 := by rw [IntWalk.i64_in _ (by omega)]; omega
    have HN1 := Lib.hid hn1
    clear hs1 hn1 ga
    go_wp2
    try simp only [Exit.inBlock, Exit.then]
    exact ret_box2 rfl rfl HBX.out Tryd.underlying26 rfl (by kernel_rfl) rfl ⟨W, H, _, X, _, [x4, x5], _, rfl, HL1.out, HS1.out, rfl, HN1.out.1, HN1.out.2⟩
end Go.Proofs.YtbibkjponadipaaDoor.Draw
