/- Contracts of the draws of a land and a cell, and of a land and two cells. The draw of a land, and what its cells are. The draw of a yes or no. A result in a block ahead of four others. No condition. -/
import Derived.Test.YtbibkjponadipaaDoorLandA
import Derived.Test.YtbibkjponadipaaDoorLandD
import Derived.Test.YtbibkjponadipaaDoorDraw
import Derived.Test.YtbibkjponadipaaDoorRes
namespace Go.Proofs.YtbibkjponadipaaDoor.Draw
open Go.RowKit Kit Rw Inf Ld

structure DA (w wr : World) (c B : Nat) (W H : Int) (v : Value) (X : List Int) : Prop where
  box : Box wr B #[.int .i64 W, .int .i64 H, v] 26
  res : Box wr w.heap.size #[.int .i64 0, .int .i64 0, .slice none 0 0] 26
  sees : Sees .i64 wr v X
  vb : ∀ b, v.ownBlock = some b → w.heap.size < b ∧ b ≠ c ∧ b < B
  cur : Cur wr c
  grown : w.grownBy wr none
  lt : w.heap.size < c
  cB : c ≠ B ∧ w.heap.size < B
  iW : I64 W
  iH : I64 H
  len : X.length ≤ 30
section
variable {w wr wy : World} {c B : Nat} {W H z : Int} {v u : Value} {X Y : List Int}
theorem DA.off (h : DA w wr c B W H v X) {b : Nat} (hb : b ≤ w.heap.size ∨ b = c ∨ B ≤ b) : v.ownBlock = none ∨ v.ownBlock ≠ some b := by
  cases e : v.ownBlock with
  | none => exact .inl rfl
  | some g => have := h.vb g e; exact .inr (by simp; omega)
theorem DA.call (h : DA w wr c B W H v X) (hg : wr.grownBy wy (some c)) (hc : Cur wy c) : DA w wy c B W H v X := by
  have h1 := h.cB
  have h2 := h.lt
  exact ⟨h.box.kept hg (by simp; omega), h.res.kept hg (by simp; omega), h.sees.kept hg (h.off (by omega)), h.vb, hc, grown_new h.grown hg (fun b hb => by injection hb with hb; omega), h2, h1, h.iW, h.iH, h.len⟩
theorem DA.on (h : DA w wr c B W H v X) (hg : wr.grownBy wy none) : DA w wy c B W H v X :=
  ⟨h.box.grown hg, h.res.grown hg, h.sees.grown hg, h.vb, h.cur.kept_row hg (fun _ h => by cases h), grownN_trans h.grown hg, h.lt, h.cB, h.iW, h.iH, h.len⟩
/-- What a draw of a land hands out, whatever comes with it. -/
structure LandOut (w w' : World) (W H : Int) (v : Value) (X : List Int) : Prop where
  sees : Sees .i64 w' v X
  vb : ∀ b, v.ownBlock = some b → w.heap.size ≤ b ∧ b < w'.heap.size
  grown : w.grownBy w' none
  iW : I64 W
  iH : I64 H
  len : X.length ≤ 30
theorem DA.fin (h : DA w wr c B W H v X) : LandOut w (put3 wr w.heap.size (.int .i64 W) (.int .i64 H) v) W H v X := by
  have hP := put3_grown wr w.heap.size (.int .i64 W) (.int .i64 H) v
  exact ⟨h.sees.kept hP (h.off (by omega)), fun b hb => ⟨Nat.le_of_lt (h.vb b hb).1, by have := (h.vb b hb).2.2; have := h.box.lt; have := hP.size; omega⟩, grown_new h.grown hP (fun g hg => by injection hg with hg; omega), h.iW, h.iH, h.len⟩
theorem _root_.Go.Proofs.YtbibkjponadipaaDoor.Draw.I64.below {n x : Int} (h : BelowP n x) (h0 : 0 < n) (h1 : n ≤ 9223372036854775807) : I64 x := by
  have := h.1 h0
  exact ⟨by omega, by omega⟩
/-- The cells of the land's box, as they are held while an order is drawn. -/
theorem keep3 {x y z : Value} (hg : wr.grownBy wy (some c)) (h : wr.cell? ⟨B, 0, none⟩ = some x ∧ wr.cell? ⟨B, 1, none⟩ = some y ∧ wr.cell? ⟨B, 2, none⟩ = some z) (hne : B ≠ c) :
    wy.cell? ⟨B, 0, none⟩ = some x ∧ wy.cell? ⟨B, 1, none⟩ = some y ∧ wy.cell? ⟨B, 2, none⟩ = some z :=
  ⟨hg.cell h.1 (by simp; exact hne), hg.cell h.2.1 (by simp; exact hne), hg.cell h.2.2 (by simp; exact hne)⟩
end

end Go.Proofs.YtbibkjponadipaaDoor.Draw

namespace Go.Proofs.YtbibkjponadipaaDoor.Draw
open Go.RowKit Kit Rw Inf Ld

/-- What is drawn: a valid land whose first cell is open. -/
def DrawnLdV (c : Nat) (w : World) (e : Ending) (w' : World) : Prop :=
  ∃ W H v X, e = .returned (.agg #[.int .i64 W, .int .i64 H, v]) ∧ (2 ≤ W ∧ W ≤ 6) ∧ (2 ≤ H ∧ H ≤ 5) ∧ (X.length : Int) = W * H ∧ ((∀ x ∈ X, 0 ≤ x ∧ x ≤ 2) ∧ X.getD 0 0 = 0) ∧ Own .i64 3 w' w.heap.size v X ∧ Cur w' c ∧ w.grownBy w' (some c)

set_option maxRecDepth 100000 in
set_option maxHeartbeats 4000000 in
theorem ldrawV_any (w : World) (c : Nat) (hc : Cur w c) :
    Calls Tryd.prog 16 #[.pointer (some ⟨c, 0, none⟩)] w (DrawnLdV c w) := by
  have hlt0 := hc.lt
  have hg0 := World.grownBy_alloc w (.cells #[.int .i64 0, .int .i64 0, .slice none 0 0] 26 (0, 0)) (none : Option Nat)
  have HC : Hid (Cur (w.alloc (.cells #[.int .i64 0, .int .i64 0, .slice none 0 0] 26 (0, 0))) c) := hc.kept_row hg0 (fun _ h => by cases h)
  have HG := Lib.hid hg0
  clear hc hg0
  obtain ⟨i0, hi, hz0, hz1, hz2⟩ := info_parts info_i64
  go_enter Tryd.func16, Tryd.ntmps16
  go_wp2_with fail
  refine (below_any 5 (by omega) _ _ HC.out).mono ?_
  rintro e w1 ⟨x, HP, rfl, hc1, hg1⟩
  obtain ⟨hx0, hx1⟩ := HP.1 (by omega)
  clear HP
  go_wp2_with fail
  refine (below_any 4 (by omega) _ _ hc1).mono ?_
  rintro e w2 ⟨y, HP, rfl, hc2, hg2⟩
  obtain ⟨hy0, hy1⟩ := HP.1 (by omega)
  clear HP
  obtain ⟨W, hW⟩ : ∃ W, W = 2 + x := ⟨_, rfl⟩
  obtain ⟨H, hH⟩ : ∃ H, H = 2 + y := ⟨_, rfl⟩
  have hW1 : 2 ≤ W ∧ W ≤ 6 := by omega
  have hH1 : 2 ≤ H ∧ H ≤ 5 := by omega
  have hA := area (W := W) (H := H) (by omega) (by omega)
  obtain ⟨n, hn⟩ : ∃ n : Nat, W * H = n := ⟨(W * H).toNat, by omega⟩
  have hp : IntKind.i64.wrap (W * H) = n := by rw [← hn]; exact IntWalk.i64_in _ (by omega)
  have hn1 : 4 ≤ n ∧ n ≤ 30 := by
    have h1 := Int.mul_le_mul hW1.1 hH1.1 (by omega) (by omega)
    have h2 := Int.mul_le_mul hW1.2 hH1.2 (by omega) (by omega)
    omega
  have hg3 := hg1
  have hr0 : LR w (w2.alloc (.cells #[.int .i64 W, .int .i64 H, .slice none 0 0] 26 (0, 0))) c w2.heap.size W H (.slice none 0 0) [] := by
    have hA1 := World.grownBy_alloc w2 (.cells #[.int .i64 W, .int .i64 H, .slice none 0 0] 26 (0, 0)) (none : Option Nat)
    have hs := Nat.le_trans hg1.size hg2.size
    simp only [World.size_alloc] at hs
    refine ⟨box_new _ _ _, ?_, own_nil _ _, hc2.kept_row hA1 (fun _ h => by cases h), grown_mix (grown_old' HG.out (grown_trans hg1 hg2)) hA1 (fun _ h => by cases h), by omega, hlt0⟩
    exact ((box_new w #[.int .i64 0, .int .i64 0, .slice none 0 0] 26).kept (grown_trans hg1 hg2) (by simp; omega)).grown hA1
  have HR := Lib.hid hr0
  have HWH := Lib.hid hn
  have HW1 := Lib.hid hW1
  have HH1 := Lib.hid hH1
  have HX := Lib.hid hW
  have HY := Lib.hid hH
  clear hr0 hg1 hg2 hg3 hc1 hc2 hA hW1 hH1 hn
  go_wp2
  rw [← HX.out, ← HY.out]
  clear HX HY HC HG hW hH hx0 hx1 hy0 hy1 hlt0
  obtain ⟨B, hB⟩ : ∃ B, B = w2.heap.size := ⟨_, rfl⟩
  rw [← hB] at HR ⊢
  generalize w2.alloc (.cells #[.int .i64 W, .int .i64 H, .slice none 0 0] 26 (0, 0)) = W3 at *
  clear hB
  go_loopw [4] (fun i wr => ∃ (j : Nat) (v : Value) (X : List Int), j ≤ n ∧ i = .int .i64 j ∧ X.length = j ∧ Hid (∀ x ∈ X, 0 ≤ x ∧ x ≤ 2) ∧ Hid (LR w wr c B W H v X)) (fun i _ => n - (intOf i).toNat)
  case atStart => exact ⟨0, _, [], Nat.zero_le _, rfl, rfl, fun x hx => absurd hx (by simp), HR⟩
  case round =>
    obtain ⟨j, v, X, hj, rfl, hX, HXV, HR1⟩ := hrel
    obtain ⟨d0, d1, d2⟩ := HR1.out.box.three
    obtain ⟨f0, f1, f2⟩ := three_free HR1.out.box
    by_cases hlt : j < n
    · have HXL := Lib.hid hX
      have hXn : X.length ≤ 30 := by omega
      clear hX HR
      have hdr := grown_drew (World.grownBy.refl wr none)
      have hCd := Lib.hid (HR1.out.cur.kept_row hdr (fun _ h => by cases h))
      have hBd := HR1.out.box.grown hdr
      obtain ⟨k0, k1, k2⟩ := hBd.three
      obtain ⟨q0, q1, q2⟩ := three_free hBd
      have hcB : c < B := Nat.lt_trans HR1.out.cl HR1.out.lt
      have hBw : B < wr.heap.size := HR1.out.box.lt
      go_wp2_with fail
      have kk1 := (World.grownBy_alloc wr.drew (.cells #[.int .i64 0, .int .i64 0, .int .i64 0, .int .i64 0, .int .i64 1, .int .i64 2] 3 (0, 0)) none).cell k2 (by simp)
      go_region_law (first
        | (refine step_append_one _ (by rfl) _ _ _ (by rfl) (B + 1) 3 i0 (.int .i64 0) 8 Tryd.underlying24 hi hz0 hz1 hz2 rfl .i64 v X (by rfl) ((((HR1.out.own.grown (grown_drew (World.grownBy.refl wr none))).kept hg3 (.inr (HR1.out.own.off (by omega)))).grown (World.grownBy_alloc _ _ none))) z w3.heap.size (by rfl) (cell_of_one (heap_alloc_new _ _)) (i64_mk (by omega)) (by omega) (by decide) (by have h3 := hg3.size; simp only [World.size_alloc] at h3 ⊢; simp only [World.drew] at h3; omega) ?_; intro v4 w4 hown4 hgrow4; have hB4 := ((hBd.kept hg3 (by simp; omega)).grown (World.grownBy_alloc _ (.cells #[.int .i64 z] 3 (0, 0)) none)).kept hgrow4 (HR1.out.own.off (by omega)); have kk4 := hB4.three.2.2; have ff4 := (three_free hB4).2.2; obtain ⟨a4, n4, c4, hv4, HN4⟩ := hown4.sees.shape; subst hv4)
        | (go_simp; go_at_call 25; refine (int_list [0, 0, 0, 0, 1, 2] _ c hCd.out (by decide) (by decide)).mono ?_; rintro e w3 ⟨z, hz, rfl, hc3, hg3⟩; have hzz : 0 ≤ z ∧ z ≤ 2 := (by simp only [List.mem_cons, List.not_mem_nil, or_false] at hz; omega); have kk2 := hg3.cell k2 (by simp; omega); have kk3 := (World.grownBy_alloc w3 (.cells #[.int .i64 z] 3 (0, 0)) none).cell kk2 (by simp)))
      all_goals
        have hnx := HR1.out.next hg3 hc3 hgrow4 hown4
        have HNX := Lib.hid hnx
        have HXW : Hid (∀ x ∈ X ++ [z], 0 ≤ x ∧ x ≤ 2) := fun x hx => by
          rcases List.mem_append.1 hx with h | h
          · exact HXV.out x h
          · simp at h; subst h; exact hzz
        have hlen : (X ++ [z]).length = j + 1 := by have := HXL.out; simp; omega
        have HLN := Lib.hid hlen
        clear hnx hlen hown4 hgrow4 hB4 kk4 ff4 kk3 kk2 kk1 hg3 hc3 hz k0 k1 k2 q0 q1 q2 hBd hCd hdr d0 d1 d2 f0 f1 f2
        go_wp2
        go_roundw
        case rel => exact ⟨j + 1, _, _, by omega, by go_num, HLN.out, HXW, HNX⟩
        case measure => simp [intOf]; omega
    · have hjn : n = j := by omega
      subst hjn
      obtain ⟨g, cp, hv, hgb, hgl⟩ := HR1.out.own.1.form (by omega)
      rw [hX] at hv
      subst hv
      have hB0 := HR1.out.lt
      have hown := HR1.out.own.1
      rw [hX] at hown
      have hs := own_set (k := .i64) hown 0 0
      have hcell : wr.cell? ⟨g, 0, none⟩ = some (.int .i64 (X.getD 0 0)) := (hown.cellAt 0 (by omega)).trans (getD_map (by omega))
      have hfree := hown.frozenAt 0
      have e0 := hs.2.cell d0 (by simp; omega)
      have e1 := hs.2.cell d1 (by simp; omega)
      have e2 := hs.2.cell d2 (by simp; omega)
      have hR5 := HR1.out.res.kept hs.2 (by simp; omega)
      obtain ⟨⟨p0, r0⟩, ⟨p1, r1⟩, ⟨p2, r2⟩, o0, o1, o2⟩ := put3_on hR5 (.int .i64 W) (.int .i64 H) (.slice (some ⟨g, 0, none⟩) n cp)
      have HS := Lib.hid hs
      have HR5 := Lib.hid hR5
      clear hs hR5
      go_wp2
      try simp only [Exit.inBlock, Exit.then]
      refine ret_box rfl rfl (put3_box (x' := .int .i64 W) (y' := .int .i64 H) (z' := .slice (some ⟨g, 0, none⟩) n cp) HR5.out) Tryd.underlying26 rfl (by kernel_rfl) rfl ?_
      clear p0 p1 p2 r0 r1 r2 o0 o1 o2 e0 e1 e2 d0 d1 d2 f0 f1 f2 hcell hfree
      have hgS := HS.out.2
      have hP := put3_grown (wr.setCell ⟨g, 0, none⟩ (.int .i64 0)) w.heap.size (.int .i64 W) (.int .i64 H) (.slice (some ⟨g, 0, none⟩) n cp)
      have ho : Own .i64 3 (wr.setCell ⟨g, 0, none⟩ (.int .i64 0)) (B + 1) (.slice (some ⟨g, 0, none⟩) n cp) (X.set 0 0) := by
        refine ⟨by rw [List.length_set, hX]; exact HS.out.1, fun m hm => ?_⟩
        rcases List.mem_or_eq_of_mem_set hm with h' | h'
        · exact HR1.out.own.2 m h'
        · rw [h']; exact i64_mk (by omega)
      have hcl := HR1.out.cl
      refine ⟨W, H, _, X.set 0 0, rfl, HW1.out, HH1.out, by rw [List.length_set, hX]; exact HWH.out.symm, ?_, ?_, ?_, ?_⟩
      · refine ⟨fun m hm => ?_, by rw [List.getD_eq_getElem?_getD, List.getElem?_set_self (by omega)]; rfl⟩
        rcases List.mem_or_eq_of_mem_set hm with h' | h'
        · exact HXV.out m h'
        · rw [h']; omega
      · exact (ho.kept hP (.inr (by simp [Value.ownBlock]; omega))).lower (by omega)
      · exact (HR1.out.cur.kept_row hgS (fun b hb => by injection hb with hb; omega)).kept_row hP (fun b hb => by injection hb with hb; omega)
      · exact grown_mix (grown_mix HR1.out.grown hgS (fun b hb => by injection hb with hb; omega)) hP (fun b hb => by injection hb with hb; omega)
end Go.Proofs.YtbibkjponadipaaDoor.Draw

namespace Go.Proofs.YtbibkjponadipaaDoor.Draw
open Go.RowKit Kit

/-- How a draw of a yes or no ends. -/
def DrawnB (c : Nat) (w : World) (e : Ending) (w' : World) : Prop := ∃ b : Bool, e = .returned (.bool b) ∧ Cur w' c ∧ w.grownBy w' (some c)
theorem once_any (n : Int) (hn : n ≤ 9223372036854775807) (w : World) (c : Nat) (hc : Cur w c) :
    Calls Tryd.prog 20 #[.pointer (some ⟨c, 0, none⟩), .int .i64 n] w (DrawnB c w) := by
  have HC := Lib.hid hc
  clear hc
  go_enter Tryd.func20, Tryd.ntmps20
  go_wp2_with (go_at_call 18; refine (below_any n hn _ _ HC.out).mono ?_; rintro e w1 ⟨x, HP, rfl, hc1, hg1⟩)
  go_ret
  exact ⟨_, rfl, hc1, hg1⟩

end Go.Proofs.YtbibkjponadipaaDoor.Draw

namespace Go.Proofs.YtbibkjponadipaaDoor.Rw
open Go.RowKit Kit

theorem ret_box4 {P : Program} {fn : Func} {R : Ending → World → Prop} {a : Act} {w : World} {p u v x y : Tmp} {ty t : TypeId} {g : Nat} {cs : Array Value} {d : TypeDesc} (h : fn.results = #[.cell p ty, .tmp u, .tmp v, .tmp x, .tmp y]) (hp : a.tmps.getD p undef = .pointer (some ⟨g, 0, none⟩)) (hg : Box w g cs t)
    (hu : P.underlying ty = some d) (hd : (match d with | .struct _ | .array _ _ => true | _ => false) = true) (hi : (P.info? ty).map (·.size) = some cs.size)
    (hf : a.defers = []) (hR : R (.returned (.tuple #[.agg cs, a.tmps.getD u undef, a.tmps.getD v undef, a.tmps.getD x undef, a.tmps.getD y undef])) w) : bodyPost P fn R .ret a w := by
  refine bodyPost_ret (v := .tuple #[.agg cs, a.tmps.getD u undef, a.tmps.getD v undef, a.tmps.getD x undef, a.tmps.getD y undef]) ?_ hf hR
  have hp' : a.tmps[p]?.getD undef = .pointer (some ⟨g, 0, none⟩) := by simpa using hp
  simp [results, h, hp', asAddr, run_loadVar_row w g t ty cs (0, 0) d hg hu hd hi]
end Go.Proofs.YtbibkjponadipaaDoor.Rw
