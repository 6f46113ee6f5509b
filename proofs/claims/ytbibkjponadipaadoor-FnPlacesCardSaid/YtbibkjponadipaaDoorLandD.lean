/- Contracts of the draws of lands. -/
import Derived.Test.YtbibkjponadipaaDoorDrawG
import Derived.Test.YtbibkjponadipaaDoorMBase
import Derived.Test.YtbibkjponadipaaDoorRes
import Derived.IntWalk
import Derived.Deep.AppendLies
import Derived.Deep.RegionLaw
namespace Go.Proofs.YtbibkjponadipaaDoor.Draw
open Go.RowKit Kit Rw Inf Ld

set_option maxHeartbeats 1000000 in
theorem raw_any (w : World) (c : Nat) (hc : Cur w c) :
    Calls Tryd.prog 37 #[.pointer (some ⟨c, 0, none⟩)] w (Drawn c w I64) := by
  have HC := Lib.hid hc
  clear hc
  have HL := Lib.hid (int_list [-1, 0, 8, 9, 64, 9223372036854775807, -9223372036854775808] w c HC.out (by decide) (by decide))
  go_enter Tryd.func37, Tryd.ntmps37
  go_wp2_with (go_at_call 25; refine (HL.out).mono ?_; rintro e w3 ⟨y, hy, rfl, hc3, hg3⟩)
  go_ret
  refine ⟨_, ?_, rfl, hc3, hg3⟩
  simp only [List.mem_cons, List.not_mem_nil, or_false] at hy
  unfold I64; omega

/-- How the draw of a valid land ends. -/
def DrawnLd (c : Nat) (w : World) (e : Ending) (w' : World) : Prop :=
  ∃ W H v X, e = .returned (.agg #[.int .i64 W, .int .i64 H, v]) ∧ (2 ≤ W ∧ W ≤ 6) ∧ (2 ≤ H ∧ H ≤ 5) ∧ (X.length : Int) = W * H ∧ Own .i64 3 w' w.heap.size v X ∧ Cur w' c ∧ w.grownBy w' (some c)

theorem three_set0 {w : World} {b : Nat} {x y z u : Value} {t : TypeId} (h : w.heap[b]? = some (.cells #[x, y, z] t (0, 0))) : (w.setCell ⟨b, 0, none⟩ u).heap[b]? = some (.cells #[u, y, z] t (0, 0)) := by
  have hlt := lt_of_block h
  have h' : w.heap[b] = .cells #[x, y, z] t (0, 0) := by simpa [Array.getElem?_eq_getElem hlt] using h
  show (w.heap.modify b _)[b]? = _
  rw [Array.getElem?_eq_getElem (by simpa using hlt), Array.getElem_modify_self, h']
  rfl
/-- A struct of three cells that is stored whole. -/
def put3 (w : World) (b : Nat) (x y z : Value) : World := ((w.setCell ⟨b, 0, none⟩ x).setCell ⟨b, 1, none⟩ y).setCell ⟨b, 2, none⟩ z
theorem put3_grown (w : World) (b : Nat) (x y z : Value) : w.grownBy (put3 w b x y z) (some b) :=
  grown_trans (grown_trans (grown_set w b 0 x) (grown_set _ b 1 y)) (grown_set _ b 2 z)
theorem put3_box {w : World} {b : Nat} {x y z x' y' z' : Value} {T : TypeId} (h : Box w b #[x, y, z] T) : Box (put3 w b x' y' z') b #[x', y', z'] T := three_set2 (three_set1 (three_set0 h))
/-- .. what is asked at each of its three stores, and what its cells then hold. -/
theorem put3_on {w : World} {b : Nat} {x y z : Value} {T : TypeId} (h : Box w b #[x, y, z] T) (x' y' z' : Value) :
    (w.cell? ⟨b, 0, none⟩ = some x ∧ w.frozen? ⟨b, 0, none⟩ = false) ∧
    ((w.setCell ⟨b, 0, none⟩ x').cell? ⟨b, 1, none⟩ = some y ∧ (w.setCell ⟨b, 0, none⟩ x').frozen? ⟨b, 1, none⟩ = false) ∧
    (((w.setCell ⟨b, 0, none⟩ x').setCell ⟨b, 1, none⟩ y').cell? ⟨b, 2, none⟩ = some z ∧ ((w.setCell ⟨b, 0, none⟩ x').setCell ⟨b, 1, none⟩ y').frozen? ⟨b, 2, none⟩ = false) ∧
    ((((w.setCell ⟨b, 0, none⟩ x').setCell ⟨b, 1, none⟩ y').setCell ⟨b, 2, none⟩ z').cell? ⟨b, 0, none⟩ = some x' ∧ (((w.setCell ⟨b, 0, none⟩ x').setCell ⟨b, 1, none⟩ y').setCell ⟨b, 2, none⟩ z').cell? ⟨b, 1, none⟩ = some y' ∧ (((w.setCell ⟨b, 0, none⟩ x').setCell ⟨b, 1, none⟩ y').setCell ⟨b, 2, none⟩ z').cell? ⟨b, 2, none⟩ = some z') := by
  have b1 : (w.setCell ⟨b, 0, none⟩ x').heap[b]? = _ := three_set0 (u := x') h
  have b2 := three_set1 (u := y') b1
  have b3 := three_set2 (u := z') b2
  exact ⟨⟨(three_cell h).1, (three_free h).1⟩, ⟨(three_cell b1).2.1, (three_free b1).2.1⟩, ⟨(three_cell b2).2.2, (three_free b2).2.2⟩, three_cell b3⟩

/-- Where the draw of a land stands: the result's box, the land's own box B, its cells behind it, the cursor. -/
structure LR (w wr : World) (c B : Nat) (W H : Int) (v : Value) (X : List Int) : Prop where
  box : Box wr B #[.int .i64 W, .int .i64 H, v] 26
  res : Box wr w.heap.size #[.int .i64 0, .int .i64 0, .slice none 0 0] 26
  own : Own .i64 3 wr (B + 1) v X
  cur : Cur wr c
  grown : w.grownBy wr (some c)
  lt : w.heap.size < B
  cl : c < w.heap.size

theorem LR.next {w wr w3 w4 : World} {c B : Nat} {W H z : Int} {v v4 : Value} {X Y : List Int} (h : LR w wr c B W H v X) (hg3 : wr.drew.grownBy w3 (some c)) (hc3 : Cur w3 c) (hgrow4 : (w3.alloc (.cells #[.int .i64 z] 3 (0, 0))).grownBy w4 v.ownBlock)
    (hown4 : Own .i64 3 w4 (B + 1) v4 Y) : LR w (w4.setCell ⟨B, 2, none⟩ v4) c B W H v4 Y := by
  have hcl := h.cl
  have hlt := h.lt
  have hd := grown_drew (World.grownBy.refl wr none)
  have hal := World.grownBy_alloc w3 (.cells #[.int .i64 z] 3 (0, 0)) (none : Option Nat)
  have hset := grown_set w4 B 2 v4
  have hB : Box w4 B #[.int .i64 W, .int .i64 H, v] 26 := (((h.box.grown hd).kept hg3 (by simp; omega)).grown hal).kept hgrow4 (h.own.off (by omega))
  have hR : Box w4 w.heap.size #[.int .i64 0, .int .i64 0, .slice none 0 0] 26 := (((h.res.grown hd).kept hg3 (by simp; omega)).grown hal).kept hgrow4 (h.own.off (by omega))
  have hC : Cur w4 c := (hc3.kept_row hal (fun _ h => by cases h)).kept_row hgrow4 (fun g hg => by have := h.own.lt g hg; omega)
  refine ⟨three_set2 hB, hR.kept hset (by simp; omega), hown4.set (by omega) 2 v4, hC.kept_row hset (fun g hg => by injection hg with hg; omega), ?_, hlt, hcl⟩
  have g1 := grown_mix h.grown hd (fun _ h => by cases h)
  have g2 := grown_trans g1 hg3
  have g3 := grown_mix g2 hal (fun _ h => by cases h)
  have g4 := grown_mix g3 hgrow4 (fun g hg => by have := h.own.lt g hg; omega)
  exact grown_mix g4 hset (fun g hg => by injection hg with hg; omega)

set_option maxRecDepth 100000 in
set_option maxHeartbeats 4000000 in
theorem ldraw_any (w : World) (c : Nat) (hc : Cur w c) :
    Calls Tryd.prog 16 #[.pointer (some ⟨c, 0, none⟩)] w (DrawnLd c w) := by
  have hlt0 := hc.lt
  have hg0 := World.grownBy_alloc w (.cells #[.int .i64 0, .int .i64 0, .slice none 0 0] 26 (0, 0)) (none : Option Nat)
  have HC : Hid (Cur (w.alloc (.cells #[.int .i64 0, .int .i64 0, .slice none 0 0] 26 (0, 0))) c) := hc.kept_row hg0 (fun _ h => by cases h)
  have HG := Lib.hid hg0
  clear hc hg0
  obtain ⟨i0, hi, hz0, hz1, hz2⟩ := info_parts info_i64
  go_enter Tryd.func16, Tryd.ntmps16
  go_wp2_with fail
  refine (below_any 5 (by omega) _ _ HC.out).mono ?_
  rintro e w1 ⟨x, HP, rfl, hc1, hg1⟩
  obtain ⟨hx0, hx1⟩ := HP.1 (by omega)
  clear HP
  go_wp2_with fail
  refine (below_any 4 (by omega) _ _ hc1).mono ?_
  rintro e w2 ⟨y, HP, rfl, hc2, hg2⟩
  obtain ⟨hy0, hy1⟩ := HP.1 (by omega)
  clear HP
  obtain ⟨W, hW⟩ : ∃ W, W = 2 + x := ⟨_, rfl⟩
  obtain ⟨H, hH⟩ : ∃ H, H = 2 + y := ⟨_, rfl⟩
  have hW1 : 2 ≤ W ∧ W ≤ 6 := by omega
  have hH1 : 2 ≤ H ∧ H ≤ 5 := by omega
  have hA := area (W := W) (H := H) (by omega) (by omega)
  obtain ⟨n, hn⟩ : ∃ n : Nat, W * H = n := ⟨(W * H).toNat, by omega⟩
  have hp : IntKind.i64.wrap (W * H) = n := by rw [← hn]; exact IntWalk.i64_in _ (by omega)
  have hn1 : 4 ≤ n ∧ n ≤ 30 := by
    have h1 := Int.mul_le_mul hW1.1 hH1.1 (by omega) (by omega)
    have h2 := Int.mul_le_mul hW1.2 hH1.2 (by omega) (by omega)
    omega
  have hg3 := hg1
  have hr0 : LR w (w2.alloc (.cells #[.int .i64 W, .int .i64 H, .slice none 0 0] 26 (0, 0))) c w2.heap.size W H (.slice none 0 0) [] := by
    have hA1 := World.grownBy_alloc w2 (.cells #[.int .i64 W, .int .i64 H, .slice none 0 0] 26 (0, 0)) (none : Option Nat)
    have hs := Nat.le_trans hg1.size hg2.size
    simp only [World.size_alloc] at hs
    refine ⟨box_new _ _ _, ?_, own_nil _ _, hc2.kept_row hA1 (fun _ h => by cases h), grown_mix (grown_old' HG.out (grown_trans hg1 hg2)) hA1 (fun _ h => by cases h), by omega, hlt0⟩
    exact ((box_new w #[.int .i64 0, .int .i64 0, .slice none 0 0] 26).kept (grown_trans hg1 hg2) (by simp; omega)).grown hA1
  have HR := Lib.hid hr0
  have HWH := Lib.hid hn
  have HW1 := Lib.hid hW1
  have HH1 := Lib.hid hH1
  have HX := Lib.hid hW
  have HY := Lib.hid hH
  clear hr0 hg1 hg2 hg3 hc1 hc2 hA hW1 hH1 hn
  go_wp2
  rw [← HX.out, ← HY.out]
  clear HX HY HC HG hW hH hx0 hx1 hy0 hy1 hlt0
  obtain ⟨B, hB⟩ : ∃ B, B = w2.heap.size := ⟨_, rfl⟩
  rw [← hB] at HR ⊢
  generalize w2.alloc (.cells #[.int .i64 W, .int .i64 H, .slice none 0 0] 26 (0, 0)) = W3 at *
  clear hB
  go_loopw [4] (fun i wr => ∃ (j : Nat) (v : Value) (X : List Int), j ≤ n ∧ i = .int .i64 j ∧ X.length = j ∧ Hid (LR w wr c B W H v X)) (fun i _ => n - (intOf i).toNat)
  case atStart => exact ⟨0, _, [], Nat.zero_le _, rfl, rfl, HR⟩
  case round =>
    obtain ⟨j, v, X, hj, rfl, hX, HR1⟩ := hrel
    obtain ⟨d0, d1, d2⟩ := HR1.out.box.three
    obtain ⟨f0, f1, f2⟩ := three_free HR1.out.box
    by_cases hlt : j < n
    · have HXL := Lib.hid hX
      have hXn : X.length ≤ 30 := by omega
      clear hX HR
      have hdr := grown_drew (World.grownBy.refl wr none)
      have hCd := Lib.hid (HR1.out.cur.kept_row hdr (fun _ h => by cases h))
      have hBd := HR1.out.box.grown hdr
      obtain ⟨k0, k1, k2⟩ := hBd.three
      obtain ⟨q0, q1, q2⟩ := three_free hBd
      have hcB : c < B := Nat.lt_trans HR1.out.cl HR1.out.lt
      have hBw : B < wr.heap.size := HR1.out.box.lt
      go_wp2_with fail
      have kk1 := (World.grownBy_alloc wr.drew (.cells #[.int .i64 0, .int .i64 0, .int .i64 0, .int .i64 0, .int .i64 1, .int .i64 2] 3 (0, 0)) none).cell k2 (by simp)
      go_region_law (first
        | (refine step_append_one _ (by rfl) _ _ _ (by rfl) (B + 1) 3 i0 (.int .i64 0) 8 Tryd.underlying24 hi hz0 hz1 hz2 rfl .i64 v X (by rfl) ((((HR1.out.own.grown (grown_drew (World.grownBy.refl wr none))).kept hg3 (.inr (HR1.out.own.off (by omega)))).grown (World.grownBy_alloc _ _ none))) z w3.heap.size (by rfl) (cell_of_one (heap_alloc_new _ _)) (i64_mk (by omega)) (by omega) (by decide) (by have h3 := hg3.size; simp only [World.size_alloc] at h3 ⊢; simp only [World.drew] at h3; omega) ?_; intro v4 w4 hown4 hgrow4; have hB4 := ((hBd.kept hg3 (by simp; omega)).grown (World.grownBy_alloc _ (.cells #[.int .i64 z] 3 (0, 0)) none)).kept hgrow4 (HR1.out.own.off (by omega)); have kk4 := hB4.three.2.2; have ff4 := (three_free hB4).2.2; obtain ⟨a4, n4, c4, hv4, HN4⟩ := hown4.sees.shape; subst hv4)
        | (go_simp; go_at_call 25; refine (int_list [0, 0, 0, 0, 1, 2] _ c hCd.out (by decide) (by decide)).mono ?_; rintro e w3 ⟨z, hz, rfl, hc3, hg3⟩; have hzz : 0 ≤ z ∧ z ≤ 2 := (by simp only [List.mem_cons, List.not_mem_nil, or_false] at hz; omega); have kk2 := hg3.cell k2 (by simp; omega); have kk3 := (World.grownBy_alloc w3 (.cells #[.int .i64 z] 3 (0, 0)) none).cell kk2 (by simp)))
      all_goals
        have hnx := HR1.out.next hg3 hc3 hgrow4 hown4
        have HNX := Lib.hid hnx
        have hlen : (X ++ [z]).length = j + 1 := by have := HXL.out; simp; omega
        have HLN := Lib.hid hlen
        clear hnx hlen hown4 hgrow4 hB4 kk4 ff4 kk3 kk2 kk1 hg3 hc3 hz k0 k1 k2 q0 q1 q2 hBd hCd hdr d0 d1 d2 f0 f1 f2
        go_wp2
        go_roundw
        case rel => exact ⟨j + 1, _, _, by omega, by go_num, HLN.out, HNX⟩
        case measure => simp [intOf]; omega
    · have hjn : n = j := by omega
      subst hjn
      obtain ⟨g, cp, hv, hgb, hgl⟩ := HR1.out.own.1.form (by omega)
      rw [hX] at hv
      subst hv
      have hB0 := HR1.out.lt
      have hown := HR1.out.own.1
      rw [hX] at hown
      have hs := own_set (k := .i64) hown 0 0
      have hcell : wr.cell? ⟨g, 0, none⟩ = some (.int .i64 (X.getD 0 0)) := (hown.cellAt 0 (by omega)).trans (getD_map (by omega))
      have hfree := hown.frozenAt 0
      have e0 := hs.2.cell d0 (by simp; omega)
      have e1 := hs.2.cell d1 (by simp; omega)
      have e2 := hs.2.cell d2 (by simp; omega)
      have hR5 := HR1.out.res.kept hs.2 (by simp; omega)
      obtain ⟨⟨p0, r0⟩, ⟨p1, r1⟩, ⟨p2, r2⟩, o0, o1, o2⟩ := put3_on hR5 (.int .i64 W) (.int .i64 H) (.slice (some ⟨g, 0, none⟩) n cp)
      have HS := Lib.hid hs
      have HR5 := Lib.hid hR5
      clear hs hR5
      go_wp2
      try simp only [Exit.inBlock, Exit.then]
      refine ret_box rfl rfl (put3_box (x' := .int .i64 W) (y' := .int .i64 H) (z' := .slice (some ⟨g, 0, none⟩) n cp) HR5.out) Tryd.underlying26 rfl (by kernel_rfl) rfl ?_
      clear p0 p1 p2 r0 r1 r2 o0 o1 o2 e0 e1 e2 d0 d1 d2 f0 f1 f2 hcell hfree
      have hgS := HS.out.2
      have hP := put3_grown (wr.setCell ⟨g, 0, none⟩ (.int .i64 0)) w.heap.size (.int .i64 W) (.int .i64 H) (.slice (some ⟨g, 0, none⟩) n cp)
      have ho : Own .i64 3 (wr.setCell ⟨g, 0, none⟩ (.int .i64 0)) (B + 1) (.slice (some ⟨g, 0, none⟩) n cp) (X.set 0 0) := by
        refine ⟨by rw [List.length_set, hX]; exact HS.out.1, fun m hm => ?_⟩
        rcases List.mem_or_eq_of_mem_set hm with h' | h'
        · exact HR1.out.own.2 m h'
        · rw [h']; exact i64_mk (by omega)
      have hcl := HR1.out.cl
      refine ⟨W, H, _, X.set 0 0, rfl, HW1.out, HH1.out, by rw [List.length_set, hX]; exact HWH.out.symm, ?_, ?_, ?_⟩
      · exact (ho.kept hP (.inr (by simp [Value.ownBlock]; omega))).lower (by omega)
      · exact (HR1.out.cur.kept_row hgS (fun b hb => by injection hb with hb; omega)).kept_row hP (fun b hb => by injection hb with hb; omega)
      · exact grown_mix (grown_mix HR1.out.grown hgS (fun b hb => by injection hb with hb; omega)) hP (fun b hb => by injection hb with hb; omega)
end Go.Proofs.YtbibkjponadipaaDoor.Draw
