/- Contracts of the draws of rules and pasts. -/
import Derived.Test.YtbpmbbmgmpdhnaaMDr
import Derived.Test.YtbpmbbmgmpdhnaaStormA
import Derived.Test.YtbpmbbmgmpdhnaaRowE
import Derived.IntWalk
import Derived.Deep.RegionLaw
import Derived.Deep.RegionHeld3
namespace Go.Proofs.Ytbpmbbmgmpdhnaa.Draw
open Go.RowKit Kit Rw Rg Inf Stm StormS

theorem two_set0 {w : World} {b : Nat} {x y u : Value} {t : TypeId} (h : Box w b #[x, y] t) : Box (w.setCell ⟨b, 0, none⟩ u) b #[u, y] t := by
  have hlt := h.lt
  have h' : w.heap[b] = .cells #[x, y] t (0, 0) := by have h := h; unfold Box at h; simpa [Array.getElem?_eq_getElem hlt] using h
  show (w.heap.modify b _)[b]? = _
  rw [Array.getElem?_eq_getElem (by simpa using hlt), Array.getElem_modify_self, h']
  rfl
theorem two_set1 {w : World} {b : Nat} {x y u : Value} {t : TypeId} (h : Box w b #[x, y] t) : Box (w.setCell ⟨b, 1, none⟩ u) b #[x, u] t := by
  have hlt := h.lt
  have h' : w.heap[b] = .cells #[x, y] t (0, 0) := by have h := h; unfold Box at h; simpa [Array.getElem?_eq_getElem hlt] using h
  show (w.heap.modify b _)[b]? = _
  rw [Array.getElem?_eq_getElem (by simpa using hlt), Array.getElem_modify_self, h']
  rfl
/-- A struct of two cells that is stored whole. -/
def put2 (w : World) (b : Nat) (x y : Value) : World := (w.setCell ⟨b, 0, none⟩ x).setCell ⟨b, 1, none⟩ y
theorem put2_grown (w : World) (b : Nat) (x y : Value) : w.grownBy (put2 w b x y) (some b) := grown_trans (grown_set w b 0 x) (grown_set _ b 1 y)
theorem put2_box {w : World} {b : Nat} {x y x' y' : Value} {T : TypeId} (h : Box w b #[x, y] T) : Box (put2 w b x' y') b #[x', y'] T := two_set1 (two_set0 h)
theorem put2_on {w : World} {b : Nat} {x y : Value} {T : TypeId} (h : Box w b #[x, y] T) (x' y' : Value) :
    (w.cell? ⟨b, 0, none⟩ = some x ∧ w.frozen? ⟨b, 0, none⟩ = false) ∧
    ((w.setCell ⟨b, 0, none⟩ x').cell? ⟨b, 1, none⟩ = some y ∧ (w.setCell ⟨b, 0, none⟩ x').frozen? ⟨b, 1, none⟩ = false) ∧
    (((w.setCell ⟨b, 0, none⟩ x').setCell ⟨b, 1, none⟩ y').cell? ⟨b, 0, none⟩ = some x' ∧ ((w.setCell ⟨b, 0, none⟩ x').setCell ⟨b, 1, none⟩ y').cell? ⟨b, 1, none⟩ = some y') := by
  have b1 := two_set0 (u := x') h
  have b2 := two_set1 (u := y') b1
  exact ⟨⟨h.cell 0, h.free 0⟩, ⟨b1.cell 1, b1.free 1⟩, two b2⟩

set_option maxRecDepth 20000 in
set_option maxHeartbeats 1000000 in
theorem rule_any (w : World) (c : Nat) (hc : Cur w c) :
    Calls Try.prog 88 #[.pointer (some ⟨c, 0, none⟩)] w fun e w' => ∃ m n, e = .returned (.agg #[.int .i64 m, .int .i64 n]) ∧ I64 m ∧ I64 n ∧ Cur w' c ∧ w.grownBy w' (some c) := by
  have hlt := hc.lt
  have hg0 := World.grownBy_alloc w (.cells #[.int .i64 0, .int .i64 0] 42 (0, 0)) (none : Option Nat)
  have HC := Lib.hid (hc.kept_row hg0 (fun _ h => by cases h))
  have HB := Lib.hid (box_new w #[.int .i64 0, .int .i64 0] 42)
  have HG := Lib.hid hg0
  clear hc hg0
  go_enter Try.func88, Try.ntmps88
  go_wp2_with fail
  refine (below_any 6 (by omega) _ _ HC.out).mono ?_
  rintro e w1 ⟨x, HP, rfl, hc1, hg1⟩
  obtain ⟨hx0, hx1⟩ := HP.1 (by omega)
  have HB1 := Lib.hid (HB.out.kept hg1 (by simp; omega))
  have HG1 := Lib.hid (grown_old' HG.out hg1)
  have HC1 := Lib.hid hc1
  clear HP hc1 hg1 HB HG HC
  go_wp2_with fail
  refine (below_any (1 + x) (by omega) _ _ HC1.out).mono ?_
  rintro e w2 ⟨y, HP, rfl, hc2, hg2⟩
  obtain ⟨hy0, hy1⟩ := HP.1 (by omega)
  have hB2 := HB1.out.kept hg2 (by simp; omega)
  have HB2 := Lib.hid hB2
  have HG2 := Lib.hid (grown_trans HG1.out hg2)
  have HC2 := Lib.hid hc2
  obtain ⟨⟨p0, r0⟩, ⟨p1, r1⟩, o0, o1⟩ := put2_on hB2 (.int .i64 y) (.int .i64 (1 + x))
  clear HP hc2 hg2 HB1 HG1 HC1 hB2
  go_wp2
  try simp only [Exit.inBlock, Exit.then]
  refine ret_box rfl rfl (put2_box (x' := .int .i64 y) (y' := .int .i64 (1 + x)) HB2.out) Try.underlying42 rfl (by kernel_rfl) rfl ?_
  have hP := put2_grown w2 w.heap.size (.int .i64 y) (.int .i64 (1 + x))
  exact ⟨y, 1 + x, rfl, ⟨by omega, by omega⟩, ⟨by omega, by omega⟩, HC2.out.kept_row hP (fun g hg => by injection hg with hg; omega), grown_mix HG2.out hP (fun g hg => by injection hg with hg; omega)⟩

/-- Where the draw of a past stands. -/
structure PR (w wr : World) (c : Nat) (m n : Int) (v : Value) (L : List Bool) : Prop where
  box : Box wr w.heap.size #[.int .i64 m, .int .i64 n] 42
  own : OwnG encB 4 wr (w.heap.size + 1) v L
  cur : Cur wr c
  grown : w.grownBy wr (some c)
  cl : c < w.heap.size
section
variable {w wr wy : World} {c : Nat} {m n : Int} {v v4 : Value} {L M : List Bool}
theorem PR.on (h : PR w wr c m n v L) (hg : wr.grownBy wy none) : PR w wy c m n v L :=
  ⟨h.box.grown hg, h.own.grown hg, h.cur.kept_row hg (fun _ h => by cases h), grown_mix h.grown hg (fun _ h => by cases h), h.cl⟩
theorem PR.call (h : PR w wr c m n v L) (hg : wr.grownBy wy (some c)) (hc : Cur wy c) : PR w wy c m n v L := by
  have h1 := h.cl
  exact ⟨h.box.kept hg (by simp; omega), h.own.kept hg (.inr (h.own.off (by omega))), hc, grown_trans h.grown hg, h1⟩
theorem PR.more (h : PR w wr c m n v L) (ho : OwnG encB 4 wy (w.heap.size + 1) v4 M) (hg : wr.grownBy wy v.ownBlock) : PR w wy c m n v4 M := by
  have h1 := h.cl
  exact ⟨h.box.kept hg (h.own.off (by omega)), ho, h.cur.kept_row hg (fun g hg => by have := h.own.lt g hg; omega), grown_mix h.grown hg (fun g hg => by have := h.own.lt g hg; omega), h1⟩
end

set_option maxRecDepth 20000 in
set_option maxHeartbeats 2000000 in
theorem past_any (w : World) (c : Nat) (hc : Cur w c) (m n k : Int) (hm : I64 m) (hn : I64 n) (hk : k ≤ 1000) :
    Calls Try.prog 89 #[.pointer (some ⟨c, 0, none⟩), .agg #[.int .i64 m, .int .i64 n], .int .i64 k] w fun e w' => ∃ v L, e = .returned v ∧ OwnG encB 4 w' w.heap.size v L ∧ L.length ≤ k.toNat ∧ Cur w' c ∧ w.grownBy w' (some c) := by
  have hlt0 := hc.lt
  have hg0 := World.grownBy_alloc w (.cells #[.int .i64 m, .int .i64 n] 42 (0, 0)) (none : Option Nat)
  have hg1 := World.grownBy_alloc (w.alloc (.cells #[.int .i64 m, .int .i64 n] 42 (0, 0))) (.cells #[] 4 (0, 0)) (none : Option Nat)
  have hr0 : PR w ((w.alloc (.cells #[.int .i64 m, .int .i64 n] 42 (0, 0))).alloc (.cells #[] 4 (0, 0))) c m n (.slice (some ⟨w.heap.size + 1, 0, none⟩) 0 0) [] := by
    refine ⟨(box_new _ _ _).grown hg1, ?_, (hc.kept_row hg0 (fun _ h => by cases h)).kept_row hg1 (fun _ h => by cases h), grown_mix (grown_mix (grown_refl _ _) hg0 (fun _ h => by cases h)) hg1 (fun _ h => by cases h), hlt0⟩
    have := ownG_empty (e := encB) (E := 4) (w.alloc (.cells #[.int .i64 m, .int .i64 n] 42 (0, 0)))
    simpa [World.size_alloc] using this
  have HR := Lib.hid hr0
  have HM := Lib.hid hm.wf
  have HN := Lib.hid hn.wf
  clear hc hg0 hg1 hr0 hm hn
  obtain ⟨i0, hi, hz0, hz1, hz2⟩ := info_parts StormS.info_bool
  go_enter Try.func89, Try.ntmps89
  go_wp2
  go_loopw [7, 8] (fun p i wr => ∃ (j : Nat) (L : List Bool), j ≤ k.toNat ∧ i = .int .i64 j ∧ Hid (L.length = j) ∧ Hid (PR w wr c m n p L)) (fun _ i _ => k.toNat - (intOf i).toNat)
  case atStart => exact ⟨0, [], Nat.zero_le _, rfl, rfl, HR⟩
  case round =>
    obtain ⟨j, L, hj, rfl, HL, HR1⟩ := hrel
    clear HR
    by_cases hlt : (j : Int) < k
    · obtain ⟨d0, d1⟩ := two HR1.out.box
      have HLL : Hid (L.length ≤ 1000000000) := by show _ ≤ _; rw [HL.out]; omega
      obtain ⟨s, hs⟩ : ∃ s, s = mayStorm m n L := ⟨_, rfl⟩
      have hM := fun w v hv => sMayStorm_any w m n HM.out HN.out v L hv
      simp only [← hs] at hM
      have HMS := Lib.hid hM
      clear hs hM
      cases s
      · go_wp2_with (first
          | (go_at_call 53; refine (HMS.out _ _ HR1.out.own.sees).mono ?_; rintro e w3 ⟨rfl, hg3⟩; have HR3 := Lib.hid (HR1.out.on hg3); have HS3 : Hid (w.heap.size + 1 ≤ w3.heap.size) := HR3.out.box.lt; clear hg3)
          | (at_builtin; go_loud (refine wpListG_append_one _ rfl _ _ 43 rfl (w.heap.size + 1) 4 i0 (.bool false) 1 Try.underlying43 hi hz0 hz1 hz2 rfl _ L rfl HR3.out.own false #[.bool false] rfl rfl trivial HLL.out (by decide) HS3.out ?_); intro v4 w4 hown4 hgrow4 hnew4; have HR4 := Lib.hid (HR3.out.more hown4 hgrow4); clear hown4 hgrow4 hnew4))
        go_roundw
        case rel => exact ⟨j + 1, _, by omega, by go_num, by show _ = _; rw [List.length_append, HL.out]; rfl, HR4⟩
        case measure => simp [intOf]; omega
      · go_wp2_with (first
          | (go_at_call 53; refine (HMS.out _ _ HR1.out.own.sees).mono ?_; rintro e w3 ⟨rfl, hg3⟩; have HR3 := Lib.hid (HR1.out.on hg3); clear hg3)
          | (go_at_call 68; refine (once_any 2 (by omega) _ _ HR3.out.cur).mono ?_; rintro e w5 ⟨b, rfl, hc5, hg5⟩; have HR5 := Lib.hid (HR3.out.call hg5 hc5); have HS5 : Hid (w.heap.size + 1 ≤ w5.heap.size) := HR5.out.box.lt; clear hc5 hg5)
          | (at_builtin; go_loud (refine wpListG_append_one _ rfl _ _ 43 rfl (w.heap.size + 1) 4 i0 (.bool false) 1 Try.underlying43 hi hz0 hz1 hz2 rfl _ L rfl HR5.out.own b #[.bool b] rfl rfl trivial HLL.out (by decide) HS5.out ?_); intro v4 w4 hown4 hgrow4 hnew4; have HR4 := Lib.hid (HR5.out.more hown4 hgrow4); clear hown4 hgrow4 hnew4))
        go_roundw
        case rel => exact ⟨j + 1, _, by omega, by go_num, by show _ = _; rw [List.length_append, HL.out]; rfl, HR4⟩
        case measure => simp [intOf]; omega
    · go_wp2
      go_ret
      exact ⟨_, rfl, L, HR1.out.own.lower (by omega), by rw [HL.out]; exact hj, HR1.out.cur, HR1.out.grown⟩

/-- Where the draw of a rule and a past stands: the result's box, the rule's box B, the past behind it, the cursor. -/
structure SR (w wr : World) (c B : Nat) (m n : Int) (v : Value) (L : List Bool) : Prop where
  box : Box wr B #[.int .i64 m, .int .i64 n] 42
  res : Box wr w.heap.size #[.int .i64 0, .int .i64 0] 42
  own : OwnG encB 4 wr (B + 1) v L
  cur : Cur wr c
  grown : w.grownBy wr (some c)
  lt : w.heap.size < B
  cl : c < w.heap.size
  im : I64 m
  inn : I64 n
  len : L.length ≤ 15
section
variable {w wr wy : World} {c B : Nat} {m n z : Int} {v v4 : Value} {L M : List Bool}
theorem SR.on (h : SR w wr c B m n v L) (hg : wr.grownBy wy none) : SR w wy c B m n v L :=
  ⟨h.box.grown hg, h.res.grown hg, h.own.grown hg, h.cur.kept_row hg (fun _ h => by cases h), grown_mix h.grown hg (fun _ h => by cases h), h.lt, h.cl, h.im, h.inn, h.len⟩
theorem SR.call (h : SR w wr c B m n v L) (hg : wr.grownBy wy (some c)) (hc : Cur wy c) : SR w wy c B m n v L := by
  have h1 := h.cl
  have h2 := h.lt
  exact ⟨h.box.kept hg (by simp; omega), h.res.kept hg (by simp; omega), h.own.kept hg (.inr (h.own.off (by omega))), hc, grown_trans h.grown hg, h2, h1, h.im, h.inn, h.len⟩
theorem SR.more (h : SR w wr c B m n v L) (ho : OwnG encB 4 wy (B + 1) v4 M) (hg : wr.grownBy wy v.ownBlock) (hl : M.length ≤ 15) : SR w wy c B m n v4 M := by
  have h1 := h.cl
  have h2 := h.lt
  exact ⟨h.box.kept hg (h.own.off (by omega)), h.res.kept hg (h.own.off (by omega)), ho, h.cur.kept_row hg (fun g hg => by have := h.own.lt g hg; omega), grown_mix h.grown hg (fun g hg => by have := h.own.lt g hg; omega), h2, h1, h.im, h.inn, hl⟩
/-- The past comes: it lies behind the rule's box. -/
theorem SR.past (h : SR w wr c B m n v L) (hg : wr.grownBy wy (some c)) (hc : Cur wy c) (ho : OwnG encB 4 wy wr.heap.size v4 M) (hl : M.length ≤ 15) : SR w wy c B m n v4 M := by
  have k := h.call hg hc
  exact ⟨k.box, k.res, ho.lower h.box.lt, k.cur, k.grown, k.lt, k.cl, k.im, k.inn, hl⟩
theorem SR.set0 (h : SR w wr c B m n v L) (hz : I64 z) : SR w (wr.setCell ⟨B, 0, none⟩ (.int .i64 z)) c B z n v L := by
  have h1 := h.cl
  have h2 := h.lt
  have hs := grown_set wr B 0 (.int .i64 z)
  exact ⟨two_set0 h.box, h.res.kept hs (by simp; omega), h.own.kept hs (.inr (h.own.off (by omega))), h.cur.kept_row hs (fun g hg => by injection hg with hg; omega), grown_mix h.grown hs (fun g hg => by injection hg with hg; omega), h2, h1, hz, h.inn, h.len⟩
theorem SR.set1 (h : SR w wr c B m n v L) (hz : I64 z) : SR w (wr.setCell ⟨B, 1, none⟩ (.int .i64 z)) c B m z v L := by
  have h1 := h.cl
  have h2 := h.lt
  have hs := grown_set wr B 1 (.int .i64 z)
  exact ⟨two_set1 h.box, h.res.kept hs (by simp; omega), h.own.kept hs (.inr (h.own.off (by omega))), h.cur.kept_row hs (fun g hg => by injection hg with hg; omega), grown_mix h.grown hs (fun g hg => by injection hg with hg; omega), h2, h1, h.im, hz, h.len⟩
/-- How the draw of a rule and a past ends. -/
def DrawnRP (c : Nat) (w : World) (e : Ending) (w' : World) : Prop :=
  ∃ m n v L, e = .returned (.tuple #[.agg #[.int .i64 m, .int .i64 n], v]) ∧ I64 m ∧ I64 n ∧ OwnG encB 4 w' w.heap.size v L ∧ L.length ≤ 15 ∧ Cur w' c ∧ w.grownBy w' (some c)
theorem SR.fin (h : SR w wr c B m n v L) : DrawnRP c w (.returned (.tuple #[.agg #[.int .i64 m, .int .i64 n], v])) (put2 wr w.heap.size (.int .i64 m) (.int .i64 n)) := by
  have h1 := h.cl
  have h2 := h.lt
  have hP := put2_grown wr w.heap.size (.int .i64 m) (.int .i64 n)
  exact ⟨m, n, v, L, rfl, h.im, h.inn, (h.own.kept hP (.inr (h.own.off (by omega)))).lower (by omega), h.len, h.cur.kept_row hP (fun g hg => by injection hg with hg; omega), grown_mix h.grown hP (fun g hg => by injection hg with hg; omega)⟩
theorem keep2 {x y : Value} (hg : wr.grownBy wy (some c)) (h : wr.cell? ⟨B, 0, none⟩ = some x ∧ wr.cell? ⟨B, 1, none⟩ = some y) (hne : B ≠ c) :
    wy.cell? ⟨B, 0, none⟩ = some x ∧ wy.cell? ⟨B, 1, none⟩ = some y := ⟨hg.cell h.1 (by simp; exact hne), hg.cell h.2 (by simp; exact hne)⟩
end
end Go.Proofs.Ytbpmbbmgmpdhnaa.Draw
