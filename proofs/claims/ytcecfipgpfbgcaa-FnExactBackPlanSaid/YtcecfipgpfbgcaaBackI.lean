/- Contract of the program's plan back. -/
import Derived.Test.YtcecfipgpfbgcaaBack
namespace Go.Proofs.Ytcecfipgpfbgcaa.Bck
open Go.RowKit Go.Shelf Kit Rw Rg
attribute [local go_sem] Oper.semAt_some

/-- Where the leg behind the ith one's way back leads. -/
def goTo (frm : Int) (L : List G2) (i : Nat) : Int := if 0 < i then (L.getD (i - 1) (0, 0)).1 else frm
def legOf (frm : Int) (L : List G2) (i : Nat) : G2 := (goTo frm L i, 0)
def back (frm : Int) (L : List G2) : List G2 := (upto (fromEnd L.length) L.length).map (legOf frm L)
theorem back_len (frm : Int) (L : List G2) : (back frm L).length = L.length := by simp [back, upto]
theorem goTo_wf {frm : Int} {L : List G2} (hf : (Lit.int .i64 frm).wf = true) (hL : ∀ x ∈ L, encP.ok x) {i : Nat} (hi : i < L.length) : (Lit.int .i64 (goTo frm L i)).wf = true := by
  unfold goTo
  split
  · exact (hL _ (memG (by omega))).1
  · exact hf
theorem back_ok {frm : Int} {L : List G2} (hf : (Lit.int .i64 frm).wf = true) (hL : ∀ x ∈ L, encP.ok x) : ∀ x ∈ back frm L, encP.ok x := fun x hx => by
  unfold back at hx
  obtain ⟨i, hi, rfl⟩ := List.mem_map.1 hx
  obtain ⟨r, hr, rfl⟩ := List.mem_map.1 hi
  rw [List.mem_range] at hr
  exact ⟨goTo_wf hf hL (by unfold fromEnd; omega), i64_mk (by show -9223372036854775808 ≤ (0 : Int) ∧ (0 : Int) ≤ 9223372036854775807; omega)⟩
theorem ownsRow_lower {w : World} {b b' s k : Nat} {E : TypeId} {v : Value} {xs : List Value} (h : w.ownsRow b E s v k xs) (hb : b' ≤ b) : w.ownsRow b' E s v k xs := by
  obtain ⟨h1, h2⟩ := h
  refine ⟨h1, ?_⟩
  rcases h2 with h2 | ⟨g, cap, cur, hv, hg, r⟩
  · exact .inl h2
  · exact .inr ⟨g, cap, cur, hv, by omega, r⟩
theorem info_leg : (Try.prog.info? 47).map (fun i => (i.zero, i.size, i.bytes)) = some (some (.agg #[.int .i64 0, .int .i64 0]), 2, 16) := by kernel_rfl
theorem cell_two_new (w : World) (x y : Value) (t : TypeId) : ∀ j u, [x, y][j]? = some u → (w.alloc (.cells #[x, y] t)).cell? ((⟨w.heap.size, 0, none⟩ : Addr).add j) = some u := by
  intro j u hj
  have hb := box_new w #[x, y] t
  rw [add_plain, Nat.zero_add]
  match j, hj with
  | 0, hj => simp at hj; subst hj; exact hb.cell 0
  | 1, hj => simp at hj; subst hj; exact hb.cell 1
def cellsOf (frm : Int) (L : List G2) (pre : List (Ix L.length)) : List Value := flat encP (pre.map fun x => legOf frm L x.1)
theorem cells_next (frm : Int) (L : List G2) (pre : List (Ix L.length)) (x : Ix L.length) : cellsOf frm L (pre ++ [x]) = cellsOf frm L pre ++ [.int .i64 (goTo frm L x.1), .int .i64 0] := by
  unfold cellsOf
  rw [List.map_append, flat_app]
  rfl

set_option maxRecDepth 100000 in
set_option maxHeartbeats 4000000 in
theorem iBack_in (F : Fence) (n : Nat) (h3 : F.fn 21) (h4 : F.fn 36) (h5 : F.fn 43) (hro : F.round = none) (hn : 3 ≤ n) (w : World) (frm : Int) (a : Option Addr) (cap : Nat) (L : List G2) (hlen : L.length ≤ 1000000000) (hL : Legs w.heap.size w a L) :
    CallsIn F n Try.prog 21 #[.int .i64 frm, .slice a L.length cap] w fun e W' => ∃ v, e = .returned v ∧ W'.ownsRow w.heap.size 47 2 v (back frm L).length (flat encP (back frm L)) ∧ Below w.heap.size w W' := by
  have h1 : 1 ≤ n := by omega
  obtain ⟨i0, hi, hz0, hz1, hz2⟩ := info_parts info_leg
  obtain ⟨lv, hlv⟩ : ∃ lv, lv = Value.slice a L.length cap := ⟨_, rfl⟩
  have b0 := Boxed.new w 3 (.int .i64 frm)
  obtain ⟨w1, hw1⟩ : ∃ w1, w1 = w.alloc (.cells #[.int .i64 frm] 3) := ⟨_, rfl⟩
  have s1 : w1.heap.size = w.heap.size + 1 := by rw [hw1, World.size_alloc]
  have b1 := Boxed.new w1 37 lv
  obtain ⟨w2, hw2⟩ : ∃ w2, w2 = w1.alloc (.cells #[lv] 37) := ⟨_, rfl⟩
  have s2 : w2.heap.size = w.heap.size + 2 := by rw [hw2, World.size_alloc, s1]
  obtain ⟨w3, hw3⟩ : ∃ w3, w3 = w2.alloc (.cells #[] 47) := ⟨_, rfl⟩
  have s3 : w3.heap.size = w.heap.size + 3 := by rw [hw3, World.size_alloc, s2]
  have r3 : w3.ownsRow (w.heap.size + 2) 47 2 (.slice (some ⟨w.heap.size + 2, 0, none⟩) 0 0) 0 [] := by
    have := (ownG_empty (e := encP) (E := 47) w2).1
    rw [← hw3, s2] at this
    exact this
  have b3 := Boxed.new w3 37 (.slice (some ⟨w.heap.size + 2, 0, none⟩) 0 0)
  obtain ⟨w4, hw4⟩ : ∃ w4, w4 = w3.alloc (.cells #[.slice (some ⟨w.heap.size + 2, 0, none⟩) 0 0] 37) := ⟨_, rfl⟩
  have s4 : w4.heap.size = w.heap.size + 4 := by rw [hw4, World.size_alloc, s3]
  have b4 := Boxed.new w4 37 lv
  obtain ⟨w5, hw5⟩ : ∃ w5, w5 = w4.alloc (.cells #[lv] 37) := ⟨_, rfl⟩
  have s5 : w5.heap.size = w.heap.size + 5 := by rw [hw5, World.size_alloc, s4]
  rw [← hw1] at b0
  rw [← hw2, s1] at b1
  rw [← hw4, s3] at b3
  rw [← hw5, s4] at b4
  have B0 : Boxed w5 w.heap.size 3 (.int .i64 frm) := by rw [hw5]; refine Boxed.alloc ?_ _; rw [hw4]; refine Boxed.alloc ?_ _; rw [hw3]; refine Boxed.alloc ?_ _; rw [hw2]; exact b0.alloc _
  have B1 : Boxed w5 (w.heap.size + 1) 37 lv := by rw [hw5]; refine Boxed.alloc ?_ _; rw [hw4]; refine Boxed.alloc ?_ _; rw [hw3]; exact b1.alloc _
  have B3 : Boxed w5 (w.heap.size + 3) 37 (.slice (some ⟨w.heap.size + 2, 0, none⟩) 0 0) := by rw [hw5]; exact b3.alloc _
  have R5 : w5.ownsRow (w.heap.size + 2) 47 2 (.slice (some ⟨w.heap.size + 2, 0, none⟩) 0 0) 0 [] := by
    rw [hw5]; refine World.ownsRow.alloc ?_ _; rw [hw4]; exact r3.alloc _
  have hB5 : Below w.heap.size w w5 := by
    rw [hw5]; refine Below.alloc ?_ (by omega) _; rw [hw4]; refine Below.alloc ?_ (by omega) _; rw [hw3]; refine Below.alloc ?_ (by omega) _; rw [hw2]; refine Below.alloc ?_ (by omega) _; rw [hw1]; exact (Below.refl _ w).alloc (Nat.le_refl _) _
  have hc1 := b1.cell
  refine callsIn_of_wp_marks Try.func21 rfl h3 ?_ hro
  simp only [Try.ntmps21, List.size_toArray, List.length_cons, List.length_nil, Nat.reduceAdd, Nat.reduceSub, Array.replicate_succ, Array.replicate_zero, List.push_toArray, List.append_toArray, List.nil_append, List.cons_append]
  gi_wp2_with (gi_at_call 36; refine (back_in F (n - 1) h4 hro _ _ _ _).mono ?_; rintro e w' ⟨rfl, rfl⟩)
  simp only [Nat.add_assoc, Nat.reduceAdd]
  rw [← hlv, ← hw1, ← hw2, ← hw3, ← hw4, ← hw5]
  have hI5 : Legs w.heap.size w5 a L := hL.below hB5
  rw [hlv] at b4
  refine wpIn_rangeFunc_ownG hro h1 (gf := 43) (lb := #[.pointer (some ⟨w.heap.size + 4, 0, none⟩)]) rfl h5 (enters_of Try.func43 (by kernel_rfl) rfl)
    (back_stops F (n - 1) h5 hro (by omega) (w.heap.size + 4) w.heap.size a cap L hlen w5 b4 (by omega) hI5) Keep.trans (keep_b (by omega) (by omega)) (Below.refl _ _) (fun _ => rfl)
    (fun pre W => (∃ v, Boxed W (w.heap.size + 3) 37 v ∧ W.ownsRow (w.heap.size + 2) 47 2 v pre.length (cellsOf frm L pre) ∧ True) ∧ (Boxed W w.heap.size 3 (.int .i64 frm) ∧ (Boxed W (w.heap.size + 1) 37 (.slice a L.length cap) ∧ (Boxed W (w.heap.size + 4) 37 (.slice a L.length cap) ∧ (w.heap.size + 5 ≤ W.heap.size ∧ Below w.heap.size w W)))))
    (fun _ _ _ => False)
    (OwnFrom.and (Own.from (holdsRow_own (w.heap.size + 2) (w.heap.size + 3) 37 47 2 (fun pre => pre.length) (fun pre => cellsOf frm L pre) (fun _ _ => True)) _) (OwnFrom.and (Own.from (boxed_own _ _ _) _) (OwnFrom.and (Own.from (boxed_own _ _ _) _) (OwnFrom.and (Own.from (boxed_own _ _ _) _) (OwnFrom.and (fun _ _ _ _ hs hg _ => Nat.le_trans hs hg.size) (ownFrom_below (Nat.le_refl _) (by omega)))))))
    (fun _ _ _ _ _ hs _ _ => hs)
    ⟨⟨_, B3, R5, trivial⟩, B0, by rw [← hlv]; exact B1, b4, by omega, hB5⟩
    (fun x => { tmps := #[.int .i64 frm, .slice a L.length cap, .pointer (some ⟨w.heap.size, 0, none⟩), .pointer (some ⟨w.heap.size + 1, 0, none⟩), .slice none 0 0, .pointer (some ⟨w.heap.size + 3, 0, none⟩), .int .i64 (x.1 : Int), undef, .slice (some ⟨w.heap.size + 2, 0, none⟩) 0 0, .slice a L.length cap, .func (.func 43) #[] #[.pointer (some ⟨w.heap.size + 4, 0, none⟩)], .int .i64 (x.1 : Int), .agg #[.int .i64 (L.getD x.1 (0, 0)).1, .int .i64 (L.getD x.1 (0, 0)).2], undef, undef, undef, undef, undef, undef, undef, undef, undef, undef, undef, undef, undef, undef, undef], defers := [] }) ?assign ?body ?done ?stop
  case assign =>
    intro l x W K hK
    simp only [encs]
    gi_wp2
    exact hK
  case body =>
    rintro l pre ⟨i, hi'⟩ W ⟨⟨v, hv, hrow, _⟩, hb0, hb1, hb4, hsz, hB⟩ hlt
    have hc := hv.cell
    have hc0 := hb0.cell
    have hc1 := hb1.cell
    dsimp only
    cases i with
    | zero =>
      gi_wp2_with (gi_at_builtin; go_loud (refine wpListIn_append_own _ rfl _ _ 37 rfl (w.heap.size + 2) 47 i0 (.agg #[.int .i64 0, .int .i64 0]) 2 16 Try.underlying37 hi hz0 hz1 hz2 rfl (by decide) _ _ _ rfl (hrow.alloc _) ⟨W.heap.size, 0, none⟩ 1 1 [.int .i64 frm, .int .i64 0] rfl rfl (cell_two_new _ _ _ _) (by simp [Value.oneCell']) (by unfold maxLen; omega) (by omega) (by simp; omega) ?_); intro v' wz hown' hgrow _; obtain ⟨g', cap', rfl⟩ := ownsRow_succ hown'; obtain ⟨hv1, hv2, hr2, hk2, hb2⟩ := hv.appended (by decide) hrow (by omega) (by omega) hown' hgrow; have hc9 := hv1.cell; have hf9 := hv1.frozen)
      have B4' : Boxed (wz.setCell ⟨w.heap.size + 3, 0, none⟩ (.slice (some ⟨g', 0, none⟩) (pre.length + 1) cap')) (w.heap.size + 4) 37 (.slice _ L.length cap) := ((hb4.alloc _).kept hgrow (hb4.not_row (by decide) hrow)).kept (grownBy_setCell' _ (w.heap.size + 3) _) (by simp)
      exact ⟨hk2.from _, ⟨hb2.mono (by omega), B4'.trans hb4.symm⟩, ⟨_, hv2, by rw [cells_next, List.length_append]; exact hr2, trivial⟩, (hb2.block _ (by omega)).trans hb0, (hb2.block _ (by omega)).trans hb1, B4', Nat.le_trans hsz hb2.size, hB.trans (hb2.mono (by omega))⟩
    | succ k =>
      obtain ⟨b, o, rfl, hb, e0, e1⟩ := (hL.below hB) k (by omega)
      obtain ⟨x, hx⟩ : ∃ x, x = (L.getD k (0, 0)).1 := ⟨_, rfl⟩
      rw [← hx] at e0
      have hgx : goTo frm L (k + 1) = x := by unfold goTo; rw [if_pos (by omega), hx]; rfl
      have HGX := Lib.hid hgx
      clear hgx hx
      have hk1 : ((k + 1 : Nat) : Int) - 1 = (k : Int) := by omega
      have hkL : k < L.length := by omega
      gi_wp2_with (gi_at_builtin; go_loud (refine wpListIn_append_own _ rfl _ _ 37 rfl (w.heap.size + 2) 47 i0 (.agg #[.int .i64 0, .int .i64 0]) 2 16 Try.underlying37 hi hz0 hz1 hz2 rfl (by decide) _ _ _ rfl (hrow.alloc _) ⟨W.heap.size, 0, none⟩ 1 1 [.int .i64 x, .int .i64 0] rfl rfl (cell_two_new _ _ _ _) (by simp [Value.oneCell']) (by unfold maxLen; omega) (by omega) (by simp; omega) ?_); intro v' wz hown' hgrow _; obtain ⟨g', cap', rfl⟩ := ownsRow_succ hown'; obtain ⟨hv1, hv2, hr2, hk2, hb2⟩ := hv.appended (by decide) hrow (by omega) (by omega) hown' hgrow; have hc9 := hv1.cell; have hf9 := hv1.frozen)
      have B4' : Boxed (wz.setCell ⟨w.heap.size + 3, 0, none⟩ (.slice (some ⟨g', 0, none⟩) (pre.length + 1) cap')) (w.heap.size + 4) 37 (.slice _ L.length cap) := ((hb4.alloc _).kept hgrow (hb4.not_row (by decide) hrow)).kept (grownBy_setCell' _ (w.heap.size + 3) _) (by simp)
      exact ⟨hk2.from _, ⟨hb2.mono (by omega), B4'.trans hb4.symm⟩, ⟨_, hv2, by rw [cells_next, List.length_append, HGX.out]; exact hr2, trivial⟩, (hb2.block _ (by omega)).trans hb0, (hb2.block _ (by omega)).trans hb1, B4', Nat.le_trans hsz hb2.size, hB.trans (hb2.mono (by omega))⟩
  case done =>
    rintro D ys W hD hys ⟨⟨v, hv, hrow, _⟩, hb0, hb1, hb4, hsz, hB⟩ hK
    have hc := hv.cell
    have hyl : ys.length = L.length := by have := congrArg List.length hys; rw [List.length_map, upto_length] at this; exact this
    have hcl : cellsOf frm L ys = flat encP (back frm L) := by
      unfold cellsOf back
      rw [← hys, List.map_map]
      rfl
    gi_wp2
    refine ⟨by simp, .inl ⟨_, _, rfl, run_takeDeferred hK, ?_⟩⟩
    have hro := ownsRow_putObj hrow (.deferred none) hK rfl
    rw [hyl, hcl] at hro
    exact ⟨_, results_tmp rfl _ _ _, v, rfl, by rw [back_len]; exact ownsRow_lower hro (by omega), hB.trans (belowK_b (w := w) (Nat.le_refl _) W D _ _ (by omega) hK rfl rfl)⟩
  case stop =>
    rintro D c pre W _ _ h _
    exact h.elim
end Go.Proofs.Ytcecfipgpfbgcaa.Bck
