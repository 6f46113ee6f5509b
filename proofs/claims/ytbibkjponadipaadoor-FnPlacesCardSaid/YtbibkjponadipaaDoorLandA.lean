/- Contract of the draw of any land, valid or not. -/
import Derived.Test.YtbibkjponadipaaDoorLandD
namespace Go.Proofs.YtbibkjponadipaaDoor.Draw
open Go.RowKit Kit Rw Inf Ld

/-- How the draw of any land ends. -/
def DrawnLand (c : Nat) (w : World) (e : Ending) (w' : World) : Prop :=
  ∃ W H v X, e = .returned (.agg #[.int .i64 W, .int .i64 H, v]) ∧ I64 W ∧ I64 H ∧ Sees .i64 w' v X ∧ X.length ≤ 30 ∧ (∀ b, v.ownBlock = some b → w.heap.size ≤ b ∧ b < w'.heap.size) ∧ Cur w' c ∧ w.grownBy w' (some c)

structure LA (w wr : World) (c B : Nat) (W H : Int) (v : Value) (X : List Int) : Prop where
  box : Box wr B #[.int .i64 W, .int .i64 H, v] 26
  res : Box wr w.heap.size #[.int .i64 0, .int .i64 0, .slice none 0 0] 26
  sees : Sees .i64 wr v X
  vb : ∀ b, v.ownBlock = some b → w.heap.size < b ∧ b < B
  cur : Cur wr c
  grown : w.grownBy wr (some c)
  lt : w.heap.size < B
  cl : c < w.heap.size
  iW : I64 W
  iH : I64 H
  len : X.length ≤ 30
section
variable {w wr wy : World} {c B : Nat} {W H z : Int} {v u : Value} {X Y : List Int}
theorem LA.off (h : LA w wr c B W H v X) {b : Nat} (hb : b ≤ w.heap.size ∨ B ≤ b) : v.ownBlock = none ∨ v.ownBlock ≠ some b := by
  cases e : v.ownBlock with
  | none => exact .inl rfl
  | some g => have := h.vb g e; exact .inr (by simp; omega)
theorem LA.call (h : LA w wr c B W H v X) (hg : wr.grownBy wy (some c)) (hc : Cur wy c) : LA w wy c B W H v X := by
  have h1 := h.cl
  have h2 := h.lt
  exact ⟨h.box.kept hg (by simp; omega), h.res.kept hg (by simp; omega), h.sees.kept hg (h.off (by omega)), h.vb, hc, grown_trans h.grown hg, h2, h1, h.iW, h.iH, h.len⟩
theorem LA.on (h : LA w wr c B W H v X) (hg : wr.grownBy wy none) : LA w wy c B W H v X :=
  ⟨h.box.grown hg, h.res.grown hg, h.sees.grown hg, h.vb, h.cur.kept_row hg (fun _ h => by cases h), grown_mix h.grown hg (fun _ h => by cases h), h.lt, h.cl, h.iW, h.iH, h.len⟩
theorem LA.into (h : LA w wr c B W H v X) (j : Nat) (x : Value) : wr.grownBy (wr.setCell ⟨B, j, none⟩ x) (some B) ∧ Box (wr.setCell ⟨B, j, none⟩ x) w.heap.size #[.int .i64 0, .int .i64 0, .slice none 0 0] 26 ∧ Cur (wr.setCell ⟨B, j, none⟩ x) c ∧ w.grownBy (wr.setCell ⟨B, j, none⟩ x) (some c) := by
  have h1 := h.cl
  have h2 := h.lt
  have hs := grown_set wr B j x
  exact ⟨hs, h.res.kept hs (by simp; omega), h.cur.kept_row hs (fun g hg => by injection hg with hg; omega), grown_mix h.grown hs (fun g hg => by injection hg with hg; omega)⟩
theorem LA.set0 (h : LA w wr c B W H v X) (hz : I64 z) : LA w (wr.setCell ⟨B, 0, none⟩ (.int .i64 z)) c B z H v X := by
  obtain ⟨g1, g2, g3, g4⟩ := h.into 0 (.int .i64 z)
  exact ⟨three_set0 h.box, g2, h.sees.kept g1 (h.off (by omega)), h.vb, g3, g4, h.lt, h.cl, hz, h.iH, h.len⟩
theorem LA.set1 (h : LA w wr c B W H v X) (hz : I64 z) : LA w (wr.setCell ⟨B, 1, none⟩ (.int .i64 z)) c B W z v X := by
  obtain ⟨g1, g2, g3, g4⟩ := h.into 1 (.int .i64 z)
  exact ⟨three_set1 h.box, g2, h.sees.kept g1 (h.off (by omega)), h.vb, g3, g4, h.lt, h.cl, h.iW, hz, h.len⟩
theorem LA.set2 (h : LA w wr c B W H v X) (hu : Sees .i64 wr u Y) (hb : ∀ b, u.ownBlock = some b → w.heap.size < b ∧ b < B) (hl : Y.length ≤ 30) : LA w (wr.setCell ⟨B, 2, none⟩ u) c B W H u Y := by
  obtain ⟨g1, g2, g3, g4⟩ := h.into 2 u
  refine ⟨three_set2 h.box, g2, hu.kept g1 ?_, hb, g3, g4, h.lt, h.cl, h.iW, h.iH, hl⟩
  cases e : u.ownBlock with
  | none => exact .inl rfl
  | some g => have := hb g e; exact .inr (by simp; omega)
theorem LA.fin (h : LA w wr c B W H v X) : DrawnLand c w (.returned (.agg #[.int .i64 W, .int .i64 H, v])) (put3 wr w.heap.size (.int .i64 W) (.int .i64 H) v) := by
  have h1 := h.cl
  have hP := put3_grown wr w.heap.size (.int .i64 W) (.int .i64 H) v
  exact ⟨W, H, v, X, rfl, h.iW, h.iH, h.sees.kept hP (h.off (by omega)), h.len, fun b hb => ⟨Nat.le_of_lt (h.vb b hb).1, by have := (h.vb b hb).2; have := h.box.lt; have := hP.size; omega⟩, h.cur.kept_row hP (fun g hg => by injection hg with hg; omega), grown_mix h.grown hP (fun g hg => by injection hg with hg; omega)⟩
end
/-- A row without its first element. -/
theorem sees_tail {k : IntKind} {w : World} {g n cap : Nat} {L : List Int} (h : Sees k w (.slice (some ⟨g, 0, none⟩) n cap) L) (hn : L ≠ []) : Sees k w (.slice (some ⟨g, 1, none⟩) (n - 1) (cap - 1)) L.tail := by
  obtain ⟨a, cap', e, h1, h2, h3, h4, h5⟩ := h
  injection e with e1 e2 e3
  subst e1; subst e2; subst e3
  have hp := List.length_pos_iff.2 hn
  rcases h5 with h5 | ⟨b, o, e, hc⟩
  · exact absurd h5 hn
  · injection e with e
    injection e with e1 e2
    subst e1; subst e2
    refine ⟨_, cap - 1, by simp, by simp; omega, by omega, fun h => by simp at h, fun m hm => h4 m (List.mem_of_mem_tail hm), .inr ⟨g, 1, rfl, fun j hj => ?_⟩⟩
    simp at hj
    have := hc (j + 1) (by omega)
    rw [show 1 + j = 0 + (j + 1) by omega, this]
    congr 2
    rw [List.getD_eq_getElem?_getD, List.getD_eq_getElem?_getD, List.getElem?_tail]
theorem sees_set {w : World} {g n cap base : Nat} {L : List Int} (h : Own .i64 3 w base (.slice (some ⟨g, 0, none⟩) n cap) L) (hn : L.length = n) (j : Nat) (x : Int) (hx : (Lit.int .i64 x).wf = true) : Sees .i64 (w.setCell ⟨g, j, none⟩ (.int .i64 x)) (.slice (some ⟨g, 0, none⟩) n cap) (L.set j x) := by
  have ho := h.1
  rw [hn] at ho
  refine Own.sees (E := 3) (base := base) ⟨by rw [List.length_set, hn]; exact (own_set ho j x).1, fun m hm => ?_⟩
  rcases List.mem_or_eq_of_mem_set hm with h' | h'
  · exact h.2 m h'
  · rw [h']; exact hx

theorem sees_cap {k : IntKind} {w : World} {a : Option Addr} {n cap : Nat} {L : List Int} (h : Sees k w (.slice a n cap) L) : n ≤ cap := by
  obtain ⟨a', cap', e, h1, _⟩ := h
  injection e with e1 e2 e3
  omega
theorem at_own {w : World} {g n cap base : Nat} {L : List Int} (h : Own .i64 3 w base (.slice (some ⟨g, 0, none⟩) n cap) L) (hn : L.length = n) {j : Nat} (hj : j < n) : w.cell? ⟨g, j, none⟩ = some (.int .i64 (L.getD j 0)) := by
  have ho := h.1
  rw [hn] at ho
  exact (ho.cellAt j (by omega)).trans (getD_map (by omega))
theorem free_own {w : World} {g n cap base j : Nat} {L : List Int} (h : Own .i64 3 w base (.slice (some ⟨g, 0, none⟩) n cap) L) (hn : L.length = n) : w.frozen? ⟨g, j, none⟩ = false := by
  have ho := h.1
  rw [hn] at ho
  exact ho.frozenAt j
theorem LA.store {w wr : World} {c B g n cp base : Nat} {W H : Int} {X : List Int} (h : LA w wr c B W H (.slice (some ⟨g, 0, none⟩) n cp) X) (ho : Own .i64 3 wr base (.slice (some ⟨g, 0, none⟩) n cp) X) (hn : X.length = n) (j : Nat) (x : Int) (hx : (Lit.int .i64 x).wf = true) :
    LA w (wr.setCell ⟨g, j, none⟩ (.int .i64 x)) c B W H (.slice (some ⟨g, 0, none⟩) n cp) (X.set j x) := by
  have h1 := h.cl
  have h2 := h.lt
  have h3 := h.vb g rfl
  have hs := grown_set wr g j (.int .i64 x)
  exact ⟨h.box.kept hs (by simp; omega), h.res.kept hs (by simp; omega), sees_set ho hn j x hx, h.vb, h.cur.kept_row hs (fun b hb => by injection hb with hb; omega), grown_mix h.grown hs (fun b hb => by injection hb with hb; omega), h2, h1, h.iW, h.iH, by rw [List.length_set]; exact h.len⟩

set_option maxRecDepth 100000 in
set_option maxHeartbeats 4000000 in
theorem lany_any (w : World) (c : Nat) (hc : Cur w c) :
    Calls Tryd.prog 24 #[.pointer (some ⟨c, 0, none⟩)] w (DrawnLand c w) := by
  have hlt0 := hc.lt
  have hg0 := World.grownBy_alloc w (.cells #[.int .i64 0, .int .i64 0, .slice none 0 0] 26 (0, 0)) (none : Option Nat)
  have HC : Hid (Cur (w.alloc (.cells #[.int .i64 0, .int .i64 0, .slice none 0 0] 26 (0, 0))) c) := hc.kept_row hg0 (fun _ h => by cases h)
  have HG := Lib.hid hg0
  clear hc hg0
  go_enter Tryd.func24, Tryd.ntmps24
  go_wp2_with fail
  refine (ldraw_any _ _ HC.out).mono ?_
  rintro e w1 ⟨W, H, v, X, rfl, hW, hH, hX, ho, hc1, hg1⟩
  have hA := area (W := W) (H := H) (by omega) (by omega)
  have hn1 : 4 ≤ W * H ∧ W * H ≤ 30 := by
    have h1 := Int.mul_le_mul hW.1 hH.1 (by omega) (by omega)
    have h2 := Int.mul_le_mul hW.2 hH.2 (by omega) (by omega)
    omega
  have hX1 : 4 ≤ X.length ∧ X.length ≤ 30 := by omega
  obtain ⟨g, cp, hv, hgb, hgl⟩ := ho.1.form (by omega)
  simp only [World.size_alloc] at hgb
  obtain ⟨n, hn⟩ : ∃ n, n = X.length := ⟨_, rfl⟩
  rw [← hn] at hv hX1
  subst hv
  have hr0 : LA w (w1.alloc (.cells #[.int .i64 W, .int .i64 H, .slice (some ⟨g, 0, none⟩) n cp] 26 (0, 0))) c w1.heap.size W H (.slice (some ⟨g, 0, none⟩) n cp) X := by
    have hA1 := World.grownBy_alloc w1 (.cells #[.int .i64 W, .int .i64 H, .slice (some ⟨g, 0, none⟩) n cp] 26 (0, 0)) (none : Option Nat)
    have hs := hg1.size
    simp only [World.size_alloc] at hs
    refine ⟨box_new _ _ _, ?_, ho.sees.grown hA1, ?_, hc1.kept_row hA1 (fun _ h => by cases h), grown_mix (grown_old' HG.out hg1) hA1 (fun _ h => by cases h), by omega, hlt0, ⟨by omega, by omega⟩, ⟨by omega, by omega⟩, by omega⟩
    · exact ((box_new w #[.int .i64 0, .int .i64 0, .slice none 0 0] 26).kept hg1 (by simp; omega)).grown hA1
    · intro b hb
      simp [Value.ownBlock] at hb
      omega
  have HO := Lib.hid (ho.grown (World.grownBy_alloc w1 (.cells #[.int .i64 W, .int .i64 H, .slice (some ⟨g, 0, none⟩) n cp] 26 (0, 0)) none))
  have HR := Lib.hid hr0
  have HN := Lib.hid hn
  clear hr0 hn hA hn1 ho hc1 hg1 hX hW hH HC HG
  go_wp2_with fail
  refine (below_any 14 (by omega) _ _ HR.out.cur).mono ?_
  rintro e w2 ⟨x, HP, rfl, hc2, hg2⟩
  obtain ⟨hx0, hx1⟩ := HP.1 (by omega)
  have hr2 := HR.out.call hg2 hc2
  have HO2 := Lib.hid (HO.out.kept hg2 (.inr (by have := HR.out.vb g rfl; simp [Value.ownBlock]; omega)))
  clear HP hc2 hg2 HO HR
  have HR2 := Lib.hid hr2
  clear hr2
  generalize w1.heap.size = B at *
  by_cases h0 : x = 0
  · subst h0
    go_wp2_with fail
    refine (raw_any _ _ HR2.out.cur).mono ?_
    rintro e w3 ⟨z, hz, rfl, hc3, hg3⟩
    have hr3 := HR2.out.call hg3 hc3
    have HR3 := Lib.hid hr3
    obtain ⟨d0, d1, d2⟩ := hr3.box.three
    obtain ⟨f0, f1, f2⟩ := three_free hr3.box
    have hr4 := hr3.set0 hz
    have HR4 := Lib.hid hr4
    clear hr3 hr4 hc3 hg3 hz
    obtain ⟨e0, e1, e2⟩ := HR4.out.box.three
    obtain ⟨⟨p0, r0⟩, ⟨p1, r1⟩, ⟨p2, r2⟩, o0, o1, o2⟩ := put3_on HR4.out.res (.int .i64 z) (.int .i64 H) (.slice (some ⟨g, 0, none⟩) n cp)
    go_wp2
    try simp only [Exit.inBlock, Exit.then]
    exact ret_box rfl rfl (put3_box (x' := .int .i64 z) (y' := .int .i64 H) (z' := (.slice (some ⟨g, 0, none⟩) n cp)) HR4.out.res) Tryd.underlying26 rfl (by kernel_rfl) rfl HR4.out.fin
  by_cases h1 : x = 1
  · subst h1
    go_wp2_with fail
    refine (raw_any _ _ HR2.out.cur).mono ?_
    rintro e w3 ⟨z, hz, rfl, hc3, hg3⟩
    have hr3 := HR2.out.call hg3 hc3
    have HR3 := Lib.hid hr3
    obtain ⟨d0, d1, d2⟩ := hr3.box.three
    obtain ⟨f0, f1, f2⟩ := three_free hr3.box
    have hr4 := hr3.set1 hz
    have HR4 := Lib.hid hr4
    clear hr3 hr4 hc3 hg3 hz
    obtain ⟨e0, e1, e2⟩ := HR4.out.box.three
    obtain ⟨⟨p0, r0⟩, ⟨p1, r1⟩, ⟨p2, r2⟩, o0, o1, o2⟩ := put3_on HR4.out.res (.int .i64 W) (.int .i64 z) (.slice (some ⟨g, 0, none⟩) n cp)
    go_wp2
    try simp only [Exit.inBlock, Exit.then]
    exact ret_box rfl rfl (put3_box (x' := .int .i64 W) (y' := .int .i64 z) (z' := (.slice (some ⟨g, 0, none⟩) n cp)) HR4.out.res) Tryd.underlying26 rfl (by kernel_rfl) rfl HR4.out.fin
  by_cases h2 : x = 2
  · subst h2
    obtain ⟨d0, d1, d2⟩ := HR2.out.box.three
    have hdr := grown_drew (World.grownBy.refl w2 none)
    have hrd := HR2.out.on hdr
    have HRD := Lib.hid hrd
    have hod := HO2.out.grown hdr
    have HOD := Lib.hid hod
    obtain ⟨k0, k1, k2⟩ := hrd.box.three
    have kk1 := (World.grownBy_alloc w2.drew (.cells #[.int .i64 (-1), .int .i64 2, .int .i64 3] 3 (0, 0)) none).cell k2 (by simp)
    have kk0 := (World.grownBy_alloc w2 (.cells #[.int .i64 (-1), .int .i64 2, .int .i64 3] 3 (0, 0)) none).cell d2 (by simp)
    have hcB : c < B := Nat.lt_trans HR2.out.cl HR2.out.lt
    have hgc : c < g := by have := HR2.out.cl; have := (HR2.out.vb g rfl).1; omega
    have HNX : Hid (X.length = n) := HN.out.symm
    have hn0 : 0 < n := by omega
    have hn0' : (0 : Int) < (n : Int) := by omega
    clear hrd hod hdr
    go_wp2_with fail
    go_region_law (first
      | (go_simp; go_at_call 25; refine (int_list [-1, 2, 3] _ c HRD.out.cur (by decide) (by decide)).mono ?_; rintro e w3 ⟨z, hz, rfl, hc3, hg3⟩; have hz2 : -1 ≤ z ∧ z ≤ 3 := (by simp only [List.mem_cons, List.not_mem_nil, or_false] at hz; omega); have kk2 := hg3.cell k2 (by simp; omega); have ho3 := HOD.out.kept hg3 (.inr (by simp [Value.ownBlock]; omega)); have HO3 := Lib.hid ho3; have kg2 : w3.cell? ⟨g, 0, none⟩ = some (.int .i64 (X.getD 0 0)) := (at_own ho3 HNX.out (by omega)); have kf2 : w3.frozen? ⟨g, 0, none⟩ = false := (free_own ho3 HNX.out); clear ho3))
    all_goals
      have hr3 := HRD.out.call hg3 hc3
      have hr4 := hr3.store HO3.out HNX.out 0 z (i64_mk (by omega))
      have HR4 := Lib.hid hr4
      clear hr4 hr3 kk0 kk1 kk2 kg2 kf2 k0 k1 k2 d0 d1 d2 hg3 hc3 hz
      obtain ⟨e0, e1, e2⟩ := HR4.out.box.three
      obtain ⟨⟨p0, r0⟩, ⟨p1, r1⟩, ⟨p2, r2⟩, o0, o1, o2⟩ := put3_on HR4.out.res (.int .i64 W) (.int .i64 H) (.slice (some ⟨g, 0, none⟩) n cp)
      go_wp2
      try simp only [Exit.inBlock, Exit.then]
      exact ret_box rfl rfl (put3_box (x' := .int .i64 W) (y' := .int .i64 H) (z' := (.slice (some ⟨g, 0, none⟩) n cp)) HR4.out.res) Tryd.underlying26 rfl (by kernel_rfl) rfl HR4.out.fin
  by_cases h3 : x = 3
  · subst h3
    obtain ⟨d0, d1, d2⟩ := HR2.out.box.three
    obtain ⟨f0, f1, f2⟩ := three_free HR2.out.box
    have hne : X ≠ [] := fun e => by rw [e] at HN; have := HN.out; simp at this; omega
    have hcp : n ≤ cp := sees_cap HR2.out.sees
    have hst := sees_tail HR2.out.sees hne
    have hr4 := HR2.out.set2 hst (by intro b hb; simp [Value.ownBlock] at hb; have := HR2.out.vb g rfl; omega) (by have := HR2.out.len; simp; omega)
    have HR4 := Lib.hid hr4
    clear hr4 hst hne
    obtain ⟨e0, e1, e2⟩ := HR4.out.box.three
    obtain ⟨⟨p0, r0⟩, ⟨p1, r1⟩, ⟨p2, r2⟩, o0, o1, o2⟩ := put3_on HR4.out.res (.int .i64 W) (.int .i64 H) (.slice (some ⟨g, 1, none⟩) (n - 1) (cp - 1))
    go_wp2
    try simp only [Exit.inBlock, Exit.then]
    exact ret_box rfl rfl (put3_box (x' := .int .i64 W) (y' := .int .i64 H) (z' := (.slice (some ⟨g, 1, none⟩) (n - 1) (cp - 1))) HR4.out.res) Tryd.underlying26 rfl (by kernel_rfl) rfl HR4.out.fin
  have hr4 := HR2.out
  have HR4 := Lib.hid hr4
  clear hr4
  obtain ⟨e0, e1, e2⟩ := HR4.out.box.three
  obtain ⟨⟨p0, r0⟩, ⟨p1, r1⟩, ⟨p2, r2⟩, o0, o1, o2⟩ := put3_on HR4.out.res (.int .i64 W) (.int .i64 H) (.slice (some ⟨g, 0, none⟩) n cp)
  go_wp2
  try simp only [Exit.inBlock, Exit.then]
  exact ret_box rfl rfl (put3_box (x' := .int .i64 W) (y' := .int .i64 H) (z' := (.slice (some ⟨g, 0, none⟩) n cp)) HR4.out.res) Tryd.underlying26 rfl (by kernel_rfl) rfl HR4.out.fin
end Go.Proofs.YtbibkjponadipaaDoor.Draw
