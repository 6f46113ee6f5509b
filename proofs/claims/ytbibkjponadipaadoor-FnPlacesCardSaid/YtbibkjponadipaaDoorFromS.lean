/- Contract of the model's search from a cell: the days to each cell. -/
import Derived.Test.YtbibkjponadipaaDoorNearS
import Derived.Test.YtbibkjponadipaaDoorBfs
import Derived.Test.YtbibkjponadipaaDoorMBase
import Derived.StillTailTactics
import Derived.IntWalk
namespace Go.Proofs.YtbibkjponadipaaDoor.FromS
open Go.RowKit Kit Rw Ld Md Bfs LandS

/-- Where the search's memory stands: the days' row in block g, the queue behind it, the land in its box. -/
structure FR (w wr : World) (Bq g n c : Nat) (W H : Int) (v : Value) (X : List Int) (d : List Int) (vq : Value) (q : List Int) : Prop where
  od : Own .i64 3 wr (w.heap.size + 1) (.slice (some ⟨g, 0, none⟩) n c) d
  oq : Own .i64 3 wr Bq vq q
  gb : g < Bq
  qb : Bq ≤ wr.heap.size
  box : Box wr w.heap.size #[.int .i64 W, .int .i64 H, v] 26
  row : Sees .i64 wr v X
  rb : v.ownBlock = none ∨ ∃ b, v.ownBlock = some b ∧ b < w.heap.size
  grown : w.grownBy wr none
section
variable {w wr wy : World} {Bq g n c : Nat} {W H : Int} {v : Value} {X d : List Int} {vq vq' : Value} {q q' : List Int}
theorem FR.gd (h : FR w wr Bq g n c W H v X d vq q) : w.heap.size + 1 ≤ g ∧ g < wr.heap.size := h.od.lt g rfl
theorem FR.qs (h : FR w wr Bq g n c W H v X d vq q) : w.heap.size + 1 < Bq := by have := h.gd; have := h.gb; omega
theorem FR.on (h : FR w wr Bq g n c W H v X d vq q) (hg : wr.grownBy wy none) : FR w wy Bq g n c W H v X d vq q :=
  ⟨h.od.grown hg, h.oq.grown hg, h.gb, Nat.le_trans h.qb hg.size, h.box.grown hg, h.row.grown hg, h.rb, grownN_trans h.grown hg⟩
theorem FR.off (h : FR w wr Bq g n c W H v X d vq q) {b : Nat} (hb : w.heap.size < b) : v.ownBlock = none ∨ v.ownBlock ≠ some b := by
  rcases h.rb with h1 | ⟨b', h1, h2⟩
  · exact .inl h1
  · exact .inr (by rw [h1]; simp; omega)
theorem FR.push (h : FR w wr Bq g n c W H v X d vq q) (ho : Own .i64 3 wy Bq vq' q') (hg : wr.grownBy wy vq.ownBlock) : FR w wy Bq g n c W H v X d vq' q' := by
  have hq := h.qs
  have hgd := h.gd
  refine ⟨h.od.kept hg (.inr fun e => ?_), ho, h.gb, Nat.le_trans h.qb hg.size, h.box.kept hg (h.oq.off (by omega)), h.row.kept hg ?_, h.rb, grown_new h.grown hg (fun b hb => by have := h.oq.lt b hb; omega)⟩
  · have := h.oq.lt g e.symm; have := h.gb; omega
  · cases e : vq.ownBlock with
    | none => exact ne_none v
    | some b => exact h.off (by have := h.oq.lt b e; omega)
theorem FR.put (h : FR w wr Bq g n c W H v X d vq q) (hn : d.length = n) (j : Nat) (x : Int) (hx : (Lit.int .i64 x).wf = true) : FR w (wr.setCell ⟨g, j, none⟩ (.int .i64 x)) Bq g n c W H v X (d.set j x) vq q := by
  have hq := h.qs
  have hgd := h.gd
  have hod := h.od.1
  rw [hn] at hod
  have hs := own_set hod j x
  have ho : Own .i64 3 (wr.setCell ⟨g, j, none⟩ (.int .i64 x)) (w.heap.size + 1) (.slice (some ⟨g, 0, none⟩) n c) (d.set j x) := by
    refine ⟨by rw [List.length_set, hn]; exact hs.1, fun m hm => ?_⟩
    rcases List.mem_or_eq_of_mem_set hm with h' | h'
    · exact h.od.2 m h'
    · rw [h']; exact hx
  refine ⟨ho, h.oq.kept hs.2 ?_, h.gb, Nat.le_trans h.qb hs.2.size, h.box.kept hs.2 (by simp; omega), h.row.kept hs.2 (h.off (by omega)), h.rb, grown_new h.grown hs.2 (fun b hb => by injection hb with hb; omega)⟩
  cases e : vq.ownBlock with
  | none => exact .inl rfl
  | some b => exact .inr (by have := h.oq.lt b e; have := h.gb; simp; omega)
end

set_option maxRecDepth 100000 in
set_option maxHeartbeats 4000000 in
theorem from_any (w : World) (W H a : Int) (v : Value) (X : List Int) (hv : Sees .i64 w v X) (hc : isCell W H X a = true) :
    Calls Tryd.prog 27 #[.agg #[.int .i64 W, .int .i64 H, v], .int .i64 a] w fun e w' => ∃ u, e = .returned u ∧ Own .i64 3 w' w.heap.size u (distL W X a) ∧ w.grownBy w' none := by
  obtain ⟨hL, ha0, ha1⟩ := isCell_of hc
  obtain ⟨hW, hH, hLen, _⟩ := isLand_of hL
  have hA := area hW hH
  have hx64 : X.length ≤ 64 := by omega
  obtain ⟨m, rfl⟩ : ∃ m : Nat, a = m := ⟨a.toNat, by omega⟩
  have hm : m < X.length := by omega
  obtain ⟨b, o, un, uc, hu, HUN, hbw⟩ : ∃ b o un uc, v = .slice (some ⟨b, o, none⟩) un uc ∧ Hid (X.length = un) ∧ b < w.heap.size := by
    obtain ⟨a, un, uc, hu, HUN⟩ := hv.shape
    subst hu
    obtain ⟨b, o, rfl, hcell⟩ := hv.at_row hm
    exact ⟨b, o, un, uc, rfl, HUN, World.block_lt_of_cell? w _ hcell⟩
  subst hu
  have hmu : m < un ∧ un ≤ 64 := by rw [← HUN.out]; exact ⟨hm, hx64⟩
  obtain ⟨hmu0, hmu1⟩ := hmu
  have HL := Lib.hid hL
  have HC := Lib.hid hc
  have HBW := Lib.hid hbw
  have hgr := World.grownBy_alloc w (.cells #[.int .i64 W, .int .i64 H, .slice (some ⟨b, o, none⟩) un uc] 26 (0, 0)) none
  have hgr2 := grownN_trans hgr (World.grownBy_alloc _ (.cells #[] 3 (0, 0)) none)
  have HG := Lib.hid hgr2
  have HV := Lib.hid (hv.grown hgr2)
  have HB := Lib.hid ((box_new w #[.int .i64 W, .int .i64 H, .slice (some ⟨b, o, none⟩) un uc] 26).grown (World.grownBy_alloc _ (.cells #[] 3 (0, 0)) none))
  have ho := own_empty (k := .i64) (E := 3) (w.alloc (.cells #[.int .i64 W, .int .i64 H, .slice (some ⟨b, o, none⟩) un uc] 26 (0, 0)))
  simp only [World.size_alloc] at ho
  have HO := Lib.hid ho
  clear hv hc hL hgr hgr2 hW hH hLen hA hx64 ha0 ha1 hm hbw ho
  obtain ⟨i0, hi, hz0, hz1, hz2⟩ := info_parts Inf.info_i64
  go_enter Tryd.func27, Tryd.ntmps27
  go_wp2
  generalize (w.alloc (.cells #[.int .i64 W, .int .i64 H, .slice (some ⟨b, o, none⟩) un uc] 26 (0, 0))).alloc (.cells #[] 3 (0, 0)) = W1 at *
  go_loopw [5, 6] (fun u i wr => ∃ j : Nat, j ≤ un ∧ i = .int .i64 j ∧ Hid (Own .i64 3 wr (w.heap.size + 1) u (List.replicate j (-1))) ∧ Hid (Box wr w.heap.size #[.int .i64 W, .int .i64 H, .slice (some ⟨b, o, none⟩) un uc] 26) ∧ Hid (Sees .i64 wr (.slice (some ⟨b, o, none⟩) un uc) X) ∧ Hid (w.grownBy wr none)) (fun _ i _ => un - (intOf i).toNat)
  case atStart => exact ⟨0, Nat.zero_le _, rfl, HO, HB, HV, HG⟩
  case round =>
    obtain ⟨j, hj, rfl, HO1, HB1, HV1, HG1⟩ := hrel
    obtain ⟨d0, d1, d2⟩ := HB1.out.three
    by_cases hlt : j < un
    · have hsz : w.heap.size + 1 ≤ wr.heap.size := HB1.out.lt
      go_wp2_with (at_builtin; go_loud (refine wpList_append_one _ rfl _ _ 24 rfl (w.heap.size + 1) 3 i0 (.int .i64 0) 8 Tryd.underlying24 hi hz0 hz1 hz2 rfl .i64 _ (List.replicate j (-1)) rfl HO1.out (-1) rfl (i64_mk (by omega)) (by simp; omega) (by decide) hsz ?_); intro v3 w3 hown3 hgrow3; have HO3 := Lib.hid hown3; have HG3 := Lib.hid hgrow3; clear hown3 hgrow3)
      go_roundw
      case rel =>
        refine ⟨j + 1, by omega, by go_num, by have h := HO3.out; rw [← List.replicate_succ'] at h; exact h, HB1.out.kept HG3.out (HO1.out.off (Nat.lt_succ_self _)), HV1.out.kept HG3.out ?_, grown_new HG1.out HG3.out (fun c hc => by have := HO1.out.lt c hc; omega)⟩
        refine .inr ?_
        intro e
        have := HO1.out.lt b e.symm
        have := HBW.out
        omega
      case measure => simp [intOf]; omega
    · have hjn : un = j := by omega
      subst hjn
      have hd0 := HO1.out
      obtain ⟨g, c5, h5, hgb, hgl⟩ := hd0.1.form (by simp; omega)
      rw [List.length_replicate] at h5
      subst h5
      have hown := hd0.1
      rw [List.length_replicate] at hown
      have hcell : wr.cell? ⟨g, m, none⟩ = some (.int .i64 (-1)) := by
        rw [hown.cellAt m (by omega), getD_map (by simp; omega)]
        rw [List.getD_eq_getElem?_getD, List.getElem?_replicate, if_pos hmu0]; rfl
      have hfree := hown.frozenAt m
      have hset := own_set hown m 0
      have HGL := Lib.hid hgl
      have hsz : (wr.setCell ⟨g, m, none⟩ (.int .i64 0)).heap.size = wr.heap.size := by simp [World.setCell]
      have hfr : FR w ((wr.setCell ⟨g, m, none⟩ (.int .i64 0)).alloc (.cells #[.int .i64 (m : Int)] 3 (0, 0))) wr.heap.size g un c5 W H (.slice (some ⟨b, o, none⟩) un uc) X ((List.replicate un (-1)).set m 0) (.slice (some ⟨wr.heap.size, 0, none⟩) 1 1) [(m : Int)] := by
        have hq : Own .i64 3 ((wr.setCell ⟨g, m, none⟩ (.int .i64 0)).alloc (.cells #[.int .i64 (m : Int)] 3 (0, 0))) (wr.setCell ⟨g, m, none⟩ (.int .i64 0)).heap.size (.slice (some ⟨(wr.setCell ⟨g, m, none⟩ (.int .i64 0)).heap.size, 0, none⟩) 1 1) [(m : Int)] :=
          ⟨World.ownsRow_lit (size := 1) (wr.setCell ⟨g, m, none⟩ (.int .i64 0)) #[.int .i64 (m : Int)] 1 (Nat.le_refl _) (by unfold maxLen; omega) rfl, by intro x hx; simp at hx; subst hx; exact i64_mk (by omega)⟩
        rw [hsz] at hq
        have hb1 := HB1.out.lt
        refine ⟨Own.grown ⟨by rw [List.length_set, List.length_replicate]; exact hset.1, ?_⟩ (World.grownBy_alloc _ _ none), hq, hgl, by simp [World.setCell], (HB1.out.kept hset.2 (by simp; omega)).grown (World.grownBy_alloc _ _ none), (HV1.out.kept hset.2 (.inr (by have := HBW.out; simp [Value.ownBlock]; omega))).grown (World.grownBy_alloc _ _ none), .inr ⟨b, rfl, HBW.out⟩, grownN_trans (grown_new HG1.out hset.2 (fun c h => by injection h with h; omega)) (World.grownBy_alloc _ _ none)⟩
        intro x hx
        rcases List.mem_or_eq_of_mem_set hx with h | h
        · exact hd0.2 x h
        · rw [h]; exact i64_mk (by omega)
      have hinv : Inv W X (m : Int) 0 ((List.replicate un (-1)).set m 0) [(m : Int)] := by
        have := Inv.start (W := W) (X := X) (a := (m : Int)) (by omega) (by rw [HUN.out]; omega)
        rw [HUN.out, Int.toNat_natCast] at this
        exact this
      have HF := Lib.hid hfr
      have HI := Lib.hid hinv
      clear hfr hinv hset hown hd0 hgb hgl HO1
      go_wp2
      clear hcell hfree d0 d1 d2
      obtain ⟨W2, hW2⟩ : ∃ W2, W2 = (wr.setCell ⟨g, m, none⟩ (.int .i64 0)).alloc (.cells #[.int .i64 (m : Int)] 3 (0, 0)) := ⟨_, rfl⟩
      rw [← hW2] at HF ⊢
      clear hW2
      obtain ⟨Bq, hBq⟩ : ∃ B, B = wr.heap.size := ⟨_, rfl⟩
      rw [← hBq] at HF ⊢
      clear hBq HB1 HV1 HG1 HGL HO HB HV HG hsz
      go_loopw [7, 8] (fun s7 s8 wz => ∃ (i : Nat) (d q : List Int), s8 = .int .i64 i ∧ Hid (Inv W X (m : Int) i d q) ∧ Hid (FR w wz Bq g un c5 W H (.slice (some ⟨b, o, none⟩) un uc) X d s7 q)) (fun _ s8 _ => un - (intOf s8).toNat)
      case atStart => exact ⟨0, _, _, rfl, HI, HF⟩
      case round =>
        obtain ⟨i, d, q, rfl, HI1, HF1⟩ := hrel
        clear HI HF
        have hql := HI1.out.short
        rw [HUN.out] at hql
        have hqi := HI1.out.ile
        by_cases hlt : i < q.length
        · obtain ⟨gq, cq, hq, hgqb, hgql⟩ := HF1.out.oq.1.form (by omega)
          obtain ⟨qn, hqn⟩ : ∃ n, n = q.length := ⟨_, rfl⟩
          rw [← hqn] at hq hlt hql hqi
          subst hq
          have HQN := Lib.hid hqn
          clear hqn
          have hcm := HI1.out.inq (q.getD i 0) (mem_getD (by rw [← HQN.out]; exact hlt))
          obtain ⟨cn, hcn⟩ : ∃ cn : Nat, q.getD i 0 = cn := ⟨(q.getD i 0).toNat, by omega⟩
          rw [hcn, HUN.out] at hcm
          obtain ⟨hcm0, hcm1, hcm2⟩ := hcm
          have HCN := Lib.hid hcn
          have HCC : Hid (isCell W H X (cn : Int) = true) := isCell_mk HL.out (by omega) (by rw [HUN.out]; omega)
          have hqc : wr.cell? ⟨gq, i, none⟩ = some (.int .i64 (cn : Int)) := by
            have hown := HF1.out.oq.1
            rw [← HQN.out] at hown
            rw [hown.cellAt i (by omega), getD_map (by rw [← HQN.out]; omega), HCN.out]
          clear hcn hcm2
          have hqw : w.heap.size + 1 < Bq := HF1.out.qs
          obtain ⟨d0, d1, d2⟩ := HF1.out.box.three
          have HFd := Lib.hid (HF1.out.on (grown_drew (World.grownBy.refl wr none)))
          have hB0 := World.grownBy.cell (grown_drew (World.grownBy.refl wr none)) d0 (by simp)
          have hB1 := World.grownBy.cell (grown_drew (World.grownBy.refl wr none)) d1 (by simp)
          have hB2 := World.grownBy.cell (grown_drew (World.grownBy.refl wr none)) d2 (by simp)
          have hB3 := World.grownBy.cell (grown_drew (World.grownBy.refl wr none)) hqc (by simp)
          have KB0 := Lib.hid hB0
          have KB1 := Lib.hid hB1
          have KB2 := Lib.hid hB2
          have KB3 := Lib.hid hB3
          clear hB0 hB1 hB2 hB3
          go_wp2_with fail
          go_region_held3 (fun w' => w'.cell? ⟨w.heap.size, 0, none⟩ = some (.int .i64 W) ∧ w'.cell? ⟨w.heap.size, 1, none⟩ = some (.int .i64 H) ∧ w'.cell? ⟨w.heap.size, 2, none⟩ = some (.slice (some ⟨b, o, none⟩) un uc) ∧ w'.cell? ⟨gq, i, none⟩ = some (.int .i64 (cn : Int)))
            (first | go_keep | (exact ⟨hgA.cell KB0.out (by simp), hgA.cell KB1.out (by simp), hgA.cell KB2.out (by simp), hgA.cell KB3.out (by simp)⟩))
            ((go_at_call 38; refine (l4Near_any _ W H cn _ X HFd.out.row HCC.out).mono ?_; rintro e w3 ⟨vn, rfl, hoA, hgA⟩))
          have HF3 := Lib.hid (HFd.out.on hgA)
          have HN := Lib.hid hoA
          have hnl := near_len W (cn : Int) X
          have hs3 : wr.heap.size ≤ w3.heap.size := hgA.size
          have hqb : gq < wr.heap.size := hgql
          have hgg : g < wr.heap.size := HF1.out.gd.2
          obtain ⟨an, nn, cnn, hvn, HNN⟩ := HN.out.sees.shape
          subst hvn
          have HNS := Lib.hid HN.out.sees
          have hnb1 : Value.ownBlock (.slice an nn cnn) = none ∨ Value.ownBlock (.slice (some ⟨gq, 0, none⟩) qn cq) ≠ Value.ownBlock (.slice an nn cnn) := by
            cases e : Value.ownBlock (.slice an nn cnn) with
            | none => exact .inl rfl
            | some bb => have := HN.out.lt bb e; exact .inr (by simp [Value.ownBlock]; simp at this; omega)
          have hnb2 : Value.ownBlock (.slice an nn cnn) = none ∨ Value.ownBlock (.slice an nn cnn) ≠ some g := by
            cases e : Value.ownBlock (.slice an nn cnn) with
            | none => exact .inl rfl
            | some bb => have := HN.out.lt bb e; exact .inr (by simp; simp at this; omega)
          have NB1 := Lib.hid hnb1
          have NB2 := Lib.hid hnb2
          clear hoA hgA hnb1 hnb2 d0 d1 d2 hqc KB0 KB1 KB2 KB3
          go_wp2
          have hi2 : i < q.length ∧ q.getD i 0 = (cn : Int) := ⟨by rw [← HQN.out]; exact hlt, HCN.out⟩
          have HI2 := Lib.hid hi2
          clear hi2 HFd HF1
          go_loopw [7, 10] (fun s7 s10 wz => ∃ (k : Nat) (d2 q2 : List Int), k ≤ nn ∧ s10 = .int .i64 k ∧ Hid (Inv W X (m : Int) i d2 q2) ∧ Hid (FR w wz Bq g un c5 W H (.slice (some ⟨b, o, none⟩) un uc) X d2 s7 q2) ∧ Hid (i < q2.length ∧ q2.getD i 0 = (cn : Int)) ∧ Hid (∀ j, j < k → 0 ≤ at' d2 ((near W cn X).getD j 0) ∧ at' d2 ((near W cn X).getD j 0) ≤ at' d2 cn + 1) ∧ Hid (Sees .i64 wz (.slice an nn cnn) (near W cn X)) ∧ Hid (Value.ownBlock (.slice an nn cnn) = none ∨ s7.ownBlock ≠ Value.ownBlock (.slice an nn cnn))) (fun _ s10 _ => nn - (intOf s10).toNat)
          case atStart => exact ⟨0, d, q, Nat.zero_le _, rfl, HI1, HF3, HI2, (fun j hj => absurd hj (Nat.not_lt_zero _)), HNS, NB1⟩
          case round =>
            obtain ⟨k, d2, q2, hk, rfl, HI4, HF4, HQ4, HD4, HN4, HB4⟩ := hrel
            clear HI1 HF3 HI2 HNS NB1 HN HQN HCN hql hqi hlt
            by_cases hkn : k < nn
            · have hkN : k < (near W cn X).length := by rw [HNN.out]; exact hkn
              obtain ⟨r, hr⟩ : ∃ r : Nat, (near W cn X).getD k 0 = r := by
                have := near_in HL.out (by omega) (by rw [HUN.out]; omega) (mem_getD hkN)
                exact ⟨((near W cn X).getD k 0).toNat, by omega⟩
              have hrin := near_in HL.out (by omega) (by rw [HUN.out]; omega) (mem_getD hkN)
              have hrmem := mem_getD hkN
              rw [hr] at hrin hrmem
              rw [HUN.out] at hrin
              have hru : r < un := by omega
              obtain ⟨bn, on, ha4, hn4⟩ := HN4.out.at_row hkN
              subst ha4
              rw [hr] at hn4
              have hdl : d2.length = un := by rw [HI4.out.len]; exact HUN.out
              have hod := HF4.out.od.1
              rw [hdl] at hod
              have hdr : wr.cell? ⟨g, r, none⟩ = some (.int .i64 (at' d2 r)) := by
                rw [hod.cellAt r (by omega), getD_map (by omega)]; rfl
              have hdc : wr.cell? ⟨g, cn, none⟩ = some (.int .i64 (at' d2 cn)) := by
                rw [hod.cellAt cn (by omega), getD_map (by omega)]; rfl
              have hfr := hod.frozenAt r
              obtain ⟨hiq, hqc⟩ := HQ4.out
              have hcb : 0 ≤ at' d2 cn ∧ at' d2 cn ≤ 64 := by
                have h1 := (HI4.out.inq (q2.getD i 0) (mem_getD hiq)).2.2
                have h2 := HI4.out.bnd i hiq
                have h3 := HI4.out.short
                rw [HUN.out] at h3
                rw [hqc] at h1 h2
                omega
              obtain ⟨hcb0, hcb1⟩ := hcb
              obtain ⟨gq2, cq2, hq2, _, hgql2⟩ := HF4.out.oq.1.form (by omega)
              obtain ⟨qn2, hqn2⟩ : ∃ n, n = q2.length := ⟨_, rfl⟩
              rw [← hqn2] at hq2
              subst hq2
              have hiq2 : i < qn2 := by rw [hqn2]; exact hiq
              have hqcell : wr.cell? ⟨gq2, i, none⟩ = some (.int .i64 (cn : Int)) := by
                have hown := HF4.out.oq.1
                rw [← hqn2] at hown
                rw [hown.cellAt i (by omega), getD_map (by omega), hqc]
              have hq64 : qn2 ≤ 64 := by have := HI4.out.short; rw [HUN.out] at this; omega
              have HQN2 := Lib.hid hqn2
              have HR := Lib.hid hr
              have HDL := Lib.hid hdl
              have HRM := Lib.hid hrmem
              clear hod hqn2 hr hdl hrin hrmem hiq hqc
              obtain ⟨x, hx⟩ : ∃ x, x = at' d2 r := ⟨_, rfl⟩
              obtain ⟨y, hy⟩ : ∃ y, y = at' d2 cn := ⟨_, rfl⟩
              rw [← hx] at hdr
              rw [← hy] at hdc hcb0 hcb1
              have HX := Lib.hid hx
              have HY := Lib.hid hy
              clear hx hy
              by_cases hneg : x < 0
              · have hw1 : IntKind.i64.wrap (y + 1) = y + 1 := IntWalk.i64_in _ (by omega)
                go_wp2_with fail
                refine wp_region_still_tail 14 (by kernel_rfl) (by kernel_rfl) ?_
                simp only [List.take_succ_cons, List.take_zero, List.drop_succ_cons, List.drop_zero]
                repeat still_step
                refine wpStill_nil ?_
                clear hw1
                have hbnl : bn < wr.heap.size := World.block_lt_of_cell? wr _ hn4
                have hodd := HF4.out.od.1
                rw [HDL.out] at hodd
                have hset := own_set (k := .i64) hodd r (y + 1)
                have hgd0 := grown_drew (World.grownBy.refl (wr.setCell ⟨g, r, none⟩ (.int .i64 (y + 1))) none)
                have hFp := (HF4.out.put HDL.out r (y + 1) (i64_mk (by omega))).on hgd0
                have hN6 := (HN4.out.kept hset.2 NB2.out).grown hgd0
                have hn6 := hgd0.cell (hset.2.cell hn4 (by have := NB2.out; simpa [Value.ownBlock] using this)) (by simp)
                have HFP := Lib.hid hFp
                have HN6 := Lib.hid hN6
                have hqz : (wr.setCell ⟨g, r, none⟩ (.int .i64 (y + 1))).drew.heap.size = wr.heap.size := by simp [World.setCell, World.drew]
                clear hodd hset hFp hN6 hgd0 hn4 hdc hqcell
                go_wp2_with (at_builtin; go_loud (refine wpList_append_one_at _ rfl _ _ 24 rfl Bq 3 i0 (.int .i64 0) 8 Tryd.underlying24 hi hz0 hz1 hz2 rfl .i64 _ q2 rfl HFP.out.oq (r : Int) (by rw [hqz]; rfl) (i64_mk (by omega)) (by rw [← HQN2.out]; omega) (by decide) HFP.out.qb ?_); intro v3 w3' hown3 hgrow3 hpl3; have HO3 := Lib.hid hown3; have HG3 := Lib.hid hgrow3; have HP3 := Lib.hid hpl3; clear hown3 hgrow3 hpl3)
                go_roundw
                case rel =>
                  have hd0 : at' d2 (r : Int) < 0 := by rw [← HX.out]; exact hneg
                  have hI := HI4.out.meet HL.out HQ4.out.1 (n := (r : Int)) (by rw [HQ4.out.2]; exact HRM.out) hd0
                  rw [HQ4.out.2, Int.toNat_natCast, ← HY.out] at hI
                  have hset : ∀ z : Int, 0 ≤ z → at' (d2.set r (y + 1)) z = if z = (r : Int) then y + 1 else at' d2 z := fun z hz => by
                    have := at_set (d := d2) (n := (r : Int)) (m := z) (v := y + 1) (by omega) (by rw [HDL.out]; omega) hz
                    rwa [Int.toNat_natCast] at this
                  have hcne : (cn : Int) ≠ r := fun e => by rw [← e, ← HY.out] at hd0; omega
                  have hcv : at' (d2.set r (y + 1)) cn = y := by rw [hset cn (by omega), if_neg hcne, ← HY.out]
                  refine ⟨k + 1, d2.set r (y + 1), q2 ++ [(r : Int)], by omega, by go_num, hI, HFP.out.push HO3.out HG3.out, ⟨by simp; have := HQ4.out.1; omega, by rw [getD_append_l HQ4.out.1]; exact HQ4.out.2⟩, fun j hj => ?_, HN6.out.kept HG3.out ?_, ?_⟩
                  · rw [hcv]
                    by_cases e : j = k
                    · subst e
                      rw [HR.out, hset r (by omega), if_pos rfl]
                      omega
                    · have h1 := HD4.out j (by omega)
                      rw [← HY.out] at h1
                      have hz := near_in HL.out (by omega) (by rw [HUN.out]; omega) (mem_getD (L := near W cn X) (j := j) (by omega))
                      rw [hset _ hz.1, if_neg (fun e => by rw [e] at h1; omega)]
                      exact h1
                  · rcases HB4.out with h | h
                    · exact .inl h
                    · exact .inr (fun e => h e.symm)
                  · refine .inr fun e => ?_
                    rcases HP3.out with h | ⟨g', h, hle⟩
                    · rw [h] at e
                      rcases HB4.out with h' | h'
                      · simp [Value.ownBlock] at h'
                      · exact h' e
                    · rw [h] at e
                      simp [Value.ownBlock] at e
                      omega
                case measure => simp [intOf]; omega
              · go_wp2
                go_roundw
                case rel =>
                  refine ⟨k + 1, d2, q2, by omega, by go_num, HI4, HF4, HQ4, fun j hj => ?_, HN4, HB4⟩
                  by_cases e : j = k
                  · subst e
                    rw [HR.out, ← HX.out]
                    refine ⟨by omega, ?_⟩
                    obtain ⟨kk, hkk, hkv⟩ := mem_ix (HI4.out.known r (by omega) (by rw [HUN.out]; omega) (by rw [← HX.out]; omega))
                    have := HI4.out.top HQ4.out.1 kk hkk
                    rw [hkv, HQ4.out.2, ← HX.out] at this
                    exact this
                  · exact HD4.out j (by omega)
                case measure => simp [intOf]; omega
            · have hkk : nn = k := by omega
              subst hkk
              have hi64 : i < 64 := by
                have h1 := HQ4.out.1
                have h2 := HI4.out.short
                rw [HUN.out] at h2
                omega
              have hiu : i < un := by
                have h1 := HQ4.out.1
                have h2 := HI4.out.short
                rw [HUN.out] at h2
                omega
              go_wp2
              go_roundw
              case rel =>
                refine ⟨i + 1, d2, q2, by go_num, HI4.out.next HQ4.out.1 (fun n hn => ?_), HF4⟩
                rw [HQ4.out.2] at hn ⊢
                obtain ⟨j, hj, e⟩ := mem_ix hn
                have := HD4.out j (by rw [← HNN.out]; exact hj)
                rwa [e] at this
              case measure => simp [intOf]; omega
        · have hiq : i = q.length := by omega
          have h0 : 0 < q.length := List.length_pos_iff.2 (fun e => by have := HI1.out.aq; rw [e] at this; simp at this)
          obtain ⟨gq, cq, hq, hgqb, hgql⟩ := HF1.out.oq.1.form h0
          subst hq
          subst hiq
          have HD := Lib.hid (HI1.out.dist.eq)
          go_wp2
          go_ret
          refine ⟨_, rfl, ?_, HF1.out.grown⟩
          rw [HD.out]
          exact HF1.out.od.lower (Nat.le_succ _)
end Go.Proofs.YtbibkjponadipaaDoor.FromS
