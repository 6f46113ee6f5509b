/- Contracts of slices.Index and slices.Contains over ints, in the program's own walk. Contract of the model's Near. Contract of the program's Near. -/
import Derived.Test.YtonalkamfgpokaaGreatMBase
import Derived.IntWalk
import Derived.WalkKit
import Derived.Test.YtonalkamfgpokaaGreatNearS
import Derived.Test.YtonalkamfgpokaaGreatG32
import Derived.Deep.RegionHeld3
namespace Go.Proofs.YtonalkamfgpokaaGreat.Cont
open Go.RowKit Kit Rw Md

theorem mem_getD {L : List Int} {j : Nat} (h : j < L.length) : L.getD j 0 ∈ L := by
  rw [show L.getD j 0 = L[j] by simp [h]]; exact List.getElem_mem h
theorem ret_bool {a b : Bool} (h : a = b) : Ending.returned (.bool a) = .returned (.bool b) := by rw [h]
set_option maxRecDepth 20000 in
set_option maxHeartbeats 1000000 in
theorem index_neg (w : World) (u : Value) (x : Int) (L : List Int) (hu : Sees .i64 w u L) :
    Calls Tryz.prog 185 #[u, .int .i64 x] w fun e w' => ∃ p, e = .returned (.int .i64 p) ∧ (0 ≤ p ↔ x ∈ L) ∧ w = w' := by
  have hl := hu.len
  obtain ⟨a, n, cap, rfl, HN⟩ := hu.shape
  have HU := Lib.hid hu
  have hl2 : n ≤ 9223372036854775807 := by rw [← HN.out]; exact hl
  clear hu hl
  go_enter Tryz.func185, Tryz.ntmps185
  go_wp2
  go_loop [8] (fun i => ∃ j : Nat, j ≤ n ∧ i = .int .i64 j ∧ Hid (∀ m, m < j → L.getD m 0 ≠ x)) (fun i => n - (intOf i).toNat)
  case atStart => exact ⟨0, Nat.zero_le _, rfl, fun m hm => absurd hm (Nat.not_lt_zero _)⟩
  case round =>
    obtain ⟨j, hj, rfl, HE⟩ := hrel
    by_cases hlt : j < n
    · obtain ⟨y, hy⟩ : ∃ y, y = L.getD j 0 := ⟨_, rfl⟩
      obtain ⟨b, o, rfl, hcj⟩ := HU.out.at_row (j := j) (by rw [HN.out]; exact hlt)
      rw [← hy] at hcj
      have HY := Lib.hid hy
      clear hy
      by_cases hne : x = y
      · have HR : Hid (x ∈ L) := by show _ ∈ _; rw [hne, HY.out]; exact mem_getD (by rw [HN.out]; exact hlt)
        subst hne
        go_wp2
        go_ret
        exact ⟨_, rfl, ⟨fun _ => HR.out, fun _ => by omega⟩, rfl⟩
      · go_wp2
        go_round
        case rel =>
          refine ⟨j + 1, by omega, by go_num, fun m hm => ?_⟩
          by_cases h : m = j
          · subst h; rw [← HY.out]; exact fun e => hne e.symm
          · exact HE.out m (by omega)
        case measure => simp [intOf]; omega
    · have hjn : n = j := by omega
      subst hjn
      have HM : Hid (¬ x ∈ L) := by
        intro h
        obtain ⟨j, hj, e⟩ := List.getElem_of_mem h
        exact HE.out j (by rw [← HN.out]; exact hj) (by simp [hj, e])
      go_wp2
      go_ret
      exact ⟨_, rfl, ⟨fun h => by omega, fun h => absurd h HM.out⟩, rfl⟩

set_option maxHeartbeats 400000 in
theorem contains_any (w : World) (u : Value) (x : Int) (L : List Int) (hu : Sees .i64 w u L) :
    Calls Tryz.prog 142 #[u, .int .i64 x] w fun e w' => e = .returned (.bool (decide (x ∈ L))) ∧ w = w' := by
  have HI := Lib.hid (index_neg w u x L hu)
  go_enter Tryz.func142, Tryz.ntmps142
  go_wp2_with fail
  refine HI.out.mono ?_
  rintro e w2 ⟨p, rfl, hp, rfl⟩
  have HP : Hid (decide (0 ≤ p) = decide (x ∈ L)) := by show _ = _; rw [Bool.eq_iff_iff]; simpa using hp
  clear hp
  go_wp2
  go_ret
  exact ⟨ret_bool HP.out, rfl⟩
end Go.Proofs.YtonalkamfgpokaaGreat.Cont

namespace Go.Proofs.YtonalkamfgpokaaGreat.LandS
open Go.RowKit Kit Rw Ld Md

set_option maxHeartbeats 400000 in
theorem sNear_any (w : World) (W H n : Int) (v : Value) (X : List Int) (hv : Sees .i64 w v X) :
    Calls Tryz.prog 127 #[.agg #[.int .i64 W, .int .i64 H, v], .int .i64 n] w fun e w' => ∃ u, e = .returned u ∧ Own .i64 3 w' w.heap.size u (nearOf W H X n) ∧ w.grownBy w' none := by
  have hl := hv.len
  have hgr := World.grownBy_alloc w (.cells #[.int .i64 W, .int .i64 H, v] 37 (0, 0)) none
  have HG := Lib.hid hgr
  have HV := Lib.hid (hv.grown hgr)
  have HB := Lib.hid (box_new w #[.int .i64 W, .int .i64 H, v] 37)
  obtain ⟨c0, c1, c2⟩ := HB.out.three
  obtain ⟨a, cap, rfl, _⟩ := hv
  clear hgr
  have hs := sIsCell_any _ W H n _ X HV.out
  by_cases hC : isCell W H X n = true
  · rw [hC] at hs
    have HS := Lib.hid hs
    have HC := Lib.hid hC
    have HE : Hid (nearOf W H X n = near W n X) := by show _ = _; unfold nearOf; rw [if_pos hC]
    clear hs hC
    go_enter Tryz.func127, Tryz.ntmps127
    go_wp2_with fail
    refine HS.out.mono ?_
    rintro e w2 ⟨rfl, hg⟩
    have HG2 := Lib.hid (grownN_trans HG.out hg)
    have HV2 := Lib.hid (HV.out.grown hg)
    obtain ⟨d0, d1, d2⟩ := (HB.out.grown hg).three
    clear hg
    go_wp2_with fail
    refine (l4Near_any w2 W H n _ X HV2.out HC.out).mono ?_
    rintro e w3 ⟨u, rfl, ho, hg⟩
    have HO := Lib.hid (ho.lower HG2.out.size)
    have HG3 := Lib.hid (grownN_trans HG2.out hg)
    clear ho hg
    go_wp2
    go_ret
    rw [HE.out]
    exact ⟨_, rfl, HO.out, HG3.out⟩
  · have hC2 : isCell W H X n = false := by simpa using hC
    rw [hC2] at hs
    have HS := Lib.hid hs
    have HE : Hid (nearOf W H X n = []) := by show _ = _; unfold nearOf; rw [if_neg hC]
    clear hs hC hC2
    go_enter Tryz.func127, Tryz.ntmps127
    go_wp2_with fail
    refine HS.out.mono ?_
    rintro e w2 ⟨rfl, hg⟩
    have HG2 := Lib.hid (grownN_trans HG.out hg)
    clear hg
    go_wp2
    go_ret
    rw [HE.out]
    exact ⟨_, rfl, (own_empty _).lower HG2.out.size, grownN_trans HG2.out (World.grownBy_alloc _ _ none)⟩

end Go.Proofs.YtonalkamfgpokaaGreat.LandS

namespace Go.Proofs.YtonalkamfgpokaaGreat.LandI
open Go.RowKit Kit Rw Ld Gr GrI

/-- Where Near stands. -/
structure NI (w wr : World) (b : Nat) (cs : Array Value) (v u : Value) (L : List Int) (N : List Nat) : Prop where
  own : Own .i64 3 wr (w.heap.size + 1) v L
  grid : Box wr b cs 180
  off : v.ownBlock ≠ some b
  row : Own .i64 184 wr 0 u (ints N)
  apart : u.ownBlock = none ∨ u.ownBlock ≠ v.ownBlock
  grown : w.grownBy wr none
theorem NI.on {w wx wy : World} {b : Nat} {cs : Array Value} {v u : Value} {L : List Int} {N : List Nat} (h : NI w wx b cs v u L N) (hg : wx.grownBy wy none) : NI w wy b cs v u L N :=
  ⟨h.own.grown hg, h.grid.grown hg, h.off, h.row.grown hg, h.apart, grownN_trans h.grown hg⟩
theorem NI.more {w wx wy : World} {b : Nat} {cs : Array Value} {v v' u : Value} {L M : List Int} {N : List Nat} (h : NI w wx b cs v u L N) (ho : Own .i64 3 wy (w.heap.size + 1) v' M) (hg : wx.grownBy wy v.ownBlock) (hl : v'.ownBlock = v.ownBlock ∨ ∃ g, v'.ownBlock = some g ∧ wx.heap.size ≤ g) : NI w wy b cs v' u M N := by
  refine ⟨ho, h.grid.kept hg h.off, ?_, h.row.kept hg h.apart, ?_, grown_new h.grown hg (fun c hc => by have := h.own.lt c hc; omega)⟩
  · rcases hl with hl | ⟨g, hl, hle⟩
    · rw [hl]; exact h.off
    · rw [hl]; have := h.grid.lt; intro e; injection e with e; omega
  · rcases hl with hl | ⟨g, hl, hle⟩
    · rw [hl]; exact h.apart
    · rw [hl]
      cases hu : u.ownBlock with
      | none => exact .inl rfl
      | some c => have := h.row.lt c hu; exact .inr (fun e => by injection e with e; omega)

set_option maxRecDepth 100000 in
set_option maxHeartbeats 4000000 in
theorem near_any (w : World) (W H n : Int) (v : Value) (X : List Int) (hv : Sees .i64 w v X) :
    Calls Tryz.prog 132 #[.agg #[.int .i64 W, .int .i64 H, v], .int .i64 n] w fun e w' => ∃ u, e = .returned u ∧ Own .i64 3 w' w.heap.size u (nearOf W H X n) ∧ w.grownBy w' none := by
  have hgr := grownN_trans (World.grownBy_alloc w (.cells #[.int .i64 W, .int .i64 H, v] 37 (0, 0)) none) (World.grownBy_alloc (w.alloc (.cells #[.int .i64 W, .int .i64 H, v] 37 (0, 0))) (.cells #[] 3 (0, 0)) none)
  have HG := Lib.hid hgr
  have HV := Lib.hid (hv.grown hgr)
  have HB := Lib.hid ((box_new w #[.int .i64 W, .int .i64 H, v] 37).grown (World.grownBy_alloc _ (.cells #[] 3 (0, 0)) none))
  have ho := own_empty (k := .i64) (E := 3) (w.alloc (.cells #[.int .i64 W, .int .i64 H, v] 37 (0, 0)))
  simp only [World.size_alloc] at ho
  have HO := Lib.hid ho
  have HS : Hid (((w.alloc (.cells #[.int .i64 W, .int .i64 H, v] 37 (0, 0))).alloc (.cells #[] 3 (0, 0))).heap.size = w.heap.size + 2) := by show _ = _; simp
  obtain ⟨va, vn, vc, hvv, HVN⟩ := hv.shape
  subst hvv
  obtain ⟨c0, c1, c2⟩ := HB.out.three
  clear hv hgr ho
  go_enter Tryz.func132, Tryz.ntmps132
  go_upto_region 2 with (fail)
  generalize (w.alloc (.cells #[.int .i64 W, .int .i64 H, .slice va vn vc] 37 (0, 0))).alloc (.cells #[] 3 (0, 0)) = w1 at *
  have hs := isCell_any w1 W H n _ X HV.out
  by_cases hC : isCell W H X n = true
  · rw [hC] at hs
    have HSS := Lib.hid hs
    obtain ⟨hL, hn0, hn1⟩ := isCell_of hC
    obtain ⟨⟨hW1, hW8⟩, hH, hLen, _⟩ := isLand_of hL
    have hA := area ⟨hW1, hW8⟩ hH
    obtain ⟨p, rfl⟩ : ∃ p : Nat, W = p := ⟨W.toNat, by omega⟩
    obtain ⟨q, rfl⟩ : ∃ q : Nat, n = q := ⟨n.toNat, by omega⟩
    obtain ⟨h, rfl⟩ : ∃ h : Nat, H = h := ⟨H.toNat, by omega⟩
    have hxl : X.length = p * h := by exact_mod_cast hLen
    have HP : Hid ((1 ≤ p ∧ p ≤ 8) ∧ h ≤ 8 ∧ X.length = p * h ∧ q < X.length) := ⟨by omega, by omega, hxl, by omega⟩
    have HL := Lib.hid hL
    have hq64 : q < 64 := by omega
    have HSQ := Lib.hid (sq_lt HP.out.1 HP.out.2.1 (show q < p * h by omega))
    have HE : Hid (nearOf p h X q = near p q X) := by show _ = _; unfold nearOf; rw [if_pos hC]
    clear hs hC hL hn0 hn1 hW1 hW8 hH hLen hA hxl
    go_wp2_with fail
    refine HSS.out.mono ?_
    rintro e w2 ⟨rfl, hg⟩
    have HG2 := Lib.hid (grownN_trans HG.out hg)
    have HV2 := Lib.hid (HV.out.grown hg)
    have HB2 := Lib.hid (HB.out.grown hg)
    have HO2 := Lib.hid (HO.out.grown hg)
    have HZ2 : Hid (w.heap.size + 2 ≤ w2.heap.size) := by have := hg.size; rw [HS.out] at this; exact this
    clear c0 c1 c2
    obtain ⟨c0, c1, c2⟩ := HB2.out.three
    clear hg
    go_wp2_with fail
    refine (gridOf_any w2 p h _ X HV2.out HL.out).mono ?_
    rintro e w3 ⟨rfl, hg⟩
    have HG3 := Lib.hid (grownN_trans HG2.out hg)
    have HO3 := Lib.hid (HO2.out.grown hg)
    have HZ3 : Hid (w.heap.size + 2 ≤ w3.heap.size) := Nat.le_trans HZ2.out hg.size
    obtain ⟨cs, hcs⟩ : ∃ cs, cs = gcells p (grid p X) := ⟨_, rfl⟩
    obtain ⟨zc, hzc⟩ : ∃ zc, zc = gcells 0 (List.replicate 100 0) := ⟨_, rfl⟩
    have hz59 : ∀ w, (zeroValue 180).run Tryz.prog w = .ok (.agg zc) w := by rw [hzc]; exact (zero_of_info grid_info).1
    have hsz : cs.size = 101 := by rw [hcs]; exact gcells_size (grid_len _ _)
    have hst := run_storeCells_new (P := Tryz.prog) w3 180 zc cs (grid_size hsz) (by rw [hsz, hzc]; rfl) (by rw [hcs]; exact gcells_one _ _)
    rw [← hcs]
    have HCS := Lib.hid hcs
    clear hg hcs hzc c0 c1 c2
    go_wp2_with fail
    have hga := World.grownBy_alloc w3 (.cells cs 180 (0, 0)) none
    have HBX := Lib.hid (box_new w3 cs 180)
    have HG4 := Lib.hid (grownN_trans HG3.out hga)
    have HO4 := Lib.hid (HO3.out.grown hga)
    have HB4 : Hid ((Value.slice (some ⟨w.heap.size + 1, 0, none⟩) 0 0).ownBlock ≠ some w3.heap.size) := by have := HZ3.out; show _ ≠ _; simp only [Value.ownBlock]; intro e; injection e with e; omega
    clear hst hga hz59
    generalize w3.alloc (.cells cs 180 (0, 0)) = w4 at *
    have HB5 : Hid (w.heap.size + 2 ≤ w3.heap.size) := HZ3.out
    generalize w3.heap.size = b at *
    have hdr := grown_drew (World.grownBy.refl w4 none)
    have HQ : Hid (Box w4.drew b cs 180) := HBX.out.grown hdr
    have HR0 := Lib.hid hdr
    clear hdr
    refine wp_region_held_drew (S := fun w' => Box w' b cs 180) (by kernel_rfl) HQ.out (fun hHeld => ?_)
    refine wpAnyH_take (i := 0) (v := .agg cs) rfl (by kernel_rfl) (by kernel_rfl) (by kernel_rfl) (fun _ _ _ h => h) (Or.inl ⟨by rfl, ?_⟩) (by assumption) ?_
    · intro wS hSw; (try dsimp only at hSw); exact exec_load_part 180 _ rfl b 0 rfl cs _ hSw.part Tryz.underlying180 rfl (grid_size hsz)
    (try simp only [Act.put, List.getElem_toArray, List.getElem_cons_succ, List.getElem_cons_zero, List.setIfInBounds_toArray, List.set_cons_zero, List.set_cons_succ])
    refine wpAnyH_take (i := 1) (v := .agg cs) rfl (by kernel_rfl) (by kernel_rfl) (by kernel_rfl) (fun _ _ _ h => h) (Or.inl ⟨by rfl, ?_⟩) (by assumption) ?_
    · intro wS hSw; (try dsimp only at hSw); exact exec_load_part 180 _ rfl b 0 rfl cs _ hSw.part Tryz.underlying180 rfl (grid_size hsz)
    (try simp only [Act.put, List.getElem_toArray, List.getElem_cons_succ, List.getElem_cons_zero, List.setIfInBounds_toArray, List.set_cons_zero, List.set_cons_succ])
    refine wpAnyH_take (i := 2) (v := ?_) rfl (by kernel_rfl) (by kernel_rfl) (by kernel_rfl) (fun _ _ _ h => h) (Or.inl ⟨by rfl, ?_⟩) (by assumption) ?_; rotate_left; (focus (intro wS hSw; (try dsimp only at hSw); go_simp <;> with_reducible rfl)); (try simp only [Act.put, List.getElem_toArray, List.getElem_cons_succ, List.getElem_cons_zero, List.setIfInBounds_toArray, List.set_cons_zero, List.set_cons_succ])
    refine wpAnyH_take (i := 6) (v := ?_) rfl (by kernel_rfl) (by kernel_rfl) (by kernel_rfl) (fun _ _ _ h => h) (Or.inl ⟨by rfl, ?_⟩) (by assumption) ?_; rotate_left; (focus (intro wS hSw; (try dsimp only at hSw); go_simp <;> with_reducible rfl)); (try simp only [Act.put, List.getElem_toArray, List.getElem_cons_succ, List.getElem_cons_zero, List.setIfInBounds_toArray, List.set_cons_zero, List.set_cons_succ])
    refine wpAnyH_ready (rs := [3]) (by kernel_rfl) (by simp) ?_; refine AllReadyH.cons rfl (fun K hK => ?_) AllReadyH.nil; go_simp; (go_at_call 181; refine (squareOf_any _ p q cs HP.out.1 (by omega) (by rw [HCS.out]; rfl)).mono ?_; rintro e w5 ⟨rfl, hg5⟩; have HQ5 := Lib.hid (HQ.out.grown hg5); have HR5 := Lib.hid (grownN_trans HR0.out hg5); clear hg5)
    refine hK.out _ _ ?_ (fun hHeld => ?_)
    · exact HQ5.out
    clear hK K
    (try simp only [Act.put, List.getElem_toArray, List.getElem_cons_succ, List.getElem_cons_zero, List.setIfInBounds_toArray, List.set_cons_zero, List.set_cons_succ])
    refine wpAnyH_ready (rs := [4]) (by kernel_rfl) (by simp) ?_; refine AllReadyH.cons rfl (fun K hK => ?_) AllReadyH.nil; go_simp; (go_at_call 180; refine (gnear_any _ p (sq p q) cs (grid p X) HCS.out (grid_len _ _) HSQ.out.1 HSQ.out.2).mono ?_; rintro e w6 ⟨u, rfl, ho6, hg6⟩; obtain ⟨ua, un, uc, hu, HUN⟩ := ho6.sees.shape; subst hu; have HQ6 := Lib.hid (HQ5.out.grown hg6); have HR6 := Lib.hid (grownN_trans HR5.out hg6); have HU6 := Lib.hid (ho6.lower (Nat.zero_le _)); have HA6 := Lib.hid (ho6.apart (HO4.out.grown HR5.out) (Nat.le_refl _)).1; clear hg6 ho6)
    refine hK.out _ _ ?_ (fun hHeld => ?_)
    · exact HQ6.out
    clear hK K
    (try simp only [Act.put, List.getElem_toArray, List.getElem_cons_succ, List.getElem_cons_zero, List.setIfInBounds_toArray, List.set_cons_zero, List.set_cons_succ])
    refine wpAnyH_take (i := 5) (v := ?_) rfl (by kernel_rfl) (by kernel_rfl) (by kernel_rfl) (fun _ _ _ h => h) (Or.inl ⟨by rfl, ?_⟩) (by assumption) ?_; rotate_left; (focus (intro wS hSw; (try dsimp only at hSw); go_simp <;> with_reducible rfl)); (try simp only [Act.put, List.getElem_toArray, List.getElem_cons_succ, List.getElem_cons_zero, List.setIfInBounds_toArray, List.set_cons_zero, List.set_cons_succ])
    refine wpAnyH_done (by kernel_rfl) ?_ _
    (try simp only [Act.put, List.getElem_toArray, List.getElem_cons_succ, List.getElem_cons_zero, List.setIfInBounds_toArray, List.set_cons_zero, List.set_cons_succ])
    have HI : Hid (NI w w6 b cs (.slice (some ⟨w.heap.size + 1, 0, none⟩) 0 0) (.slice ua un uc) [] (nsq (grid p X) (sq p q))) := ⟨HO4.out.grown HR6.out, HQ6.out, HB4.out, HU6.out, HA6.out, grownN_trans HG4.out HR6.out⟩
    have HZ6 : Hid (b < w6.heap.size) := HQ6.out.lt
    clear HQ HR0 HQ5 HR5 HQ6 HR6 HU6 HO4 HG4 HBX HO3 HG3 HB2 HV2 HO2 HG2 HB HV HO HG hHeld
    have hun4 : un ≤ 4 := by have := HUN.out; have := nsq_len (grid p X) (sq p q); simp [ints] at *; omega
    obtain ⟨i0, hi, hz0, hz1, hz2⟩ := info_parts Inf.info_i64
    go_wp2_with fail
    go_loopw [5, 23] (fun v i wr => ∃ j : Nat, j ≤ un ∧ i = .int .i64 j ∧ Hid (NI w wr b cs v (.slice ua un uc) (((nsq (grid p X) (sq p q)).take j).map (fun t => ((cl p t : Nat) : Int))) (nsq (grid p X) (sq p q)))) (fun _ i _ => un - (intOf i).toNat)
    case atStart => exact ⟨0, by omega, rfl, HI.out⟩
    case round =>
      obtain ⟨j, hj, rfl, HJ⟩ := hrel
      by_cases hlt : j < un
      · have hjn : j < (nsq (grid p X) (sq p q)).length := by have := HUN.out; simp [ints] at this; omega
        obtain ⟨t, ht⟩ : ∃ t, t = (nsq (grid p X) (sq p q))[j] := ⟨_, rfl⟩
        obtain ⟨ub, uo, rfl, hcj⟩ := HJ.out.row.sees.at_row (j := j) (by simp [ints]; exact hjn)
        have e1 : (ints (nsq (grid p X) (sq p q))).getD j 0 = (t : Int) := by simp [ints, ht, hjn]
        rw [e1] at hcj
        have e2 : ((nsq (grid p X) (sq p q)).take j).map (fun t => ((cl p t : Nat) : Int)) ++ [((cl p t : Nat) : Int)] = ((nsq (grid p X) (sq p q)).take (j + 1)).map (fun t => ((cl p t : Nat) : Int)) := by
          rw [List.take_succ_eq_append_getElem hjn, List.map_append, ht]; rfl
        have hin := nsq_mem HP.out.1 HP.out.2.1 HP.out.2.2.1 HP.out.2.2.2 (t := t) (by rw [ht]; exact List.getElem_mem hjn)
        have htb := sq_cl HP.out.1 hin
        simp only [inb, decide_eq_true_eq] at hin
        have hcl : cl p t < p * h := by rw [← HP.out.2.2.1]; exact hin.2.2.2
        have ht2 := sq_lt HP.out.1 HP.out.2.1 hcl
        rw [htb] at ht2
        have hcl64 : cl p t < 64 := Nat.lt_of_lt_of_le hcl (Nat.mul_le_mul HP.out.1.2 HP.out.2.1)
        have HT2 : Hid (t < 100 ∧ 10 ≤ t ∧ 1 ≤ t % 10) := ⟨by omega, hin.1, hin.2.1⟩
        have E2 := Lib.hid e2
        clear ht e1 e2 hin htb hcl ht2
        have hbase : w.heap.size + 1 ≤ wr.heap.size := by have := HJ.out.grid.lt; have := HB5.out; omega
        go_wp2_with (refine wpList_load_part rfl 180 _ rfl b 0 rfl cs _ HJ.out.grid.part Tryz.underlying180 rfl (grid_size hsz) ?_)
        refine (cellOf_any wr p t cs HP.out.1 HT2.out.1 HT2.out.2.1 HT2.out.2.2 (by rw [HCS.out]; rfl)).mono ?_
        rintro e w7 ⟨rfl, hg7⟩
        have HJ7 := Lib.hid (HJ.out.on hg7)
        have hbase7 : w.heap.size + 1 ≤ w7.heap.size := Nat.le_trans hbase hg7.size
        clear hg7 hcj
        go_wp2_with (at_builtin; go_loud (refine wpList_append_one_at _ rfl _ _ 22 rfl (w.heap.size + 1) 3 i0 (.int .i64 0) 8 Tryz.underlying22 hi hz0 hz1 hz2 rfl .i64 _ (((nsq (grid p X) (sq p q)).take j).map (fun t => ((cl p t : Nat) : Int))) rfl HJ7.out.own ((cl p t : Nat) : Int) rfl (i64_mk (by omega)) (by have := nsq_len (grid p X) (sq p q); simp; omega) (by decide) hbase7 ?_); intro v3 w8 hown3 hgrow3 hpl3; have HJ8 := Lib.hid (HJ7.out.more (M := ((nsq (grid p X) (sq p q)).take (j + 1)).map (fun t => ((cl p t : Nat) : Int))) (by rw [← E2.out]; exact hown3) hgrow3 hpl3); clear hown3 hgrow3 hpl3)
        go_roundw
        case rel => exact ⟨j + 1, by omega, by go_num, HJ8⟩
        case measure => simp [intOf]; omega
      · have hjn : j = (nsq (grid p X) (sq p q)).length := by have := HUN.out; simp [ints] at this; omega
        have HO9 : Hid (Own .i64 3 wr (w.heap.size + 1) u5 (nearOf p h X q)) := by
          have := HJ.out.own
          rw [hjn, List.take_length, nsq_near HP.out.1 HP.out.2.1 HP.out.2.2.1 HP.out.2.2.2] at this
          rw [HE.out]; exact this
        go_wp2
        go_ret
        exact ⟨_, rfl, HO9.out.lower (Nat.le_succ _), HJ.out.grown⟩
  · have hC2 : isCell W H X n = false := by simpa using hC
    have HE : Hid (nearOf W H X n = []) := by show _ = _; unfold nearOf; rw [if_neg hC]
    rw [hC2] at hs
    have HSS := Lib.hid hs
    clear hs hC hC2
    go_wp2_with fail
    refine HSS.out.mono ?_
    rintro e w2 ⟨rfl, hg⟩
    have HG2 := Lib.hid (grownN_trans HG.out hg)
    have HO2 := Lib.hid (HO.out.grown hg)
    clear hg
    go_wp2
    go_ret
    exact ⟨_, rfl, by rw [HE.out]; exact HO2.out.lower (Nat.le_succ _), HG2.out⟩
end Go.Proofs.YtonalkamfgpokaaGreat.LandI
