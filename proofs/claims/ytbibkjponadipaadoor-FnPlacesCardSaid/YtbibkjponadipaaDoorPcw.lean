/- Contracts of the program's ground of a land and of a step on it. -/
import Derived.Test.YtbibkjponadipaaDoorPch
import Derived.Test.YtbibkjponadipaaDoorPct
import Derived.Test.YtbibkjponadipaaDoorLandI
import Derived.Test.YtbibkjponadipaaDoorRes
import Derived.Deep.RegionHeld3
import Derived.Deep.WholeRow
import Derived.Deep.DeepCutAuto
import Derived.IntWalk
import Derived.WalkKit
namespace Go.Proofs.YtbibkjponadipaaDoor.Pc
open Go.RowKit Kit Rw Ld Bfs Wf

abbrev gcs (W H : Int) (v : Value) (op lm rm : Nat) : Array Value := #[.int .i64 W, .int .i64 H, v, .int .u64 (op : Int), .int .u64 (lm : Int), .int .u64 (rm : Int)]
structure GS (w wr : World) (W H : Int) (v : Value) (op lm rm : Nat) : Prop where
  land : Box wr w.heap.size #[.int .i64 W, .int .i64 H, v] 26
  res : Box wr (w.heap.size + 1) #[.int .i64 0, .int .i64 0, .slice none 0 0, .int .u64 0, .int .u64 0, .int .u64 0] 60
  g : Box wr (w.heap.size + 1 + 1) (gcs W H v op lm rm) 60
  grown : w.grownBy wr none
theorem GS.start (w : World) (W H : Int) (v : Value) : GS w (((w.alloc (.cells #[.int .i64 W, .int .i64 H, v] 26 (0, 0))).alloc (.cells #[.int .i64 0, .int .i64 0, .slice none 0 0, .int .u64 0, .int .u64 0, .int .u64 0] 60 (0, 0))).alloc (.cells (gcs W H v 0 0 0) 60 (0, 0))) W H v 0 0 0 := by
  have g1 := World.grownBy_alloc w (.cells #[.int .i64 W, .int .i64 H, v] 26 (0, 0)) none
  have g2 := World.grownBy_alloc (w.alloc (.cells #[.int .i64 W, .int .i64 H, v] 26 (0, 0))) (.cells #[.int .i64 0, .int .i64 0, .slice none 0 0, .int .u64 0, .int .u64 0, .int .u64 0] 60 (0, 0)) none
  have g3 := World.grownBy_alloc ((w.alloc (.cells #[.int .i64 W, .int .i64 H, v] 26 (0, 0))).alloc (.cells #[.int .i64 0, .int .i64 0, .slice none 0 0, .int .u64 0, .int .u64 0, .int .u64 0] 60 (0, 0))) (.cells (gcs W H v 0 0 0) 60 (0, 0)) none
  have b1 := ((box_new w #[.int .i64 W, .int .i64 H, v] 26).grown g2).grown g3
  have b2 := (box_new (w.alloc (.cells #[.int .i64 W, .int .i64 H, v] 26 (0, 0))) #[.int .i64 0, .int .i64 0, .slice none 0 0, .int .u64 0, .int .u64 0, .int .u64 0] 60).grown g3
  have b3 := box_new ((w.alloc (.cells #[.int .i64 W, .int .i64 H, v] 26 (0, 0))).alloc (.cells #[.int .i64 0, .int .i64 0, .slice none 0 0, .int .u64 0, .int .u64 0, .int .u64 0] 60 (0, 0))) (gcs W H v 0 0 0) 60
  simp only [World.size_alloc] at b2 b3
  exact ⟨b1, b2, b3, grownN_trans (grownN_trans g1 g2) g3⟩
section
variable {w wr : World} {W H : Int} {v : Value} {op lm rm : Nat}
theorem GS.on {wy : World} (h : GS w wr W H v op lm rm) (hg : wr.grownBy wy none) : GS w wy W H v op lm rm := ⟨h.land.grown hg, h.res.grown hg, h.g.grown hg, grownN_trans h.grown hg⟩
theorem GS.put (h : GS w wr W H v op lm rm) (k : Nat) (x : Value) {op' lm' rm' : Nat} (hx : (gcs W H v op lm rm).setIfInBounds k x = gcs W H v op' lm' rm') : GS w (wr.setCell ⟨w.heap.size + 1 + 1, k, none⟩ x) W H v op' lm' rm' := by
  have hg := grown_set wr (w.heap.size + 1 + 1) k x
  refine ⟨h.land.kept hg (fun e => by have := Option.some.inj e; omega), h.res.kept hg (fun e => by have := Option.some.inj e; omega), ?_, grown_new h.grown hg (fun c hc => by have := Option.some.inj hc; omega)⟩
  have hb := box_set h.g k x
  rw [hx] at hb
  exact hb
end
theorem box_stores {w : World} {b : Nat} {cs cs' : Array Value} {T : TypeId} (h : Box w b cs T) (hn : cs.size = cs'.size) (h1 : cs'.all (·.oneCell') = true) : (storeCells ⟨b, 0, none⟩ cs'.toList 0).run Tryd.prog w = .ok () (w.setRow b cs') := by
  have := run_storeCells_from (P := Tryd.prog) b T cs'.toList 0 cs w h (by simpa using hn.symm) (fun v hv => (Array.all_eq_true_iff_forall_mem.1 h1) v (by simpa using hv))
  simpa using this
theorem gcs_one (W H : Int) (a : Option Addr) (n c op lm rm : Nat) : (gcs W H (.slice a n c) op lm rm).all (·.oneCell') = true := by
  rw [Array.all_eq_true_iff_forall_mem]
  intro v hv
  simp only [gcs, List.mem_toArray, List.mem_cons, List.not_mem_nil, or_false] at hv
  rcases hv with rfl | rfl | rfl | rfl | rfl | rfl <;> rfl
theorem ground_info : (Tryd.prog.info? 60).map (·.size) = some 6 := by kernel_rfl
theorem ground_size {cs : Array Value} (h : cs.size = 6) : (Tryd.prog.info? 60).map (·.size) = some cs.size := by rw [h]; exact ground_info

set_option maxRecDepth 20000 in
set_option maxHeartbeats 8000000 in
theorem ground_any (w : World) (W H : Int) (v : Value) (X : List Int) (hv : Sees .i64 w v X) (hL : isLand W H X = true) :
    Calls Tryd.prog 32 #[.agg #[.int .i64 W, .int .i64 H, v]] w fun e w' => e = .returned (.agg (gcs W H v (opW X) (lmW W X) (rmW W X))) ∧ w.grownBy w' none := by
  have h64 := len64 hL
  obtain ⟨⟨hW1, hW8⟩, _, _, _⟩ := isLand_of hL
  obtain ⟨va, vn, vc, rfl, HVN⟩ := hv.shape
  have hn64 : vn ≤ 64 := by rw [← HVN.out]; exact h64
  have HV := Lib.hid hv
  have HW := Lib.hid (And.intro hW1 hW8)
  have HN64 := Lib.hid hn64
  have HS0 := Lib.hid (GS.start w W H (.slice va vn vc))
  have hW0 : ¬ W = 0 := by omega
  obtain ⟨W1, hW1'⟩ : ∃ q, q = W - 1 := ⟨_, rfl⟩
  have t2 : IntKind.i64.wrap (W - 1) = W1 := by rw [hW1']; exact IntWalk.i64_in _ (by omega)
  have HW1 := Lib.hid hW1'
  have l0 := HS0.out.land.cell 0
  have l1 := HS0.out.land.cell 1
  have l2 := HS0.out.land.cell 2
  clear hL h64 hW1 hW8 hv hn64 hW1'
  go_enter Tryd.func32, Tryd.ntmps32
  go_wp2_with fail
  generalize ((w.alloc (.cells #[.int .i64 W, .int .i64 H, .slice va vn vc] 26 (0, 0))).alloc (.cells #[.int .i64 0, .int .i64 0, .slice none 0 0, .int .u64 0, .int .u64 0, .int .u64 0] 60 (0, 0))).alloc (.cells #[.int .i64 W, .int .i64 H, .slice va vn vc, .int .u64 0, .int .u64 0, .int .u64 0] 60 (0, 0)) = W3 at *
  clear l0 l1 l2
  go_loopw [11] (fun i wr => ∃ j : Nat, j ≤ vn ∧ i = .int .i64 j ∧ Hid (GS w wr W H (.slice va vn vc) (setW (opF X) j) (setW (lmF W) j) (setW (rmF W) j))) (fun i _ => vn - (intOf i).toNat)
  case atStart => exact ⟨0, Nat.zero_le _, rfl, HS0⟩
  case round =>

    obtain ⟨j, hj, rfl, HS⟩ := hrel
    by_cases hlt : j < vn
    · have hv64 := HN64.out
      have hj64 : j < 64 := by omega
      obtain ⟨x, hx⟩ : ∃ x, x = X.getD j 0 := ⟨_, rfl⟩
      obtain ⟨b, o, rfl, _⟩ := HV.out.at_row (j := j) (by rw [HVN.out]; exact hlt)
      have HC : Hid (∀ wy, w.grownBy wy none → wy.cell? ⟨b, o + j, none⟩ = some (.int .i64 x)) := fun wy hg => by
        rw [hx]; exact (HV.out.grown hg).at' (by rw [HVN.out]; exact hlt)
      obtain ⟨z, hz⟩ : ∃ z, z = (j : Int) % W := ⟨_, rfl⟩
      have t1 : (j : Int).tmod W = z := by rw [hz]; exact Int.tmod_eq_emod_of_nonneg (by omega)
      obtain ⟨p0, hp0⟩ : ∃ p, p = setW (opF X) j := ⟨_, rfl⟩
      obtain ⟨q0, hq0⟩ : ∃ p, p = setW (lmF W) j := ⟨_, rfl⟩
      obtain ⟨r0, hr0⟩ : ∃ p, p = setW (rmF W) j := ⟨_, rfl⟩
      have hpl : p0 < 2 ^ 64 := by rw [hp0]; exact setW_lt _ (by omega)
      have hql : q0 < 2 ^ 64 := by rw [hq0]; exact setW_lt _ (by omega)
      have hrl : r0 < 2 ^ 64 := by rw [hr0]; exact setW_lt _ (by omega)
      have HWP := Lib.hid fun w' => with_any w' p0 j hpl hj64
      have HWQ := Lib.hid fun w' => with_any w' q0 j hql hj64
      have HWR := Lib.hid fun w' => with_any w' r0 j hrl hj64
      have HNP : Hid (setW (opF X) (j + 1) = if ¬ x = 2 then p0 ||| 2 ^ j else p0) := by
        show _ = _
        by_cases h : opF X j = true
        · rw [setW_yes h, hp0, if_pos]; unfold opF at h; rw [decide_eq_true_eq] at h; rw [hx]; exact h
        · rw [setW_no h, hp0, if_neg]; unfold opF at h; rw [decide_eq_true_eq] at h; rw [hx]; exact h
      have HNQ : Hid (setW (lmF W) (j + 1) = if z = 0 then q0 ||| 2 ^ j else q0) := by
        show _ = _
        by_cases h : lmF W j = true
        · rw [setW_yes h, hq0, if_pos]; unfold lmF at h; rw [decide_eq_true_eq] at h; rw [hz]; exact h
        · rw [setW_no h, hq0, if_neg]; unfold lmF at h; rw [decide_eq_true_eq] at h; rw [hz]; exact h
      have HNR : Hid (setW (rmF W) (j + 1) = if z = W1 then r0 ||| 2 ^ j else r0) := by
        show _ = _
        have hw1 := HW1.out
        by_cases h : rmF W j = true
        · rw [setW_yes h, hr0, if_pos]; unfold rmF at h; rw [decide_eq_true_eq] at h; rw [hz, hw1]; exact h
        · rw [setW_no h, hr0, if_neg]; unfold rmF at h; rw [decide_eq_true_eq] at h; rw [hz, hw1]; exact h
      rw [← hp0, ← hq0, ← hr0] at HS
      clear hx hz hp0 hq0 hr0 hpl hql hrl hj64
      have c0 := HC.out _ HS.out.grown
      have l0 := HS.out.land.cell 0
      have l1 := HS.out.land.cell 1
      have l2 := HS.out.land.cell 2
      have l3 := HS.out.g.cell 3
      have l4 := HS.out.g.cell 4
      have l5 := HS.out.g.cell 5
      have f3 := HS.out.g.free 3
      have f4 := HS.out.g.free 4
      have f5 := HS.out.g.free 5
      simp only [List.getElem?_toArray, List.getElem?_cons_succ, List.getElem?_cons_zero] at l0 l1 l2 l3 l4 l5
      by_cases hd : x = 2
      · have hb0 : (x == 2) = true := by simpa using hd
        have HD0 := Lib.hid (eq_true hd)
        clear hd
        by_cases hd : z = 0
        · have hb1 : (z == 0) = true := by simpa using hd
          have HD1 := Lib.hid (eq_true hd)
          clear hd
          by_cases hd : z = W1
          · have hb2 : (z == W1) = true := by simpa using hd
            have hb3 : (z == IntKind.i64.wrap (W - 1)) = true := by rw [t2]; exact hb2
            have HD2 := Lib.hid (eq_true hd)
            clear hd
            go_wp2_with fail
            refine (HWQ.out _).mono ?_
            rintro e w5 ⟨rfl, rfl⟩
            go_wp2_with fail
            have HSQ1 := Lib.hid (HS.out.put 4 (.int .u64 ((q0 ||| 2 ^ j : Nat) : Int)) (op' := p0) (lm' := (q0 ||| 2 ^ j)) (rm' := r0) rfl)
            generalize World.setCell wr ⟨w.heap.size + 1 + 1, 4, none⟩ (.int .u64 ((q0 ||| 2 ^ j : Nat) : Int)) = wz1 at *
            clear l0 l1 l2 l3 l4 l5 f3 f4 f5 c0
            have c0 := HC.out _ HSQ1.out.grown
            have l0 := HSQ1.out.land.cell 0
            have l1 := HSQ1.out.land.cell 1
            have l2 := HSQ1.out.land.cell 2
            have l3 := HSQ1.out.g.cell 3
            have l4 := HSQ1.out.g.cell 4
            have l5 := HSQ1.out.g.cell 5
            have f3 := HSQ1.out.g.free 3
            have f4 := HSQ1.out.g.free 4
            have f5 := HSQ1.out.g.free 5
            simp only [List.getElem?_toArray, List.getElem?_cons_succ, List.getElem?_cons_zero] at l0 l1 l2 l3 l4 l5
            go_wp2_with fail
            have HSq := Lib.hid (HSQ1.out.on (grown_drew (World.grownBy.refl wz1 none)))
            go_region_held3 (fun w' => w'.cell? ⟨w.heap.size, 0, none⟩ = some (.int .i64 W)) (exact HSq.out.land.cell 0) (fail)
            generalize World.drew wz1 = wq at *
            clear l0 l1 l2 l3 l4 l5 f3 f4 f5 c0
            have c0 := HC.out _ HSq.out.grown
            have l0 := HSq.out.land.cell 0
            have l1 := HSq.out.land.cell 1
            have l2 := HSq.out.land.cell 2
            have l3 := HSq.out.g.cell 3
            have l4 := HSq.out.g.cell 4
            have l5 := HSq.out.g.cell 5
            have f3 := HSq.out.g.free 3
            have f4 := HSq.out.g.free 4
            have f5 := HSq.out.g.free 5
            simp only [List.getElem?_toArray, List.getElem?_cons_succ, List.getElem?_cons_zero] at l0 l1 l2 l3 l4 l5
            go_wp2_with fail
            refine (HWR.out _).mono ?_
            rintro e w6 ⟨rfl, rfl⟩
            go_wp2_with fail
            have HSR2 := Lib.hid (HSq.out.put 5 (.int .u64 ((r0 ||| 2 ^ j : Nat) : Int)) (op' := p0) (lm' := (q0 ||| 2 ^ j)) (rm' := (r0 ||| 2 ^ j)) rfl)
            generalize World.setCell wq ⟨w.heap.size + 1 + 1, 5, none⟩ (.int .u64 ((r0 ||| 2 ^ j : Nat) : Int)) = wz2 at *
            clear l0 l1 l2 l3 l4 l5 f3 f4 f5 c0
            have c0 := HC.out _ HSR2.out.grown
            have l0 := HSR2.out.land.cell 0
            have l1 := HSR2.out.land.cell 1
            have l2 := HSR2.out.land.cell 2
            have l3 := HSR2.out.g.cell 3
            have l4 := HSR2.out.g.cell 4
            have l5 := HSR2.out.g.cell 5
            have f3 := HSR2.out.g.free 3
            have f4 := HSR2.out.g.free 4
            have f5 := HSR2.out.g.free 5
            simp only [List.getElem?_toArray, List.getElem?_cons_succ, List.getElem?_cons_zero] at l0 l1 l2 l3 l4 l5
            go_wp2_with fail
            go_roundw
            case rel => exact ⟨j + 1, by omega, by go_num, by rw [HNP.out, HNQ.out, HNR.out]; simp only [HD0.out, if_true, if_false, not_true_eq_false, not_false_eq_true, HD1.out, if_true, if_false, not_true_eq_false, not_false_eq_true, HD2.out, if_true, if_false, not_true_eq_false, not_false_eq_true]; exact HSR2⟩
            case measure => simp [intOf]; omega
          · have hb2 : (z == W1) = false := by simpa using hd
            have hb3 : (z == IntKind.i64.wrap (W - 1)) = false := by rw [t2]; exact hb2
            have HD2 := Lib.hid (eq_false hd)
            clear hd
            go_wp2_with fail
            refine (HWQ.out _).mono ?_
            rintro e w5 ⟨rfl, rfl⟩
            go_wp2_with fail
            have HSQ1 := Lib.hid (HS.out.put 4 (.int .u64 ((q0 ||| 2 ^ j : Nat) : Int)) (op' := p0) (lm' := (q0 ||| 2 ^ j)) (rm' := r0) rfl)
            generalize World.setCell wr ⟨w.heap.size + 1 + 1, 4, none⟩ (.int .u64 ((q0 ||| 2 ^ j : Nat) : Int)) = wz1 at *
            clear l0 l1 l2 l3 l4 l5 f3 f4 f5 c0
            have c0 := HC.out _ HSQ1.out.grown
            have l0 := HSQ1.out.land.cell 0
            have l1 := HSQ1.out.land.cell 1
            have l2 := HSQ1.out.land.cell 2
            have l3 := HSQ1.out.g.cell 3
            have l4 := HSQ1.out.g.cell 4
            have l5 := HSQ1.out.g.cell 5
            have f3 := HSQ1.out.g.free 3
            have f4 := HSQ1.out.g.free 4
            have f5 := HSQ1.out.g.free 5
            simp only [List.getElem?_toArray, List.getElem?_cons_succ, List.getElem?_cons_zero] at l0 l1 l2 l3 l4 l5
            go_wp2_with fail
            have HSq := Lib.hid (HSQ1.out.on (grown_drew (World.grownBy.refl wz1 none)))
            go_region_held3 (fun w' => w'.cell? ⟨w.heap.size, 0, none⟩ = some (.int .i64 W)) (exact HSq.out.land.cell 0) (fail)
            generalize World.drew wz1 = wq at *
            clear l0 l1 l2 l3 l4 l5 f3 f4 f5 c0
            have c0 := HC.out _ HSq.out.grown
            have l0 := HSq.out.land.cell 0
            have l1 := HSq.out.land.cell 1
            have l2 := HSq.out.land.cell 2
            have l3 := HSq.out.g.cell 3
            have l4 := HSq.out.g.cell 4
            have l5 := HSq.out.g.cell 5
            have f3 := HSq.out.g.free 3
            have f4 := HSq.out.g.free 4
            have f5 := HSq.out.g.free 5
            simp only [List.getElem?_toArray, List.getElem?_cons_succ, List.getElem?_cons_zero] at l0 l1 l2 l3 l4 l5
            go_wp2_with fail
            go_roundw
            case rel => exact ⟨j + 1, by omega, by go_num, by rw [HNP.out, HNQ.out, HNR.out]; simp only [HD0.out, if_true, if_false, not_true_eq_false, not_false_eq_true, HD1.out, if_true, if_false, not_true_eq_false, not_false_eq_true, HD2.out, if_true, if_false, not_true_eq_false, not_false_eq_true]; exact HSq⟩
            case measure => simp [intOf]; omega
        · have hb1 : (z == 0) = false := by simpa using hd
          have HD1 := Lib.hid (eq_false hd)
          clear hd
          by_cases hd : z = W1
          · have hb2 : (z == W1) = true := by simpa using hd
            have hb3 : (z == IntKind.i64.wrap (W - 1)) = true := by rw [t2]; exact hb2
            have HD2 := Lib.hid (eq_true hd)
            clear hd
            go_wp2_with fail
            have HSq := Lib.hid (HS.out.on (grown_drew (World.grownBy.refl wr none)))
            go_region_held3 (fun w' => w'.cell? ⟨w.heap.size, 0, none⟩ = some (.int .i64 W)) (exact HSq.out.land.cell 0) (fail)
            generalize World.drew wr = wq at *
            clear l0 l1 l2 l3 l4 l5 f3 f4 f5 c0
            have c0 := HC.out _ HSq.out.grown
            have l0 := HSq.out.land.cell 0
            have l1 := HSq.out.land.cell 1
            have l2 := HSq.out.land.cell 2
            have l3 := HSq.out.g.cell 3
            have l4 := HSq.out.g.cell 4
            have l5 := HSq.out.g.cell 5
            have f3 := HSq.out.g.free 3
            have f4 := HSq.out.g.free 4
            have f5 := HSq.out.g.free 5
            simp only [List.getElem?_toArray, List.getElem?_cons_succ, List.getElem?_cons_zero] at l0 l1 l2 l3 l4 l5
            go_wp2_with fail
            refine (HWR.out _).mono ?_
            rintro e w6 ⟨rfl, rfl⟩
            go_wp2_with fail
            have HSR2 := Lib.hid (HSq.out.put 5 (.int .u64 ((r0 ||| 2 ^ j : Nat) : Int)) (op' := p0) (lm' := q0) (rm' := (r0 ||| 2 ^ j)) rfl)
            generalize World.setCell wq ⟨w.heap.size + 1 + 1, 5, none⟩ (.int .u64 ((r0 ||| 2 ^ j : Nat) : Int)) = wz2 at *
            clear l0 l1 l2 l3 l4 l5 f3 f4 f5 c0
            have c0 := HC.out _ HSR2.out.grown
            have l0 := HSR2.out.land.cell 0
            have l1 := HSR2.out.land.cell 1
            have l2 := HSR2.out.land.cell 2
            have l3 := HSR2.out.g.cell 3
            have l4 := HSR2.out.g.cell 4
            have l5 := HSR2.out.g.cell 5
            have f3 := HSR2.out.g.free 3
            have f4 := HSR2.out.g.free 4
            have f5 := HSR2.out.g.free 5
            simp only [List.getElem?_toArray, List.getElem?_cons_succ, List.getElem?_cons_zero] at l0 l1 l2 l3 l4 l5
            go_wp2_with fail
            go_roundw
            case rel => exact ⟨j + 1, by omega, by go_num, by rw [HNP.out, HNQ.out, HNR.out]; simp only [HD0.out, if_true, if_false, not_true_eq_false, not_false_eq_true, HD1.out, if_true, if_false, not_true_eq_false, not_false_eq_true, HD2.out, if_true, if_false, not_true_eq_false, not_false_eq_true]; exact HSR2⟩
            case measure => simp [intOf]; omega
          · have hb2 : (z == W1) = false := by simpa using hd
            have hb3 : (z == IntKind.i64.wrap (W - 1)) = false := by rw [t2]; exact hb2
            have HD2 := Lib.hid (eq_false hd)
            clear hd
            go_wp2_with fail
            have HSq := Lib.hid (HS.out.on (grown_drew (World.grownBy.refl wr none)))
            go_region_held3 (fun w' => w'.cell? ⟨w.heap.size, 0, none⟩ = some (.int .i64 W)) (exact HSq.out.land.cell 0) (fail)
            generalize World.drew wr = wq at *
            clear l0 l1 l2 l3 l4 l5 f3 f4 f5 c0
            have c0 := HC.out _ HSq.out.grown
            have l0 := HSq.out.land.cell 0
            have l1 := HSq.out.land.cell 1
            have l2 := HSq.out.land.cell 2
            have l3 := HSq.out.g.cell 3
            have l4 := HSq.out.g.cell 4
            have l5 := HSq.out.g.cell 5
            have f3 := HSq.out.g.free 3
            have f4 := HSq.out.g.free 4
            have f5 := HSq.out.g.free 5
            simp only [List.getElem?_toArray, List.getElem?_cons_succ, List.getElem?_cons_zero] at l0 l1 l2 l3 l4 l5
            go_wp2_with fail
            go_roundw
            case rel => exact ⟨j + 1, by omega, by go_num, by rw [HNP.out, HNQ.out, HNR.out]; simp only [HD0.out, if_true, if_false, not_true_eq_false, not_false_eq_true, HD1.out, if_true, if_false, not_true_eq_false, not_false_eq_true, HD2.out, if_true, if_false, not_true_eq_false, not_false_eq_true]; exact HSq⟩
            case measure => simp [intOf]; omega
      · have hb0 : (x == 2) = false := by simpa using hd
        have HD0 := Lib.hid (eq_false hd)
        clear hd
        by_cases hd : z = 0
        · have hb1 : (z == 0) = true := by simpa using hd
          have HD1 := Lib.hid (eq_true hd)
          clear hd
          by_cases hd : z = W1
          · have hb2 : (z == W1) = true := by simpa using hd
            have hb3 : (z == IntKind.i64.wrap (W - 1)) = true := by rw [t2]; exact hb2
            have HD2 := Lib.hid (eq_true hd)
            clear hd
            go_wp2_with fail
            refine (HWP.out _).mono ?_
            rintro e w4 ⟨rfl, rfl⟩
            go_wp2_with fail
            have HSP0 := Lib.hid (HS.out.put 3 (.int .u64 ((p0 ||| 2 ^ j : Nat) : Int)) (op' := (p0 ||| 2 ^ j)) (lm' := q0) (rm' := r0) rfl)
            generalize World.setCell wr ⟨w.heap.size + 1 + 1, 3, none⟩ (.int .u64 ((p0 ||| 2 ^ j : Nat) : Int)) = wz0 at *
            clear l0 l1 l2 l3 l4 l5 f3 f4 f5 c0
            have c0 := HC.out _ HSP0.out.grown
            have l0 := HSP0.out.land.cell 0
            have l1 := HSP0.out.land.cell 1
            have l2 := HSP0.out.land.cell 2
            have l3 := HSP0.out.g.cell 3
            have l4 := HSP0.out.g.cell 4
            have l5 := HSP0.out.g.cell 5
            have f3 := HSP0.out.g.free 3
            have f4 := HSP0.out.g.free 4
            have f5 := HSP0.out.g.free 5
            simp only [List.getElem?_toArray, List.getElem?_cons_succ, List.getElem?_cons_zero] at l0 l1 l2 l3 l4 l5
            go_wp2_with fail
            refine (HWQ.out _).mono ?_
            rintro e w5 ⟨rfl, rfl⟩
            go_wp2_with fail
            have HSQ1 := Lib.hid (HSP0.out.put 4 (.int .u64 ((q0 ||| 2 ^ j : Nat) : Int)) (op' := (p0 ||| 2 ^ j)) (lm' := (q0 ||| 2 ^ j)) (rm' := r0) rfl)
            generalize World.setCell wz0 ⟨w.heap.size + 1 + 1, 4, none⟩ (.int .u64 ((q0 ||| 2 ^ j : Nat) : Int)) = wz1 at *
            clear l0 l1 l2 l3 l4 l5 f3 f4 f5 c0
            have c0 := HC.out _ HSQ1.out.grown
            have l0 := HSQ1.out.land.cell 0
            have l1 := HSQ1.out.land.cell 1
            have l2 := HSQ1.out.land.cell 2
            have l3 := HSQ1.out.g.cell 3
            have l4 := HSQ1.out.g.cell 4
            have l5 := HSQ1.out.g.cell 5
            have f3 := HSQ1.out.g.free 3
            have f4 := HSQ1.out.g.free 4
            have f5 := HSQ1.out.g.free 5
            simp only [List.getElem?_toArray, List.getElem?_cons_succ, List.getElem?_cons_zero] at l0 l1 l2 l3 l4 l5
            go_wp2_with fail
            have HSq := Lib.hid (HSQ1.out.on (grown_drew (World.grownBy.refl wz1 none)))
            go_region_held3 (fun w' => w'.cell? ⟨w.heap.size, 0, none⟩ = some (.int .i64 W)) (exact HSq.out.land.cell 0) (fail)
            generalize World.drew wz1 = wq at *
            clear l0 l1 l2 l3 l4 l5 f3 f4 f5 c0
            have c0 := HC.out _ HSq.out.grown
            have l0 := HSq.out.land.cell 0
            have l1 := HSq.out.land.cell 1
            have l2 := HSq.out.land.cell 2
            have l3 := HSq.out.g.cell 3
            have l4 := HSq.out.g.cell 4
            have l5 := HSq.out.g.cell 5
            have f3 := HSq.out.g.free 3
            have f4 := HSq.out.g.free 4
            have f5 := HSq.out.g.free 5
            simp only [List.getElem?_toArray, List.getElem?_cons_succ, List.getElem?_cons_zero] at l0 l1 l2 l3 l4 l5
            go_wp2_with fail
            refine (HWR.out _).mono ?_
            rintro e w6 ⟨rfl, rfl⟩
            go_wp2_with fail
            have HSR2 := Lib.hid (HSq.out.put 5 (.int .u64 ((r0 ||| 2 ^ j : Nat) : Int)) (op' := (p0 ||| 2 ^ j)) (lm' := (q0 ||| 2 ^ j)) (rm' := (r0 ||| 2 ^ j)) rfl)
            generalize World.setCell wq ⟨w.heap.size + 1 + 1, 5, none⟩ (.int .u64 ((r0 ||| 2 ^ j : Nat) : Int)) = wz2 at *
            clear l0 l1 l2 l3 l4 l5 f3 f4 f5 c0
            have c0 := HC.out _ HSR2.out.grown
            have l0 := HSR2.out.land.cell 0
            have l1 := HSR2.out.land.cell 1
            have l2 := HSR2.out.land.cell 2
            have l3 := HSR2.out.g.cell 3
            have l4 := HSR2.out.g.cell 4
            have l5 := HSR2.out.g.cell 5
            have f3 := HSR2.out.g.free 3
            have f4 := HSR2.out.g.free 4
            have f5 := HSR2.out.g.free 5
            simp only [List.getElem?_toArray, List.getElem?_cons_succ, List.getElem?_cons_zero] at l0 l1 l2 l3 l4 l5
            go_wp2_with fail
            go_roundw
            case rel => exact ⟨j + 1, by omega, by go_num, by rw [HNP.out, HNQ.out, HNR.out]; simp only [HD0.out, if_true, if_false, not_true_eq_false, not_false_eq_true, HD1.out, if_true, if_false, not_true_eq_false, not_false_eq_true, HD2.out, if_true, if_false, not_true_eq_false, not_false_eq_true]; exact HSR2⟩
            case measure => simp [intOf]; omega
          · have hb2 : (z == W1) = false := by simpa using hd
            have hb3 : (z == IntKind.i64.wrap (W - 1)) = false := by rw [t2]; exact hb2
            have HD2 := Lib.hid (eq_false hd)
            clear hd
            go_wp2_with fail
            refine (HWP.out _).mono ?_
            rintro e w4 ⟨rfl, rfl⟩
            go_wp2_with fail
            have HSP0 := Lib.hid (HS.out.put 3 (.int .u64 ((p0 ||| 2 ^ j : Nat) : Int)) (op' := (p0 ||| 2 ^ j)) (lm' := q0) (rm' := r0) rfl)
            generalize World.setCell wr ⟨w.heap.size + 1 + 1, 3, none⟩ (.int .u64 ((p0 ||| 2 ^ j : Nat) : Int)) = wz0 at *
            clear l0 l1 l2 l3 l4 l5 f3 f4 f5 c0
            have c0 := HC.out _ HSP0.out.grown
            have l0 := HSP0.out.land.cell 0
            have l1 := HSP0.out.land.cell 1
            have l2 := HSP0.out.land.cell 2
            have l3 := HSP0.out.g.cell 3
            have l4 := HSP0.out.g.cell 4
            have l5 := HSP0.out.g.cell 5
            have f3 := HSP0.out.g.free 3
            have f4 := HSP0.out.g.free 4
            have f5 := HSP0.out.g.free 5
            simp only [List.getElem?_toArray, List.getElem?_cons_succ, List.getElem?_cons_zero] at l0 l1 l2 l3 l4 l5
            go_wp2_with fail
            refine (HWQ.out _).mono ?_
            rintro e w5 ⟨rfl, rfl⟩
            go_wp2_with fail
            have HSQ1 := Lib.hid (HSP0.out.put 4 (.int .u64 ((q0 ||| 2 ^ j : Nat) : Int)) (op' := (p0 ||| 2 ^ j)) (lm' := (q0 ||| 2 ^ j)) (rm' := r0) rfl)
            generalize World.setCell wz0 ⟨w.heap.size + 1 + 1, 4, none⟩ (.int .u64 ((q0 ||| 2 ^ j : Nat) : Int)) = wz1 at *
            clear l0 l1 l2 l3 l4 l5 f3 f4 f5 c0
            have c0 := HC.out _ HSQ1.out.grown
            have l0 := HSQ1.out.land.cell 0
            have l1 := HSQ1.out.land.cell 1
            have l2 := HSQ1.out.land.cell 2
            have l3 := HSQ1.out.g.cell 3
            have l4 := HSQ1.out.g.cell 4
            have l5 := HSQ1.out.g.cell 5
            have f3 := HSQ1.out.g.free 3
            have f4 := HSQ1.out.g.free 4
            have f5 := HSQ1.out.g.free 5
            simp only [List.getElem?_toArray, List.getElem?_cons_succ, List.getElem?_cons_zero] at l0 l1 l2 l3 l4 l5
            go_wp2_with fail
            have HSq := Lib.hid (HSQ1.out.on (grown_drew (World.grownBy.refl wz1 none)))
            go_region_held3 (fun w' => w'.cell? ⟨w.heap.size, 0, none⟩ = some (.int .i64 W)) (exact HSq.out.land.cell 0) (fail)
            generalize World.drew wz1 = wq at *
            clear l0 l1 l2 l3 l4 l5 f3 f4 f5 c0
            have c0 := HC.out _ HSq.out.grown
            have l0 := HSq.out.land.cell 0
            have l1 := HSq.out.land.cell 1
            have l2 := HSq.out.land.cell 2
            have l3 := HSq.out.g.cell 3
            have l4 := HSq.out.g.cell 4
            have l5 := HSq.out.g.cell 5
            have f3 := HSq.out.g.free 3
            have f4 := HSq.out.g.free 4
            have f5 := HSq.out.g.free 5
            simp only [List.getElem?_toArray, List.getElem?_cons_succ, List.getElem?_cons_zero] at l0 l1 l2 l3 l4 l5
            go_wp2_with fail
            go_roundw
            case rel => exact ⟨j + 1, by omega, by go_num, by rw [HNP.out, HNQ.out, HNR.out]; simp only [HD0.out, if_true, if_false, not_true_eq_false, not_false_eq_true, HD1.out, if_true, if_false, not_true_eq_false, not_false_eq_true, HD2.out, if_true, if_false, not_true_eq_false, not_false_eq_true]; exact HSq⟩
            case measure => simp [intOf]; omega
        · have hb1 : (z == 0) = false := by simpa using hd
          have HD1 := Lib.hid (eq_false hd)
          clear hd
          by_cases hd : z = W1
          · have hb2 : (z == W1) = true := by simpa using hd
            have hb3 : (z == IntKind.i64.wrap (W - 1)) = true := by rw [t2]; exact hb2
            have HD2 := Lib.hid (eq_true hd)
            clear hd
            go_wp2_with fail
            refine (HWP.out _).mono ?_
            rintro e w4 ⟨rfl, rfl⟩
            go_wp2_with fail
            have HSP0 := Lib.hid (HS.out.put 3 (.int .u64 ((p0 ||| 2 ^ j : Nat) : Int)) (op' := (p0 ||| 2 ^ j)) (lm' := q0) (rm' := r0) rfl)
            generalize World.setCell wr ⟨w.heap.size + 1 + 1, 3, none⟩ (.int .u64 ((p0 ||| 2 ^ j : Nat) : Int)) = wz0 at *
            clear l0 l1 l2 l3 l4 l5 f3 f4 f5 c0
            have c0 := HC.out _ HSP0.out.grown
            have l0 := HSP0.out.land.cell 0
            have l1 := HSP0.out.land.cell 1
            have l2 := HSP0.out.land.cell 2
            have l3 := HSP0.out.g.cell 3
            have l4 := HSP0.out.g.cell 4
            have l5 := HSP0.out.g.cell 5
            have f3 := HSP0.out.g.free 3
            have f4 := HSP0.out.g.free 4
            have f5 := HSP0.out.g.free 5
            simp only [List.getElem?_toArray, List.getElem?_cons_succ, List.getElem?_cons_zero] at l0 l1 l2 l3 l4 l5
            go_wp2_with fail
            have HSq := Lib.hid (HSP0.out.on (grown_drew (World.grownBy.refl wz0 none)))
            go_region_held3 (fun w' => w'.cell? ⟨w.heap.size, 0, none⟩ = some (.int .i64 W)) (exact HSq.out.land.cell 0) (fail)
            generalize World.drew wz0 = wq at *
            clear l0 l1 l2 l3 l4 l5 f3 f4 f5 c0
            have c0 := HC.out _ HSq.out.grown
            have l0 := HSq.out.land.cell 0
            have l1 := HSq.out.land.cell 1
            have l2 := HSq.out.land.cell 2
            have l3 := HSq.out.g.cell 3
            have l4 := HSq.out.g.cell 4
            have l5 := HSq.out.g.cell 5
            have f3 := HSq.out.g.free 3
            have f4 := HSq.out.g.free 4
            have f5 := HSq.out.g.free 5
            simp only [List.getElem?_toArray, List.getElem?_cons_succ, List.getElem?_cons_zero] at l0 l1 l2 l3 l4 l5
            go_wp2_with fail
            refine (HWR.out _).mono ?_
            rintro e w6 ⟨rfl, rfl⟩
            go_wp2_with fail
            have HSR2 := Lib.hid (HSq.out.put 5 (.int .u64 ((r0 ||| 2 ^ j : Nat) : Int)) (op' := (p0 ||| 2 ^ j)) (lm' := q0) (rm' := (r0 ||| 2 ^ j)) rfl)
            generalize World.setCell wq ⟨w.heap.size + 1 + 1, 5, none⟩ (.int .u64 ((r0 ||| 2 ^ j : Nat) : Int)) = wz2 at *
            clear l0 l1 l2 l3 l4 l5 f3 f4 f5 c0
            have c0 := HC.out _ HSR2.out.grown
            have l0 := HSR2.out.land.cell 0
            have l1 := HSR2.out.land.cell 1
            have l2 := HSR2.out.land.cell 2
            have l3 := HSR2.out.g.cell 3
            have l4 := HSR2.out.g.cell 4
            have l5 := HSR2.out.g.cell 5
            have f3 := HSR2.out.g.free 3
            have f4 := HSR2.out.g.free 4
            have f5 := HSR2.out.g.free 5
            simp only [List.getElem?_toArray, List.getElem?_cons_succ, List.getElem?_cons_zero] at l0 l1 l2 l3 l4 l5
            go_wp2_with fail
            go_roundw
            case rel => exact ⟨j + 1, by omega, by go_num, by rw [HNP.out, HNQ.out, HNR.out]; simp only [HD0.out, if_true, if_false, not_true_eq_false, not_false_eq_true, HD1.out, if_true, if_false, not_true_eq_false, not_false_eq_true, HD2.out, if_true, if_false, not_true_eq_false, not_false_eq_true]; exact HSR2⟩
            case measure => simp [intOf]; omega
          · have hb2 : (z == W1) = false := by simpa using hd
            have hb3 : (z == IntKind.i64.wrap (W - 1)) = false := by rw [t2]; exact hb2
            have HD2 := Lib.hid (eq_false hd)
            clear hd
            go_wp2_with fail
            refine (HWP.out _).mono ?_
            rintro e w4 ⟨rfl, rfl⟩
            go_wp2_with fail
            have HSP0 := Lib.hid (HS.out.put 3 (.int .u64 ((p0 ||| 2 ^ j : Nat) : Int)) (op' := (p0 ||| 2 ^ j)) (lm' := q0) (rm' := r0) rfl)
            generalize World.setCell wr ⟨w.heap.size + 1 + 1, 3, none⟩ (.int .u64 ((p0 ||| 2 ^ j : Nat) : Int)) = wz0 at *
            clear l0 l1 l2 l3 l4 l5 f3 f4 f5 c0
            have c0 := HC.out _ HSP0.out.grown
            have l0 := HSP0.out.land.cell 0
            have l1 := HSP0.out.land.cell 1
            have l2 := HSP0.out.land.cell 2
            have l3 := HSP0.out.g.cell 3
            have l4 := HSP0.out.g.cell 4
            have l5 := HSP0.out.g.cell 5
            have f3 := HSP0.out.g.free 3
            have f4 := HSP0.out.g.free 4
            have f5 := HSP0.out.g.free 5
            simp only [List.getElem?_toArray, List.getElem?_cons_succ, List.getElem?_cons_zero] at l0 l1 l2 l3 l4 l5
            go_wp2_with fail
            have HSq := Lib.hid (HSP0.out.on (grown_drew (World.grownBy.refl wz0 none)))
            go_region_held3 (fun w' => w'.cell? ⟨w.heap.size, 0, none⟩ = some (.int .i64 W)) (exact HSq.out.land.cell 0) (fail)
            generalize World.drew wz0 = wq at *
            clear l0 l1 l2 l3 l4 l5 f3 f4 f5 c0
            have c0 := HC.out _ HSq.out.grown
            have l0 := HSq.out.land.cell 0
            have l1 := HSq.out.land.cell 1
            have l2 := HSq.out.land.cell 2
            have l3 := HSq.out.g.cell 3
            have l4 := HSq.out.g.cell 4
            have l5 := HSq.out.g.cell 5
            have f3 := HSq.out.g.free 3
            have f4 := HSq.out.g.free 4
            have f5 := HSq.out.g.free 5
            simp only [List.getElem?_toArray, List.getElem?_cons_succ, List.getElem?_cons_zero] at l0 l1 l2 l3 l4 l5
            go_wp2_with fail
            go_roundw
            case rel => exact ⟨j + 1, by omega, by go_num, by rw [HNP.out, HNQ.out, HNR.out]; simp only [HD0.out, if_true, if_false, not_true_eq_false, not_false_eq_true, HD1.out, if_true, if_false, not_true_eq_false, not_false_eq_true, HD2.out, if_true, if_false, not_true_eq_false, not_false_eq_true]; exact HSq⟩
            case measure => simp [intOf]; omega
    · have hju : vn = j := by omega
      subst hju
      have HQ : Hid (GS w wr W H (.slice va vn vc) (opW X) (lmW W X) (rmW W X)) := by
        show GS _ _ _ _ _ _ _ _
        unfold opW lmW rmW
        rw [HVN.out]
        exact HS.out
      clear HS
      obtain ⟨cs, hcs⟩ : ∃ cs, cs = gcs W H (.slice va vn vc) (opW X) (lmW W X) (rmW W X) := ⟨_, rfl⟩
      have hsz : cs.size = 6 := by rw [hcs]; rfl
      have h1c : cs.all (·.oneCell') = true := by rw [hcs]; exact gcs_one _ _ _ _ _ _ _ _
      have HBX : Hid (Box wr (w.heap.size + 1 + 1) cs 60) := by rw [hcs]; exact HQ.out.g
      have hst := box_stores (cs' := cs) HQ.out.res (by rw [hsz]; rfl) h1c
      have HCS := Lib.hid hcs
      clear hcs h1c
      go_wp2_with (refine wpList_load_part rfl 60 _ rfl (w.heap.size + 1 + 1) 0 rfl cs _ HBX.out.part Tryd.underlying60 rfl (ground_size hsz) ?_)
      have hr := box_setRow (cs' := cs) HQ.out.res
      have hk := grown_setRow wr (w.heap.size + 1) cs
      have hgw : w.grownBy (wr.setRow (w.heap.size + 1) cs) none := grown_new HQ.out.grown hk (fun c hc => by injection hc with hc; omega)
      refine bodyPost_ret (v := .agg cs) (results_cell_row rfl _ _ (w.heap.size + 1) _ cs (0, 0) _ rfl hr Tryd.underlying60 rfl (ground_size hsz)) rfl ⟨by rw [HCS.out], hgw⟩
end Go.Proofs.YtbibkjponadipaaDoor.Pc
