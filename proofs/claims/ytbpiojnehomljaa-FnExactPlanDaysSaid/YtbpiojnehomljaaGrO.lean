/- Contract of the program's gridOf: for a valid land it returns the grid of its squares. -/
import Derived.Test.YtbpiojnehomljaaGrI
import Derived.Test.YtbpiojnehomljaaLandI
import Derived.Test.YtbpiojnehomljaaMBase
import Derived.Deep.WholeRow
import Derived.Deep.DeepCutAuto
namespace Go.Proofs.Ytbpiojnehomljaa.GrI
open Go.RowKit Kit Rw Ld Gr

theorem gcells_set {p : Nat} {g : List Int} {s : Nat} {x : Int} : (gcells p g).setIfInBounds (1 + s) (.int .u8 x) = gcells p (g.set s x) := by
  rw [show 1 + s = s + 1 by omega]
  simp [gcells, List.map_set]
theorem gcells_one (p : Nat) (g : List Int) : (gcells p g).all (·.oneCell') = true := by
  rw [Array.all_eq_true_iff_forall_mem]
  intro v hv
  simp only [gcells, List.mem_toArray, List.mem_cons, List.mem_map] at hv
  rcases hv with rfl | ⟨x, _, rfl⟩ <;> rfl
theorem grid_info : (Try.prog.info? 144).map (fun i => (i.zero, i.size)) = some (some (.agg (gcells 0 (List.replicate 100 0))), 101) := by kernel_rfl
theorem grid_built (p : Nat) : Try.prog.built 144 [(0, .int .i64 (p : Int))] = some (gcells p (List.replicate 100 0)) := by kernel_rfl
theorem grid_size {cs : Array Value} (h : cs.size = 101) : (Try.prog.info? 144).map (·.size) = some cs.size := by rw [h]; exact (zero_of_info grid_info).2

/-- .. and into one. -/
theorem Box.stores {w : World} {b : Nat} {cs cs' : Array Value} {T : TypeId} (h : Box w b cs T) (hn : cs.size = cs'.size) (h1 : cs'.all (·.oneCell') = true) : (storeCells ⟨b, 0, none⟩ cs'.toList 0).run Try.prog w = .ok () (w.setRow b cs') := by
  have := run_storeCells_from (P := Try.prog) b T cs'.toList 0 cs w h (by simpa using hn.symm) (fun v hv => (Array.all_eq_true_iff_forall_mem.1 h1) v (by simpa using hv))
  simpa using this
theorem rep_set {j : Nat} (hj : j < 100) : (List.replicate j (2 : Int) ++ List.replicate (100 - j) 0).set j 2 = List.replicate (j + 1) 2 ++ List.replicate (100 - (j + 1)) 0 := by
  obtain ⟨k, hk⟩ : ∃ k, 100 - j = k + 1 := ⟨99 - j, by omega⟩
  rw [hk, show 100 - (j + 1) = k by omega, List.set_append, List.length_replicate, if_neg (by omega), Nat.sub_self, List.replicate_succ (n := k), List.set_cons_zero, List.replicate_succ' (n := j), List.append_assoc]
  rfl
/-- Where gridOf stands. -/
structure GS (w wr : World) (p : Nat) (H : Int) (v : Value) (X g : List Int) : Prop where
  land : Box wr w.heap.size #[.int .i64 (p : Int), .int .i64 H, v] 29
  res : Box wr (w.heap.size + 1) (gcells 0 (List.replicate 100 0)) 144
  grid : Box wr (w.heap.size + 2) (gcells p g) 144
  row : Sees .i64 wr v X
  grown : w.grownBy wr none
theorem GS.on {w wr wy : World} {p : Nat} {H : Int} {v : Value} {X g : List Int} (h : GS w wr p H v X g) (hg : wr.grownBy wy none) : GS w wy p H v X g :=
  ⟨h.land.grown hg, h.res.grown hg, h.grid.grown hg, h.row.grown hg, grownN_trans h.grown hg⟩
theorem GS.set {w wr : World} {p : Nat} {H : Int} {v : Value} {X g : List Int} (h : GS w wr p H v X g) (hv : Sees .i64 w v X) (hn : X ≠ []) (s : Nat) (x : Int) : GS w (wr.setCell ⟨w.heap.size + 2, 1 + s, none⟩ (.int .u8 x)) p H v X (g.set s x) := by
  have hk := grown_set wr (w.heap.size + 2) (1 + s) (.int .u8 x)
  refine ⟨h.land.kept hk (by simp), h.res.kept hk (by simp), ?_, ?_, ?_⟩
  · have := box_set h.grid (1 + s) (.int .u8 x); rwa [gcells_set] at this
  · refine h.row.kept hk ?_
    obtain ⟨a, cap, rfl, _, _, _, _, hc⟩ := hv
    rcases hc with h0 | ⟨b, o, rfl, hc⟩
    · exact absurd h0 hn
    · have := World.block_lt_of_cell? w _ (hc 0 (List.length_pos_iff.2 hn))
      exact .inr (by simp [Value.ownBlock]; simp only at this; omega)
  · exact grown_new h.grown hk (fun c hc => by injection hc with hc; omega)

set_option maxRecDepth 100000 in
set_option maxHeartbeats 4000000 in
theorem gridOf_any (w : World) (p : Nat) (H : Int) (v : Value) (X : List Int) (hv : Sees .i64 w v X) (hL : isLand p H X = true) :
    Calls Try.prog 129 #[.agg #[.int .i64 (p : Int), .int .i64 H, v]] w fun e w' => e = .returned (.agg (gcells p (grid p X))) ∧ w.grownBy w' none := by
  obtain ⟨hp, hH, hLen, hX⟩ := isLand_of hL
  have hA := area hp hH
  obtain ⟨h, rfl⟩ : ∃ h : Nat, H = h := ⟨H.toNat, by omega⟩
  have hxl : X.length = p * h := by exact_mod_cast hLen
  have hx1 : 1 ≤ X.length := by omega
  have hx64 : X.length ≤ 64 := by omega
  have hne : X ≠ [] := fun e => by rw [e] at hx1; simp at hx1
  obtain ⟨a, n, cap, hvv, HN⟩ := hv.shape
  subst hvv
  have hn64 : n ≤ 64 := by rw [← HN.out]; exact hx64
  have HV := Lib.hid hv
  have HV0 := Lib.hid hv
  have HX := Lib.hid hX
  have HP : Hid ((1 ≤ p ∧ p ≤ 8) ∧ h ≤ 8 ∧ X.length = p * h ∧ X ≠ []) := ⟨by omega, by omega, hxl, hne⟩
  have hgr := World.grownBy_alloc w (.cells #[.int .i64 (p : Int), .int .i64 (h : Int), .slice a n cap] 29 (0, 0)) none
  obtain ⟨zc, hzc⟩ : ∃ zc, zc = gcells 0 (List.replicate 100 0) := ⟨_, rfl⟩
  have hz59 : ∀ w, (zeroValue 144).run Try.prog w = .ok (.agg zc) w := by rw [hzc]; exact (zero_of_info grid_info).1
  have hzs : zc.size = 101 := by rw [hzc]; rfl
  have hzn : ¬ zc = #[] := fun e => by rw [e] at hzs; simp at hzs
  have HZC := Lib.hid hzc
  have HZ1 : Hid (zc.setIfInBounds 0 (.int .i64 (p : Int)) = gcells p (List.replicate 100 0)) := by show _ = _; rw [hzc]; rfl
  clear hv hL hp hH hLen hA hX hne hxl hx1 hx64 hzc
  have HC := Lib.hid (box_new w #[.int .i64 (p : Int), .int .i64 (h : Int), .slice a n cap] 29)
  go_enter Try.func129, Try.ntmps129
  go_upto_region 1 with (fail)
  have hg2 := World.grownBy_alloc (w.alloc (.cells #[.int .i64 (p : Int), .int .i64 (h : Int), .slice a n cap] 29 (0, 0))) (.cells zc 144 (0, 0)) none
  have HR := Lib.hid (box_new (w.alloc (.cells #[.int .i64 (p : Int), .int .i64 (h : Int), .slice a n cap] 29 (0, 0))) zc 144)
  have HC := Lib.hid (HC.out.grown hg2)
  have HV := Lib.hid (HV.out.grown (grownN_trans hgr hg2))
  have HG := Lib.hid (grownN_trans hgr hg2)
  have HS : Hid (((w.alloc (.cells #[.int .i64 (p : Int), .int .i64 (h : Int), .slice a n cap] 29 (0, 0))).alloc (.cells zc 144 (0, 0))).heap.size = w.heap.size + 2) := by show _ = _; simp
  clear hg2 hgr
  generalize (w.alloc (.cells #[.int .i64 (p : Int), .int .i64 (h : Int), .slice a n cap] 29 (0, 0))).alloc (.cells zc 144 (0, 0)) = W2 at *
  have hst := run_storeCells_new (P := Try.prog) W2 144 zc (zc.setIfInBounds 0 (.int .i64 (p : Int))) (grid_size (by simp [hzs])) (by simp) (by rw [HZ1.out]; exact gcells_one _ _)
  simp only [Array.toList_setIfInBounds] at hst
  obtain ⟨c0, c1, c2⟩ := HC.out.three
  go_wp2_with fail
  have hga := World.grownBy_alloc W2 (.cells (zc.setIfInBounds 0 (.int .i64 (p : Int))) 144 (0, 0)) none
  have hbn := box_new W2 (zc.setIfInBounds 0 (.int .i64 (p : Int))) 144
  rw [HS.out, HZ1.out] at hbn
  rw [HZ1.out] at hga
  have hr : Box W2 (w.heap.size + 1) zc 144 := by have := HR.out; rwa [World.size_alloc] at this
  rw [HZC.out] at hr
  have HQ : Hid (GS w (W2.alloc (.cells (gcells p (List.replicate 100 0)) 144 (0, 0))) p h (.slice a n cap) X (List.replicate 100 0)) :=
    ⟨HC.out.grown hga, hr.grown hga, hbn, HV.out.grown hga, grownN_trans HG.out hga⟩
  rw [HZ1.out, HS.out]
  generalize W2.alloc (.cells (gcells p (List.replicate 100 0)) 144 (0, 0)) = W3 at *
  generalize hg0 : gcells p (List.replicate 100 0) = g0
  clear hg0 hga hbn hr hst c0 c1 c2 HC HR HG HS HZ1 hzs hzn hz59 HZC HV
  go_loopw [10] (fun i wr => ∃ j : Nat, j ≤ 100 ∧ i = .int .i64 j ∧ Hid (GS w wr p h (.slice a n cap) X (List.replicate j 2 ++ List.replicate (100 - j) 0))) (fun i _ => 100 - (intOf i).toNat)
  case atStart => exact ⟨0, Nat.zero_le _, rfl, by show GS _ _ _ _ _ _ _; simpa using HQ.out⟩
  case round =>
    obtain ⟨j, hj, rfl, HQ1⟩ := hrel
    by_cases hlt : j < 100
    · have c1 : wr.cell? ⟨w.heap.size + 2, 1 + j, none⟩ = some (.int .u8 ((List.replicate j 2 ++ List.replicate (100 - j) 0 : List Int).getD j 0)) := by rw [HQ1.out.grid.cell]; exact gcells_s (by simp; omega) hlt
      have f1 := HQ1.out.grid.free (1 + j)
      go_wp2_with fail
      go_roundw
      case rel =>
        refine ⟨j + 1, by omega, by go_num, ?_⟩
        have := HQ1.out.set HV0.out HP.out.2.2.2 j 2
        rwa [rep_set hlt] at this
      case measure => simp [intOf]; omega
    · have hq0 : GS w wr p h (.slice a n cap) X (gridTo p X 0) := by
        have := HQ1.out
        rw [show j = 100 by omega] at this
        simpa [gridTo] using this
      obtain ⟨c0, c1, c2⟩ := hq0.land.three
      have HQ2 := Lib.hid hq0
      clear hq0 HQ1
      go_wp2_with fail
      go_loopw [20] (fun i wr => ∃ j : Nat, j ≤ n ∧ i = .int .i64 j ∧ Hid (GS w wr p h (.slice a n cap) X (gridTo p X j))) (fun i _ => n - (intOf i).toNat)
      case atStart => exact ⟨0, Nat.zero_le _, rfl, HQ2.out⟩
      case round =>
        obtain ⟨j, hj, rfl, HQ3⟩ := hrel
        by_cases hlt : j < n
        · have hjx : j < X.length := by rw [HN.out]; exact hlt
          obtain ⟨x, hx⟩ : ∃ x, x = X.getD j 0 := ⟨_, rfl⟩
          have hxb := HX.out x (by rw [hx]; exact mem_getD hjx)
          obtain ⟨b, o, rfl, hcj⟩ := HQ3.out.row.at_row hjx
          rw [← hx] at hcj
          have HXX := Lib.hid hx
          obtain ⟨hx0, hx2⟩ := hxb
          have hw8 : IntKind.u8.wrap x = x := by unfold IntKind.wrap; simp [IntKind.bits, IntKind.signed]; omega
          clear hx
          obtain ⟨cs, hcs⟩ : ∃ cs, cs = gcells p (gridTo p X j) := ⟨_, rfl⟩
          have hsz : cs.size = 101 := by rw [hcs]; exact gcells_size (gridTo_len _ _ _)
          have HBX : Hid (Box wr (w.heap.size + 2) cs 144) := by rw [hcs]; exact HQ3.out.grid
          have HCS := Lib.hid hcs
          clear hcs
          go_wp2_with (refine wpList_load_part rfl 144 _ rfl (w.heap.size + 2) 0 rfl cs _ HBX.out.part Try.underlying144 rfl (grid_size hsz) ?_)
          refine (squareOf_any wr p j cs HP.out.1 (by omega) (by rw [HCS.out]; rfl)).mono ?_
          rintro e w2 ⟨rfl, hg⟩
          have HQ4 := Lib.hid (HQ3.out.on hg)
          have hb := sq_lt HP.out.1 HP.out.2.1 (show j < p * h by rw [← HP.out.2.2.1]; exact hjx)
          obtain ⟨s, hs⟩ : ∃ s, s = sq p j := ⟨_, rfl⟩
          rw [← hs] at hb ⊢
          have hs100 : s < 100 := by omega
          have HSS := Lib.hid hs
          have d1 : w2.cell? ⟨w.heap.size + 2, 1 + s, none⟩ = some (.int .u8 ((gridTo p X j).getD s 0)) := by rw [HQ4.out.grid.cell]; exact gcells_s (gridTo_len _ _ _) hs100
          have f1 := HQ4.out.grid.free (1 + s)
          clear hg hcj hs hb
          go_wp2_with fail
          go_roundw
          case rel =>
            refine ⟨j + 1, by omega, by go_num, ?_⟩
            have := HQ4.out.set HV0.out HP.out.2.2.2 s x
            rwa [show (gridTo p X j).set s x = gridTo p X (j + 1) by rw [HXX.out, HSS.out]; rfl] at this
          case measure => simp [intOf]; omega
        · have hjn : j = n := by omega
          subst hjn
          have HQ4 : Hid (GS w wr p h (.slice a X.length cap) X (grid p X)) := by have := HQ3.out; rw [← HN.out] at this; exact this
          obtain ⟨cs, hcs⟩ : ∃ cs, cs = gcells p (grid p X) := ⟨_, rfl⟩
          have hsz : cs.size = 101 := by rw [hcs]; exact gcells_size (grid_len _ _)
          have h1c : cs.all (·.oneCell') = true := by rw [hcs]; exact gcells_one _ _
          have HBX : Hid (Box wr (w.heap.size + 2) cs 144) := by rw [hcs]; exact HQ4.out.grid
          have hst := Box.stores (cs' := cs) HQ4.out.res (by rw [hsz]; rfl) h1c
          have HCS := Lib.hid hcs
          clear hcs h1c
          go_wp2_with (refine wpList_load_part rfl 144 _ rfl (w.heap.size + 2) 0 rfl cs _ HBX.out.part Try.underlying144 rfl (grid_size hsz) ?_)
          have hr := box_setRow (cs' := cs) HQ4.out.res
          have hk := grown_setRow wr (w.heap.size + 1) cs
          have hgw : w.grownBy (wr.setRow (w.heap.size + 1) cs) none := grown_new HQ4.out.grown hk (fun c hc => by injection hc with hc; omega)
          refine bodyPost_ret (v := .agg cs) (results_cell_row rfl _ _ (w.heap.size + 1) _ cs (0, 0) _ rfl hr Try.underlying144 rfl (grid_size hsz)) rfl ⟨by rw [HCS.out], hgw⟩
end Go.Proofs.Ytbpiojnehomljaa.GrI
