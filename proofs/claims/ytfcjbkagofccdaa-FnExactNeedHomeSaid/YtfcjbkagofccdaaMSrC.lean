/- The program's grid and its search from cell to cell: several texts in one. No condition. -/
import Derived.Test.YtfcjbkagofccdaaGr
import Derived.Test.YtfcjbkagofccdaaMBase
import Derived.IntWalk
import Derived.Deep.QuietTactic
import Derived.BigQuiet
import Derived.Laws.Rows
import Derived.Test.YtfcjbkagofccdaaLandI
import Derived.Test.YtfcjbkagofccdaaMBase
import Derived.Deep.WholeRow
import Derived.Deep.DeepCutAuto
import Derived.Test.YtfcjbkagofccdaaMBase
import Derived.Test.YtfcjbkagofccdaaMBase
import Derived.Test.YtfcjbkagofccdaaBfsT
import Derived.Lib.SliceRun
import Derived.Deep.RegionHeld3
import Derived.StillTailTactics
import Derived.Test.YtfcjbkagofccdaaWayF
/- Contracts of the program's squareOf, cellOf, of the steps from a square to those beside it, and how a grid's value lies in memory. -/
namespace Go.Proofs.Ytfcjbkagofccdaa.GrI
open Go.RowKit Kit Rw Ld Gr

/-- The cells of a grid's value: its width, then its hundred squares. -/
def gcells (p : Nat) (g : List Int) : Array Value := (Value.int .i64 (p : Int) :: g.map (Value.int .u8)).toArray
theorem gcells_size {p : Nat} {g : List Int} (hg : g.length = 100) : (gcells p g).size = 101 := by simp [gcells, hg]
theorem gcells_0 (p : Nat) (g : List Int) : (gcells p g)[0]? = some (.int .i64 (p : Int)) := rfl
theorem gcells_s {p : Nat} {g : List Int} (hg : g.length = 100) {s : Nat} (hs : s < 100) : (gcells p g)[1 + s]? = some (.int .u8 (g.getD s 0)) := by
  rw [show 1 + s = s + 1 by omega]
  simp only [gcells, List.getElem?_toArray, List.getElem?_cons_succ]
  exact getD_map (by omega)
theorem alloc_cell (w : World) (cs : Array Value) (T : TypeId) (j : Nat) : (w.alloc (.cells cs T (0, 0))).cell? ⟨w.heap.size, j, none⟩ = cs[j]? := World.cell?_alloc_new _ _ _ _

set_option maxHeartbeats 1000000 in
theorem squareOf_any (w : World) (p q : Nat) (cs : Array Value) (hp : 1 ≤ p ∧ p ≤ 8) (hq : q < 64) (h0 : cs[0]? = some (.int .i64 (p : Int))) :
    Calls Try.prog 123 #[.agg cs, .int .i64 (q : Int)] w fun e w' => e = .returned (.int .i64 ((sq p q : Nat) : Int)) ∧ w.grownBy w' none := by
  have HG := Lib.hid (World.grownBy_alloc w (.cells cs 135 (0, 0)) none)
  have c0 : (w.alloc (.cells cs 135 (0, 0))).cell? ⟨w.heap.size, 0, none⟩ = some (.int .i64 (p : Int)) := by rw [alloc_cell]; exact h0
  obtain ⟨c, hc⟩ : ∃ c, c = q % p := ⟨_, rfl⟩
  obtain ⟨r, hr⟩ : ∃ r, r = q / p := ⟨_, rfl⟩
  have HE : Hid (((r + 1) * 10 + c + 1 : Nat) = sq p q) := by show _ = _; rw [hc, hr]; rfl
  obtain ⟨hp1, hp8⟩ := hp
  have hc8 : c < p := by rw [hc]; exact Nat.mod_lt _ (by omega)
  have hr64 : r ≤ q := by rw [hr]; exact Nat.div_le_self _ _
  have t1 : (q : Int).tmod (p : Int) = (c : Int) := by rw [Int.tmod_eq_emod_of_nonneg (by omega), hc]; omega
  have t2 : (q : Int).tdiv (p : Int) = (r : Int) := by rw [Int.tdiv_eq_ediv_of_nonneg (by omega), hr]; omega
  have w2 : IntKind.i64.wrap (r : Int) = (r : Int) := IntWalk.i64_in _ (by omega)
  have hne : ¬ ((p : Int) = 0) := by omega
  have hne2 : ((p : Int) == 0) = false := by simpa using hne
  clear h0 hc hr
  go_enter Try.func123, Try.ntmps123
  go_wp2_with fail
  go_quiet (fail)
  go_wp2
  go_ret
  exact ⟨ret_i64 (by rw [← HE.out]; omega), grown_drewN HG.out _⟩

/-- The square beside one, by the side's number. -/
def beside (j s : Nat) : Nat := if j = 0 then s - 10 else if j = 1 then s - 1 else if j = 2 then s + 1 else s + 10
theorem above_any (w : World) (s : Nat) (h10 : 10 ≤ s) (hs : s < 100) :
    Calls Try.prog 145 #[.int .i64 (s : Int)] w fun e w' => e = .returned (.int .i64 ((beside 0 s : Nat) : Int)) ∧ w = w' := by
  go_enter Try.func145, Try.ntmps145
  go_wp2
  go_ret
  exact ⟨ret_i64 (by unfold beside; simp; omega), rfl⟩
theorem left_any (w : World) (s : Nat) (h10 : 10 ≤ s) (hs : s < 100) :
    Calls Try.prog 146 #[.int .i64 (s : Int)] w fun e w' => e = .returned (.int .i64 ((beside 1 s : Nat) : Int)) ∧ w = w' := by
  go_enter Try.func146, Try.ntmps146
  go_wp2
  go_ret
  exact ⟨ret_i64 (by unfold beside; simp; omega), rfl⟩
theorem right_any (w : World) (s : Nat) (h10 : 10 ≤ s) (hs : s < 100) :
    Calls Try.prog 147 #[.int .i64 (s : Int)] w fun e w' => e = .returned (.int .i64 ((beside 2 s : Nat) : Int)) ∧ w = w' := by
  go_enter Try.func147, Try.ntmps147
  go_wp2
  go_ret
  exact ⟨ret_i64 (by unfold beside; simp), rfl⟩
theorem below_any (w : World) (s : Nat) (h10 : 10 ≤ s) (hs : s < 100) :
    Calls Try.prog 148 #[.int .i64 (s : Int)] w fun e w' => e = .returned (.int .i64 ((beside 3 s : Nat) : Int)) ∧ w = w' := by
  go_enter Try.func148, Try.ntmps148
  go_wp2
  go_ret
  exact ⟨ret_i64 (by unfold beside; simp), rfl⟩
end Go.Proofs.Ytfcjbkagofccdaa.GrI

/- Contract of the program's gridOf: for a valid land it returns the grid of its squares. -/
namespace Go.Proofs.Ytfcjbkagofccdaa.GrI
open Go.RowKit Kit Rw Ld Gr

theorem gcells_set {p : Nat} {g : List Int} {s : Nat} {x : Int} : (gcells p g).setIfInBounds (1 + s) (.int .u8 x) = gcells p (g.set s x) := by
  rw [show 1 + s = s + 1 by omega]
  simp [gcells, List.map_set]
theorem gcells_one (p : Nat) (g : List Int) : (gcells p g).all (·.oneCell') = true := by
  rw [Array.all_eq_true_iff_forall_mem]
  intro v hv
  simp only [gcells, List.mem_toArray, List.mem_cons, List.mem_map] at hv
  rcases hv with rfl | ⟨x, _, rfl⟩ <;> rfl
theorem grid_info : (Try.prog.info? 135).map (fun i => (i.zero, i.size)) = some (some (.agg (gcells 0 (List.replicate 100 0))), 101) := by kernel_rfl
theorem grid_built (p : Nat) : Try.prog.built 135 [(0, .int .i64 (p : Int))] = some (gcells p (List.replicate 100 0)) := by kernel_rfl
theorem grid_size {cs : Array Value} (h : cs.size = 101) : (Try.prog.info? 135).map (·.size) = some cs.size := by rw [h]; exact (zero_of_info grid_info).2

/-- .. and into one. -/
theorem Box.stores {w : World} {b : Nat} {cs cs' : Array Value} {T : TypeId} (h : Box w b cs T) (hn : cs.size = cs'.size) (h1 : cs'.all (·.oneCell') = true) : (storeCells ⟨b, 0, none⟩ cs'.toList 0).run Try.prog w = .ok () (w.setRow b cs') := by
  have := run_storeCells_from (P := Try.prog) b T cs'.toList 0 cs w h (by simpa using hn.symm) (fun v hv => (Array.all_eq_true_iff_forall_mem.1 h1) v (by simpa using hv))
  simpa using this
theorem rep_set {j : Nat} (hj : j < 100) : (List.replicate j (2 : Int) ++ List.replicate (100 - j) 0).set j 2 = List.replicate (j + 1) 2 ++ List.replicate (100 - (j + 1)) 0 := by
  obtain ⟨k, hk⟩ : ∃ k, 100 - j = k + 1 := ⟨99 - j, by omega⟩
  rw [hk, show 100 - (j + 1) = k by omega, List.set_append, List.length_replicate, if_neg (by omega), Nat.sub_self, List.replicate_succ (n := k), List.set_cons_zero, List.replicate_succ' (n := j), List.append_assoc]
  rfl
/-- Where gridOf stands. -/
structure GS (w wr : World) (p : Nat) (H : Int) (v : Value) (X g : List Int) : Prop where
  land : Box wr w.heap.size #[.int .i64 (p : Int), .int .i64 H, v] 50
  res : Box wr (w.heap.size + 1) (gcells 0 (List.replicate 100 0)) 135
  grid : Box wr (w.heap.size + 2) (gcells p g) 135
  row : Sees .i64 wr v X
  grown : w.grownBy wr none
theorem GS.on {w wr wy : World} {p : Nat} {H : Int} {v : Value} {X g : List Int} (h : GS w wr p H v X g) (hg : wr.grownBy wy none) : GS w wy p H v X g :=
  ⟨h.land.grown hg, h.res.grown hg, h.grid.grown hg, h.row.grown hg, grownN_trans h.grown hg⟩
theorem GS.set {w wr : World} {p : Nat} {H : Int} {v : Value} {X g : List Int} (h : GS w wr p H v X g) (hv : Sees .i64 w v X) (hn : X ≠ []) (s : Nat) (x : Int) : GS w (wr.setCell ⟨w.heap.size + 2, 1 + s, none⟩ (.int .u8 x)) p H v X (g.set s x) := by
  have hk := grown_set wr (w.heap.size + 2) (1 + s) (.int .u8 x)
  refine ⟨h.land.kept hk (by simp), h.res.kept hk (by simp), ?_, ?_, ?_⟩
  · have := box_set h.grid (1 + s) (.int .u8 x); rwa [gcells_set] at this
  · refine h.row.kept hk ?_
    obtain ⟨a, cap, rfl, _, _, _, _, hc⟩ := hv
    rcases hc with h0 | ⟨b, o, rfl, hc⟩
    · exact absurd h0 hn
    · have := World.block_lt_of_cell? w _ (hc 0 (List.length_pos_iff.2 hn))
      exact .inr (by simp [Value.ownBlock]; simp only at this; omega)
  · exact grown_new h.grown hk (fun c hc => by injection hc with hc; omega)

set_option maxRecDepth 100000 in
set_option maxHeartbeats 4000000 in
theorem gridOf_any (w : World) (p : Nat) (H : Int) (v : Value) (X : List Int) (hv : Sees .i64 w v X) (hL : isLand p H X = true) :
    Calls Try.prog 122 #[.agg #[.int .i64 (p : Int), .int .i64 H, v]] w fun e w' => e = .returned (.agg (gcells p (grid p X))) ∧ w.grownBy w' none := by
  obtain ⟨hp, hH, hLen, hX⟩ := isLand_of hL
  have hA := area hp hH
  obtain ⟨h, rfl⟩ : ∃ h : Nat, H = h := ⟨H.toNat, by omega⟩
  have hxl : X.length = p * h := by exact_mod_cast hLen
  have hx1 : 1 ≤ X.length := by omega
  have hx64 : X.length ≤ 64 := by omega
  have hne : X ≠ [] := fun e => by rw [e] at hx1; simp at hx1
  obtain ⟨a, n, cap, hvv, HN⟩ := hv.shape
  subst hvv
  have hn64 : n ≤ 64 := by rw [← HN.out]; exact hx64
  have HV := Lib.hid hv
  have HV0 := Lib.hid hv
  have HX := Lib.hid hX
  have HP : Hid ((1 ≤ p ∧ p ≤ 8) ∧ h ≤ 8 ∧ X.length = p * h ∧ X ≠ []) := ⟨by omega, by omega, hxl, hne⟩
  have hgr := World.grownBy_alloc w (.cells #[.int .i64 (p : Int), .int .i64 (h : Int), .slice a n cap] 50 (0, 0)) none
  obtain ⟨zc, hzc⟩ : ∃ zc, zc = gcells 0 (List.replicate 100 0) := ⟨_, rfl⟩
  have hz59 : ∀ w, (zeroValue 135).run Try.prog w = .ok (.agg zc) w := by rw [hzc]; exact (zero_of_info grid_info).1
  have hzs : zc.size = 101 := by rw [hzc]; rfl
  have hzn : ¬ zc = #[] := fun e => by rw [e] at hzs; simp at hzs
  have HZC := Lib.hid hzc
  have HZ1 : Hid (zc.setIfInBounds 0 (.int .i64 (p : Int)) = gcells p (List.replicate 100 0)) := by show _ = _; rw [hzc]; rfl
  clear hv hL hp hH hLen hA hX hne hxl hx1 hx64 hzc
  have HC := Lib.hid (box_new w #[.int .i64 (p : Int), .int .i64 (h : Int), .slice a n cap] 50)
  go_enter Try.func122, Try.ntmps122
  go_upto_region 1 with (fail)
  have hg2 := World.grownBy_alloc (w.alloc (.cells #[.int .i64 (p : Int), .int .i64 (h : Int), .slice a n cap] 50 (0, 0))) (.cells zc 135 (0, 0)) none
  have HR := Lib.hid (box_new (w.alloc (.cells #[.int .i64 (p : Int), .int .i64 (h : Int), .slice a n cap] 50 (0, 0))) zc 135)
  have HC := Lib.hid (HC.out.grown hg2)
  have HV := Lib.hid (HV.out.grown (grownN_trans hgr hg2))
  have HG := Lib.hid (grownN_trans hgr hg2)
  have HS : Hid (((w.alloc (.cells #[.int .i64 (p : Int), .int .i64 (h : Int), .slice a n cap] 50 (0, 0))).alloc (.cells zc 135 (0, 0))).heap.size = w.heap.size + 2) := by show _ = _; simp
  clear hg2 hgr
  generalize (w.alloc (.cells #[.int .i64 (p : Int), .int .i64 (h : Int), .slice a n cap] 50 (0, 0))).alloc (.cells zc 135 (0, 0)) = W2 at *
  have hst := run_storeCells_new (P := Try.prog) W2 135 zc (zc.setIfInBounds 0 (.int .i64 (p : Int))) (grid_size (by simp [hzs])) (by simp) (by rw [HZ1.out]; exact gcells_one _ _)
  simp only [Array.toList_setIfInBounds] at hst
  obtain ⟨c0, c1, c2⟩ := HC.out.three
  go_wp2_with fail
  have hga := World.grownBy_alloc W2 (.cells (zc.setIfInBounds 0 (.int .i64 (p : Int))) 135 (0, 0)) none
  have hbn := box_new W2 (zc.setIfInBounds 0 (.int .i64 (p : Int))) 135
  rw [HS.out, HZ1.out] at hbn
  rw [HZ1.out] at hga
  have hr : Box W2 (w.heap.size + 1) zc 135 := by have := HR.out; rwa [World.size_alloc] at this
  rw [HZC.out] at hr
  have HQ : Hid (GS w (W2.alloc (.cells (gcells p (List.replicate 100 0)) 135 (0, 0))) p h (.slice a n cap) X (List.replicate 100 0)) :=
    ⟨HC.out.grown hga, hr.grown hga, hbn, HV.out.grown hga, grownN_trans HG.out hga⟩
  rw [HZ1.out, HS.out]
  generalize W2.alloc (.cells (gcells p (List.replicate 100 0)) 135 (0, 0)) = W3 at *
  generalize hg0 : gcells p (List.replicate 100 0) = g0
  clear hg0 hga hbn hr hst c0 c1 c2 HC HR HG HS HZ1 hzs hzn hz59 HZC HV
  go_loopw [10] (fun i wr => ∃ j : Nat, j ≤ 100 ∧ i = .int .i64 j ∧ Hid (GS w wr p h (.slice a n cap) X (List.replicate j 2 ++ List.replicate (100 - j) 0))) (fun i _ => 100 - (intOf i).toNat)
  case atStart => exact ⟨0, Nat.zero_le _, rfl, by show GS _ _ _ _ _ _ _; simpa using HQ.out⟩
  case round =>
    obtain ⟨j, hj, rfl, HQ1⟩ := hrel
    by_cases hlt : j < 100
    · have c1 : wr.cell? ⟨w.heap.size + 2, 1 + j, none⟩ = some (.int .u8 ((List.replicate j 2 ++ List.replicate (100 - j) 0 : List Int).getD j 0)) := by rw [HQ1.out.grid.cell]; exact gcells_s (by simp; omega) hlt
      have f1 := HQ1.out.grid.free (1 + j)
      go_wp2_with fail
      go_roundw
      case rel =>
        refine ⟨j + 1, by omega, by go_num, ?_⟩
        have := HQ1.out.set HV0.out HP.out.2.2.2 j 2
        rwa [rep_set hlt] at this
      case measure => simp [intOf]; omega
    · have hq0 : GS w wr p h (.slice a n cap) X (gridTo p X 0) := by
        have := HQ1.out
        rw [show j = 100 by omega] at this
        simpa [gridTo] using this
      obtain ⟨c0, c1, c2⟩ := hq0.land.three
      have HQ2 := Lib.hid hq0
      clear hq0 HQ1
      go_wp2_with fail
      go_loopw [20] (fun i wr => ∃ j : Nat, j ≤ n ∧ i = .int .i64 j ∧ Hid (GS w wr p h (.slice a n cap) X (gridTo p X j))) (fun i _ => n - (intOf i).toNat)
      case atStart => exact ⟨0, Nat.zero_le _, rfl, HQ2.out⟩
      case round =>
        obtain ⟨j, hj, rfl, HQ3⟩ := hrel
        by_cases hlt : j < n
        · have hjx : j < X.length := by rw [HN.out]; exact hlt
          obtain ⟨x, hx⟩ : ∃ x, x = X.getD j 0 := ⟨_, rfl⟩
          have hxb := HX.out x (by rw [hx]; exact mem_getD hjx)
          obtain ⟨b, o, rfl, hcj⟩ := HQ3.out.row.at_row hjx
          rw [← hx] at hcj
          have HXX := Lib.hid hx
          obtain ⟨hx0, hx2⟩ := hxb
          have hw8 : IntKind.u8.wrap x = x := by unfold IntKind.wrap; simp [IntKind.bits, IntKind.signed]; omega
          clear hx
          obtain ⟨cs, hcs⟩ : ∃ cs, cs = gcells p (gridTo p X j) := ⟨_, rfl⟩
          have hsz : cs.size = 101 := by rw [hcs]; exact gcells_size (gridTo_len _ _ _)
          have HBX : Hid (Box wr (w.heap.size + 2) cs 135) := by rw [hcs]; exact HQ3.out.grid
          have HCS := Lib.hid hcs
          clear hcs
          go_wp2_with (refine wpList_load_part rfl 135 _ rfl (w.heap.size + 2) 0 rfl cs _ HBX.out.part Try.underlying135 rfl (grid_size hsz) ?_)
          refine (squareOf_any wr p j cs HP.out.1 (by omega) (by rw [HCS.out]; rfl)).mono ?_
          rintro e w2 ⟨rfl, hg⟩
          have HQ4 := Lib.hid (HQ3.out.on hg)
          have hb := sq_lt HP.out.1 HP.out.2.1 (show j < p * h by rw [← HP.out.2.2.1]; exact hjx)
          obtain ⟨s, hs⟩ : ∃ s, s = sq p j := ⟨_, rfl⟩
          rw [← hs] at hb ⊢
          have hs100 : s < 100 := by omega
          have HSS := Lib.hid hs
          have d1 : w2.cell? ⟨w.heap.size + 2, 1 + s, none⟩ = some (.int .u8 ((gridTo p X j).getD s 0)) := by rw [HQ4.out.grid.cell]; exact gcells_s (gridTo_len _ _ _) hs100
          have f1 := HQ4.out.grid.free (1 + s)
          clear hg hcj hs hb
          go_wp2_with fail
          go_roundw
          case rel =>
            refine ⟨j + 1, by omega, by go_num, ?_⟩
            have := HQ4.out.set HV0.out HP.out.2.2.2 s x
            rwa [show (gridTo p X j).set s x = gridTo p X (j + 1) by rw [HXX.out, HSS.out]; rfl] at this
          case measure => simp [intOf]; omega
        · have hjn : j = n := by omega
          subst hjn
          have HQ4 : Hid (GS w wr p h (.slice a X.length cap) X (grid p X)) := by have := HQ3.out; rw [← HN.out] at this; exact this
          obtain ⟨cs, hcs⟩ : ∃ cs, cs = gcells p (grid p X) := ⟨_, rfl⟩
          have hsz : cs.size = 101 := by rw [hcs]; exact gcells_size (grid_len _ _)
          have h1c : cs.all (·.oneCell') = true := by rw [hcs]; exact gcells_one _ _
          have HBX : Hid (Box wr (w.heap.size + 2) cs 135) := by rw [hcs]; exact HQ4.out.grid
          have hst := Box.stores (cs' := cs) HQ4.out.res (by rw [hsz]; rfl) h1c
          have HCS := Lib.hid hcs
          clear hcs h1c
          go_wp2_with (refine wpList_load_part rfl 135 _ rfl (w.heap.size + 2) 0 rfl cs _ HBX.out.part Try.underlying135 rfl (grid_size hsz) ?_)
          have hr := box_setRow (cs' := cs) HQ4.out.res
          have hk := grown_setRow wr (w.heap.size + 1) cs
          have hgw : w.grownBy (wr.setRow (w.heap.size + 1) cs) none := grown_new HQ4.out.grown hk (fun c hc => by injection hc with hc; omega)
          refine bodyPost_ret (v := .agg cs) (results_cell_row rfl _ _ (w.heap.size + 1) _ cs (0, 0) _ rfl hr Try.underlying135 rfl (grid_size hsz)) rfl ⟨by rw [HCS.out], hgw⟩
end Go.Proofs.Ytfcjbkagofccdaa.GrI

/- Contract of the program's near of a grid: the open squares beside one. -/
namespace Go.Proofs.Ytfcjbkagofccdaa.GrI
open Go.RowKit Kit Rw Ld Gr

theorem info_sq : (Try.prog.info? 141).map (fun i => (i.zero, i.size, i.bytes)) = some (some (.int .i64 0), 1, 8) := by kernel_rfl
/-- The first j sides' open squares. -/
def nsqTo (g : List Int) (s : Nat) : Nat → List Nat
  | 0 => []
  | j + 1 => nsqTo g s j ++ side1 g (beside j s)
theorem nsqTo_4 (g : List Int) (s : Nat) : nsqTo g s 4 = nsq g s := by simp [nsqTo, nsq, beside]
theorem nsqTo_len (g : List Int) (s : Nat) : ∀ j, (nsqTo g s j).length ≤ j
  | 0 => by simp [nsqTo]
  | j + 1 => by
    have := nsqTo_len g s j
    have : (side1 g (beside j s)).length ≤ 1 := by unfold side1; split <;> simp
    simp only [nsqTo, List.length_append]; omega
def ints (L : List Nat) : List Int := L.map (fun t : Nat => (t : Int))
/-- The functions of the sides, by number. -/
def fnOf (j : Nat) : Nat := if j = 0 then 145 else if j = 1 then 146 else if j = 2 then 147 else 148
theorem side_any (w : World) (j s : Nat) (hj : j < 4) (h10 : 10 ≤ s) (hs : s < 100) : Calls Try.prog (fnOf j) #[.int .i64 (s : Int)] w fun e w' => e = .returned (.int .i64 ((beside j s : Nat) : Int)) ∧ w = w' := by
  obtain rfl | rfl | rfl | rfl : j = 0 ∨ j = 1 ∨ j = 2 ∨ j = 3 := by omega
  · exact above_any w s h10 hs
  · exact left_any w s h10 hs
  · exact right_any w s h10 hs
  · exact below_any w s h10 hs
def fns : Array Value := #[.func (.func 145) #[] #[], .func (.func 146) #[] #[], .func (.func 147) #[] #[], .func (.func 148) #[] #[]]
theorem sides_any (w : World) :
    Calls Try.prog 141 #[] w fun e w' => e = .returned (.slice (some ⟨w.heap.size, 0, none⟩) 4 4) ∧ w' = w.alloc (.cells fns 159 (0, 0)) := by
  go_enter Try.func141, Try.ntmps141
  go_wp2
  go_ret
  exact ⟨rfl, rfl⟩

theorem run_callFunc_go {P : Program} {f : FuncId} {fn : Func} (hf : P.funcs[f]? = some fn) (hname : (fn.name == "runtime.NumGoroutine") = false) (hb : fn.body.isNone = false) (args : Array Value) (w : World) : (callFunc f args).run P w = .ok (.enter f args) w := by
  have h1 : fn.name ≠ "runtime.NumGoroutine" := by simpa using hname
  have h2 : ¬ fn.body = none := by intro e; rw [e] at hb; simp at hb
  simp [callFunc, hf, h1, h2]
theorem fn_enters {j : Nat} (hj : j < 4) (args : Array Value) (w : World) : (callFunc (fnOf j) args).run Try.prog w = .ok (.enter (fnOf j) args) w := by
  obtain rfl | rfl | rfl | rfl : j = 0 ∨ j = 1 ∨ j = 2 ∨ j = 3 := by omega
  · exact run_callFunc_go Try.func145 (by kernel_rfl) (by kernel_rfl) args w
  · exact run_callFunc_go Try.func146 (by kernel_rfl) (by kernel_rfl) args w
  · exact run_callFunc_go Try.func147 (by kernel_rfl) (by kernel_rfl) args w
  · exact run_callFunc_go Try.func148 (by kernel_rfl) (by kernel_rfl) args w
/-- Where near stands. -/
structure NS (w wr : World) (cs : Array Value) (v : Value) (L : List Nat) : Prop where
  own : Own .i64 141 wr (w.heap.size + 1) v (ints L)
  grid : Box wr w.heap.size cs 135
  fns : Box wr (w.heap.size + 2) fns 159
  off : v.ownBlock ≠ some (w.heap.size + 2)
  grown : w.grownBy wr none
theorem NS.more {w wx wy : World} {cs : Array Value} {v v' : Value} {L M : List Nat} (h : NS w wx cs v L) (ho : Own .i64 141 wy (w.heap.size + 1) v' (ints M)) (hg : wx.grownBy wy v.ownBlock) (hl : v'.ownBlock = v.ownBlock ∨ ∃ g, v'.ownBlock = some g ∧ wx.heap.size ≤ g) : NS w wy cs v' M := by
  refine ⟨ho, h.grid.kept hg (h.own.off (Nat.lt_succ_self _)), h.fns.kept hg h.off, ?_, grown_new h.grown hg (fun c hc => by have := h.own.lt c hc; omega)⟩
  rcases hl with hl | ⟨g, hl, hle⟩
  · rw [hl]; exact h.off
  · rw [hl]; have := h.fns.lt; intro e; injection e with e; omega

set_option maxRecDepth 100000 in
set_option maxHeartbeats 4000000 in
theorem gnear_any (w : World) (p s : Nat) (cs : Array Value) (g : List Int) (hcs : cs = gcells p g) (hg : g.length = 100) (hs1 : 11 ≤ s) (hs8 : s ≤ 88) :
    Calls Try.prog 136 #[.agg cs, .int .i64 (s : Int)] w fun e w' => ∃ u, e = .returned u ∧ Own .i64 141 w' w.heap.size u (ints (nsq g s)) ∧ w.grownBy w' none := by
  have hgr := World.grownBy_alloc w (.cells cs 135 (0, 0)) none
  have hg2 := World.grownBy_alloc (w.alloc (.cells cs 135 (0, 0))) (.cells #[] 141 (0, 0)) none
  have hg3 := World.grownBy_alloc ((w.alloc (.cells cs 135 (0, 0))).alloc (.cells #[] 141 (0, 0))) (.cells fns 159 (0, 0)) none
  have ho := (own_empty (k := .i64) (E := 141) (w.alloc (.cells cs 135 (0, 0)))).grown hg3
  have hf := box_new ((w.alloc (.cells cs 135 (0, 0))).alloc (.cells #[] 141 (0, 0))) fns 159
  simp only [World.size_alloc] at ho hf
  have hq : NS w (((w.alloc (.cells cs 135 (0, 0))).alloc (.cells #[] 141 (0, 0))).alloc (.cells fns 159 (0, 0))) cs (.slice (some ⟨w.heap.size + 1, 0, none⟩) 0 0) [] :=
    ⟨ho, ((box_new w cs 135).grown hg2).grown hg3, hf, by simp [Value.ownBlock], grownN_trans hgr (grownN_trans hg2 hg3)⟩
  have HQ := Lib.hid hq
  have HCS := Lib.hid hcs
  have HGL := Lib.hid hg
  obtain ⟨i0, hi, hz0, hz1, hz2⟩ := info_parts info_sq
  clear hgr hg2 hg3 ho hf hq hcs hg
  go_enter Try.func136, Try.ntmps136
  go_wp2_with fail
  refine (sides_any _).mono ?_
  rintro e w' ⟨rfl, rfl⟩
  simp only [World.size_alloc]
  generalize ((w.alloc (.cells cs 135 (0, 0))).alloc (.cells #[] 141 (0, 0))).alloc (.cells fns 159 (0, 0)) = W1 at *
  go_wp2_with fail
  go_loopw [5, 12] (fun v i wr => ∃ j : Nat, j ≤ 4 ∧ i = .int .i64 j ∧ Hid (NS w wr cs v (nsqTo g s j))) (fun _ i _ => 4 - (intOf i).toNat)
  case atStart => exact ⟨0, by omega, rfl, HQ.out⟩
  case round =>
    obtain ⟨j, hj, rfl, HN⟩ := hrel
    by_cases hlt : j < 4
    · obtain ⟨t, ht⟩ : ∃ t, t = beside j s := ⟨_, rfl⟩
      have ht99 : t ≤ 99 := by rw [ht]; unfold beside; split <;> (try split) <;> (try split) <;> omega
      obtain ⟨x, hx⟩ : ∃ x, x = g.getD t 0 := ⟨_, rfl⟩
      have cg : wr.cell? ⟨w.heap.size, 1 + t, none⟩ = some (.int .u8 x) := by rw [HN.out.grid.cell, HCS.out, hx]; exact gcells_s HGL.out (by omega)
      have hbase : w.heap.size + 1 ≤ wr.heap.size := HN.out.grid.lt
      have hxl : (ints (nsqTo g s j)).length ≤ 4 := by have := nsqTo_len g s j; simp [ints]; omega
      have hone : x ≠ 2 → ints (nsqTo g s j) ++ [(t : Int)] = ints (nsqTo g s (j + 1)) := fun h => by
        simp only [nsqTo, ints, List.map_append]; congr 1; unfold side1 opn; rw [← ht, ← hx, if_pos (by simpa using h)]; rfl
      have hnone : x = 2 → nsqTo g s j = nsqTo g s (j + 1) := fun h => by
        simp only [nsqTo]; unfold side1 opn; rw [← ht, ← hx, if_neg (by simpa using h)]; simp
      have HT := Lib.hid ht
      have H1 := Lib.hid hone
      obtain ⟨f, hf⟩ : ∃ f, f = fnOf j := ⟨_, rfl⟩
      have cf : wr.cell? ⟨w.heap.size + 2, j, none⟩ = some (.func (.func f) #[] #[]) := by
        rw [HN.out.fns.cell, hf]
        obtain rfl | rfl | rfl | rfl : j = 0 ∨ j = 1 ∨ j = 2 ∨ j = 3 := by omega
        · rfl
        · rfl
        · rfl
        · rfl
      have hen : (callFunc f #[.int .i64 (s : Int)]).run Try.prog wr = .ok (.enter f #[.int .i64 (s : Int)]) wr := by rw [hf]; exact fn_enters hlt _ _
      have HF := Lib.hid hf
      clear ht hx hone hf
      go_wp2_with fail
      rw [HF.out]
      refine (side_any wr j s hlt (by omega) (by omega)).mono ?_
      rintro e w2 ⟨rfl, rfl⟩
      rw [← HF.out, ← HT.out]
      by_cases hx2 : x = 2
      · have H0 : Hid (NS w wr cs u5 (nsqTo g s (j + 1))) := by have := HN.out; rwa [hnone hx2] at this
        clear hnone
        subst hx2
        go_wp2_with fail
        go_roundw
        case rel => exact ⟨j + 1, by omega, by go_num, H0.out⟩
        case measure => simp [intOf]; omega
      · clear hnone
        have hxb : (x == 2) = false := by simpa using hx2
        have H1 := Lib.hid (H1.out hx2)
        go_wp2_with (at_builtin; go_loud (refine wpList_append_one_at _ rfl _ _ 137 rfl (w.heap.size + 1) 141 i0 (.int .i64 0) 8 Try.underlying137 hi hz0 hz1 hz2 rfl .i64 _ (ints (nsqTo g s j)) rfl HN.out.own (t : Int) rfl (i64_mk (by omega)) (by omega) (by decide) hbase ?_); intro v3 w3 hown3 hgrow3 hpl3; have HN2 := Lib.hid (HN.out.more (M := nsqTo g s (j + 1)) (by rw [← H1.out]; exact hown3) hgrow3 hpl3); clear hown3 hgrow3 hpl3)
        go_roundw
        case rel => exact ⟨j + 1, by omega, by go_num, HN2⟩
        case measure => simp [intOf]; omega
    · have hj4 : j = 4 := by omega
      have HN2 : Hid (NS w wr cs u5 (nsq g s)) := by have := HN.out; rwa [hj4, nsqTo_4] at this
      go_wp2_with fail
      go_ret
      exact ⟨_, rfl, HN2.out.own.lower (by omega), HN2.out.grown⟩
end Go.Proofs.Ytfcjbkagofccdaa.GrI

/- The program's search in memory: its grid, its queue, its marks; plain facts. -/
namespace Go.Proofs.Ytfcjbkagofccdaa.Sr
open Go.RowKit Kit Rw Ld Gr GrI Bfs

def scells (p : Nat) (g : List Int) (qv : Value) (M : List Int) : Array Value := ((Value.int .i64 (p : Int) :: g.map (Value.int .u8)) ++ qv :: M.map (Value.int .i64)).toArray
section
variable {p : Nat} {g M : List Int} {qv : Value}
theorem scells_size (hg : g.length = 100) (hM : M.length = 100) : (scells p g qv M).size = 202 := by simp [scells, hg, hM]
theorem scells_g (j : Nat) (v : Value) (h : (gcells p g)[j]? = some v) : (scells p g qv M)[j]? = some v := by
  simp only [gcells, scells, List.getElem?_toArray] at h ⊢
  rw [List.getElem?_append_left]
  · exact h
  · exact (List.getElem?_eq_some_iff.1 h).1
theorem scells_q (hg : g.length = 100) : (scells p g qv M)[101]? = some qv := by
  simp only [scells, List.getElem?_toArray]
  rw [List.getElem?_append_right (by simp [hg])]
  simp [hg]
theorem scells_m (hg : g.length = 100) (hM : M.length = 100) {s : Nat} (hs : s < 100) : (scells p g qv M)[102 + s]? = some (.int .i64 (M.getD s 0)) := by
  simp only [scells, List.getElem?_toArray]
  rw [List.getElem?_append_right (by simp [hg]; omega)]
  simp only [List.length_cons, List.length_map, hg, show 102 + s - (100 + 1) = s + 1 by omega, List.getElem?_cons_succ]
  exact getD_map (by omega)
theorem scells_setq (hg : g.length = 100) (v : Value) : (scells p g qv M).setIfInBounds 101 v = scells p g v M := by
  simp only [scells, List.setIfInBounds_toArray]
  rw [List.set_append, if_neg (by simp [hg])]
  simp [hg]
theorem scells_setm (hg : g.length = 100) (s : Nat) (x : Int) : (scells p g qv M).setIfInBounds (102 + s) (.int .i64 x) = scells p g qv (M.set s x) := by
  simp only [scells, List.setIfInBounds_toArray]
  rw [List.set_append, if_neg (by simp [hg]; omega)]
  simp only [List.length_cons, List.length_map, hg, show 102 + s - (100 + 1) = s + 1 by omega, List.set_cons_succ, List.map_set]
end

/-- The search in block b. -/
structure SB (w : World) (b p : Nat) (g : List Int) (qv : Value) (Q M : List Int) : Prop where
  box : Box w b (scells p g qv M) 140
  own : Own .i64 141 w (b + 1) qv Q
  gl : g.length = 100
  ml : M.length = 100
section
variable {w w' : World} {b p : Nat} {g Q Q' M : List Int} {qv qv' : Value}
theorem SB.on (h : SB w b p g qv Q M) (hg : w.grownBy w' none) : SB w' b p g qv Q M := ⟨h.box.grown hg, h.own.grown hg, h.gl, h.ml⟩
theorem SB.part (h : SB w b p g qv Q M) : ∀ j v, (gcells p g)[j]? = some v → w.cell? ⟨b, 0 + j, none⟩ = some v := fun j v hv => by
  rw [Nat.zero_add, h.box.cell]; exact scells_g j v hv
theorem SB.q (h : SB w b p g qv Q M) : w.cell? ⟨b, 101, none⟩ = some qv := by rw [h.box.cell]; exact scells_q h.gl
theorem SB.m (h : SB w b p g qv Q M) {s : Nat} (hs : s < 100) : w.cell? ⟨b, 102 + s, none⟩ = some (.int .i64 (M.getD s 0)) := by rw [h.box.cell]; exact scells_m h.gl h.ml hs
theorem SB.put (h : SB w b p g qv Q M) (s : Nat) (x : Int) : SB (w.setCell ⟨b, 102 + s, none⟩ (.int .i64 x)) b p g qv Q (M.set s x) :=
  ⟨by have := box_set h.box (102 + s) (.int .i64 x); rwa [scells_setm h.gl] at this, h.own.set (Nat.lt_succ_self _) _ _, h.gl, by simp [h.ml]⟩
/-- Behind an append to the queue, and its store. -/
theorem SB.push (h : SB w b p g qv Q M) (ho : Own .i64 141 w' (b + 1) qv' Q') (hg : w.grownBy w' qv.ownBlock) : SB (w'.setCell ⟨b, 101, none⟩ qv') b p g qv' Q' M :=
  ⟨by have := box_set (h.box.kept hg (h.own.off (Nat.lt_succ_self _))) 101 qv'; rwa [scells_setq h.gl] at this, ho.set (Nat.lt_succ_self _) _ _, h.gl, h.ml⟩
theorem SB.below (h : SB w b p g qv Q M) (hg : w.grownBy w' qv.ownBlock) (v : Value) (o : Nat) : Below b w (w'.setCell ⟨b, o, none⟩ v) :=
  ((Below.refl b w).grown hg (Nat.le_of_lt h.box.lt) (fun k hk => by have := h.own.lt k hk; omega)).setCell (Nat.le_refl _) v
/-- The queue, emptied. -/
theorem Own.cut0 {k : IntKind} {E : TypeId} {w : World} {base : Nat} {a : Option Addr} {n c : Nat} {L : List Int} (h : Own k E w base (.slice a n c) L) : Own k E w base (.slice a 0 c) [] := by
  obtain ⟨⟨h1, h2⟩, h3⟩ := h
  refine ⟨⟨by simp, ?_⟩, by simp⟩
  rcases h2 with ⟨e, hn⟩ | ⟨g, cap, cur, e, hb, hg, hnc, hcm, hcs, ht⟩
  · injection e with e1 e2 e3
    subst e1; subst e3
    exact .inl ⟨rfl, rfl⟩
  · injection e with e1 e2 e3
    subst e1; subst e3
    exact .inr ⟨g, _, cur, rfl, hb, hg, Nat.zero_le _, hcm, hcs, by simp⟩
end
/-- What the marks say. -/
structure Marks (p : Nat) (X M d : List Int) : Prop where
  len : d.length = X.length
  at_ : ∀ n : Nat, n < X.length → M.getD (sq p n) 0 = at' d (n : Int) + 1
theorem Marks.set {p h : Nat} {X M d : List Int} (hm : Marks p X M d) (hp : 1 ≤ p ∧ p ≤ 8) (hh : h ≤ 8) (hL : X.length = p * h) (hM : M.length = 100) {n : Nat} (hn : n < X.length) (x : Int) : Marks p X (M.set (sq p n) (x + 1)) (d.set n x) := by
  refine ⟨by simp [hm.len], fun k hk => ?_⟩
  have hb := sq_lt hp hh (show n < p * h by omega)
  have e2 := at_set (d := d) (n := (n : Int)) (m := (k : Int)) (v := x) (by omega) (by rw [hm.len]; omega) (by omega)
  rw [Int.toNat_natCast] at e2
  rw [e2, List.getD_eq_getElem?_getD, List.getElem?_set]
  by_cases e : sq p n = sq p k
  · have := sq_inj hp e
    subst this
    rw [if_pos rfl, if_pos (by omega), if_pos rfl]; rfl
  · rw [if_neg e, ← List.getD_eq_getElem?_getD, if_neg (fun e' => e (by rw [show k = n by omega])), hm.at_ k hk]
/-- The cells' squares. -/
def sqs (p : Nat) (q : List Int) : List Int := q.map (fun n : Int => ((sq p n.toNat : Nat) : Int))
theorem sqs_add (p : Nat) (q : List Int) (n : Nat) : sqs p (q ++ [(n : Int)]) = sqs p q ++ [((sq p n : Nat) : Int)] := by simp [sqs]
theorem sqs_at {p : Nat} {q : List Int} {i : Nat} (hi : i < q.length) : (sqs p q).getD i 0 = ((sq p (q.getD i 0).toNat : Nat) : Int) := by simp [sqs, hi]
theorem search_info : (Try.prog.info? 140).map (fun i => (i.zero, i.size)) = some (some (.agg (scells 0 (List.replicate 100 0) (.slice none 0 0) (List.replicate 100 0))), 202) := by kernel_rfl
/-- The marks, cleared. -/
theorem SB.clears {w : World} {b p : Nat} {g Q M : List Int} {qv : Value} (h : SB w b p g qv Q M) : SB (w.setCells b 102 (List.replicate 100 (.int .i64 0))) b p g qv Q (List.replicate 100 0) ∧ w.grownBy (w.setCells b 102 (List.replicate 100 (.int .i64 0))) (some b) := by
  have step : ∀ (k s : Nat) (w : World) (M : List Int), SB w b p g qv Q M → s + k = 100 → SB (w.setCells b (102 + s) (List.replicate k (.int .i64 0))) b p g qv Q (M.take s ++ List.replicate k 0) ∧ w.grownBy (w.setCells b (102 + s) (List.replicate k (.int .i64 0))) (some b) := by
    intro k
    induction k with
    | zero =>
      intro s w M h hs
      refine ⟨?_, World.grownBy.refl _ _⟩
      have : M.take s ++ List.replicate 0 0 = M := by simp only [List.replicate_zero, List.append_nil]; exact List.take_of_length_le (by rw [h.ml]; omega)
      rw [this]; exact h
    | succ k ih =>
      intro s w M h hs
      have h1 := h.put s 0
      obtain ⟨h2, h3⟩ := ih (s + 1) _ _ h1 (by omega)
      rw [List.replicate_succ]
      refine ⟨?_, ?_⟩
      · have e : M.take s ++ (0 :: List.replicate k 0) = (M.set s 0).take (s + 1) ++ List.replicate k 0 := by
          have : s < M.length := by rw [h.ml]; omega
          apply List.ext_getElem?
          intro i
          simp only [List.getElem?_append, List.length_take, List.length_set, List.getElem?_take, List.getElem?_set]
          have hm : min s M.length = s := by omega
          have hm2 : min (s + 1) M.length = s + 1 := by omega
          rw [hm, hm2]
          by_cases c1 : i < s
          · have h1' : i < s + 1 := by omega
            have h2' : ¬ s = i := by omega
            simp [c1, h1', h2']
          · by_cases c2 : i = s
            · subst c2
              simp [this]
            · have h1' : ¬ i < s + 1 := by omega
              rw [show i - s = (i - (s + 1)) + 1 by omega]; simp [c1, h1']
        rw [List.replicate_succ (n := k) (a := (0 : Int)), e]
        exact h2
      · exact grown_trans (grown_set w b (102 + s) (.int .i64 0)) h3
  have := step 100 0 w M h (by omega)
  simpa using this
end Go.Proofs.Ytfcjbkagofccdaa.Sr

/- Contracts of the program's searchIn and daysTo. -/
namespace Go.Proofs.Ytfcjbkagofccdaa.Sr
open Go.RowKit Kit Rw Ld Gr GrI Bfs

theorem fold_set (l : List Value) : ∀ (k : Nat) (z : Array Value), k + l.length ≤ z.size → (l.zipIdx k).foldl (fun cs (x : Value × Nat) => cs.setIfInBounds (0 + x.2) x.1) z = (z.toList.take k ++ l ++ z.toList.drop (k + l.length)).toArray := by
  induction l with
  | nil => intro k z h; simp
  | cons v l ih =>
    intro k z h
    simp only [List.length_cons] at h
    rw [List.zipIdx_cons, List.foldl_cons, ih (k + 1) _ (by simp; omega)]
    congr 1
    simp only [Array.toList_setIfInBounds, List.length_cons, Nat.zero_add]
    have hk : k < z.toList.length := by simp; omega
    rw [List.take_set, List.drop_set_of_lt (by omega), show k + 1 + l.length = k + (l.length + 1) by omega, List.take_succ_eq_append_getElem hk, List.set_append, if_neg (by simp; omega)]
    simp only [List.length_take]
    rw [show k - min k z.toList.length = 0 by omega, List.set_cons_zero]
    simp
theorem search_cells {p : Nat} {g : List Int} (hg : g.length = 100) : (gcells p g).zipIdx.foldl (fun cs x => cs.setIfInBounds x.snd x.fst) Try.zeroCells140 = scells p g (.slice none 0 0) (List.replicate 100 0) := by
  have hz : Try.zeroCells140 = scells 0 (List.replicate 100 0) (.slice none 0 0) (List.replicate 100 0) := by kernel_rfl
  have hsz : (gcells p g).size = 101 := gcells_size hg
  have hzs := scells_size (p := 0) (g := List.replicate 100 0) (qv := .slice none 0 0) (M := List.replicate 100 0) (by simp) (by simp)
  rw [hz, ← Array.foldl_toList, Array.toList_zipIdx]
  have := fold_set (gcells p g).toList 0 (scells 0 (List.replicate 100 0) (.slice none 0 0) (List.replicate 100 0)) (by rw [Array.length_toList, hsz, hzs]; omega)
  simp only [Nat.zero_add] at this
  refine Eq.trans this ?_
  simp only [Array.length_toList, hsz, List.take_zero, List.nil_append]
  simp only [gcells, scells]
  rw [List.drop_append, List.drop_of_length_le (by simp)]
  simp
theorem searchIn_any (w : World) (p : Nat) (H : Int) (v : Value) (X : List Int) (hv : Sees .i64 w v X) (hL : isLand p H X = true) :
    Calls Try.prog 98 #[.agg #[.int .i64 (p : Int), .int .i64 H, v]] w fun e w' => ∃ b, e = .returned (.pointer (some ⟨b, 0, none⟩)) ∧ w.heap.size ≤ b ∧ SB w' b p (grid p X) (.slice none 0 0) [] (List.replicate 100 0) ∧ w.grownBy w' none := by
  have hgr := World.grownBy_alloc w (.cells #[.int .i64 (p : Int), .int .i64 H, v] 50 (0, 0)) none
  have HG := Lib.hid hgr
  have HV := Lib.hid (hv.grown hgr)
  have HB := Lib.hid (box_new w #[.int .i64 (p : Int), .int .i64 H, v] 50)
  have HL := Lib.hid hL
  obtain ⟨c0, c1, c2⟩ := HB.out.three
  clear hv hgr hL
  go_enter Try.func98, Try.ntmps98
  go_wp2_with fail
  refine (gridOf_any _ p H _ X HV.out HL.out).mono ?_
  rintro e w2 ⟨rfl, hg⟩
  have HG2 := Lib.hid (grownN_trans HG.out hg)
  have hb := search_cells (p := p) (grid_len p X)
  have hsz : (gcells p (grid p X)).size = 101 := gcells_size (grid_len p X)
  obtain ⟨cs, hcs⟩ : ∃ cs, cs = gcells p (grid p X) := ⟨_, rfl⟩
  rw [← hcs] at hb hsz ⊢
  rw [show cs.zipIdx.size = 101 by simp [hsz]] at hb
  have HBB := Lib.hid hb
  clear hg c0 c1 c2 hcs hb
  go_wp2_with fail
  go_ret
  rw [HBB.out]
  refine ⟨w2.heap.size, rfl, HG2.out.size, ⟨box_new _ _ _, own_nil _ _, grid_len _ _, by simp⟩, grownN_trans HG2.out (World.grownBy_alloc _ _ none)⟩
end Go.Proofs.Ytfcjbkagofccdaa.Sr

/- Contract of the program's daysTo. -/
namespace Go.Proofs.Ytfcjbkagofccdaa.Sr
open Go.RowKit Kit Rw Ld Gr GrI Bfs

set_option maxRecDepth 100000 in
set_option maxHeartbeats 4000000 in
theorem daysTo_any (w : World) (b p n : Nat) (g Q M : List Int) (qv : Value) (k : Int) (hS : SB w b p g qv Q M) (hp : 1 ≤ p ∧ p ≤ 8) (hn : n < 64) (hs : sq p n < 100) (hk : M.getD (sq p n) 0 = k + 1) (hkb : -1 ≤ k ∧ k ≤ 100) :
    Calls Try.prog 100 #[.pointer (some ⟨b, 0, none⟩), .int .i64 (n : Int)] w fun e w' => e = .returned (.int .i64 k) ∧ w.grownBy w' none := by
  have hdr := grown_drew (World.grownBy.refl w none)
  have HQ := Lib.hid (hS.on hdr)
  have HR := Lib.hid hdr
  obtain ⟨s, hss⟩ : ∃ s, s = sq p n := ⟨_, rfl⟩
  obtain ⟨cs, hcs⟩ : ∃ cs, cs = gcells p g := ⟨_, rfl⟩
  have hsz : cs.size = 101 := by rw [hcs]; exact gcells_size hS.gl
  have hm := HQ.out.m hs
  rw [hk, ← hss] at hm
  rw [← hss] at hs
  have HCS := Lib.hid hcs
  have HSS := Lib.hid hss
  have HM := Lib.hid hm
  have HP := Lib.hid hp
  obtain ⟨hk0, hk1⟩ := hkb
  have hw1 : IntKind.i64.wrap (k + 1 - 1) = k := by rw [show k + 1 - 1 = k by omega]; exact IntWalk.i64_in _ (by omega)
  have hw2 : k + 1 - 1 = k := by omega
  have hw3 : IntKind.i64.wrap k = k := IntWalk.i64_in _ (by omega)
  have hsi : (s : Int) < 100 := by omega
  clear hS hdr hcs hss hk hm hp
  go_enter Try.func100, Try.ntmps100
  go_wp2_with fail
  refine wp_region_held_drew (S := fun w' => Hid (SB w' b p g qv Q M) ∧ w'.cell? ⟨b, 102 + s, none⟩ = some (.int .i64 (k + 1))) (by kernel_rfl) ⟨HQ, HM.out⟩ (fun hHeld => ?_)
  refine wpAnyH_take (i := 0) (v := ?_) rfl (by kernel_rfl) (by kernel_rfl) (by kernel_rfl) (fun _ _ _ h => h) (Or.inl ⟨by rfl, ?_⟩) (by assumption) ?_; rotate_left; (focus (intro wS hSw; (try dsimp only at hSw); go_simp <;> with_reducible rfl)); (try simp only [Act.put, List.getElem_toArray, List.getElem_cons_succ, List.getElem_cons_zero, List.setIfInBounds_toArray, List.set_cons_zero, List.set_cons_succ])
  refine wpAnyH_take (i := 1) (v := ?_) rfl (by kernel_rfl) (by kernel_rfl) (by kernel_rfl) (fun _ _ _ h => h) (Or.inl ⟨by rfl, ?_⟩) (by assumption) ?_; rotate_left; (focus (intro wS hSw; (try dsimp only at hSw); go_simp <;> with_reducible rfl)); (try simp only [Act.put, List.getElem_toArray, List.getElem_cons_succ, List.getElem_cons_zero, List.setIfInBounds_toArray, List.set_cons_zero, List.set_cons_succ])
  refine wpAnyH_take (i := 2) (v := ?_) rfl (by kernel_rfl) (by kernel_rfl) (by kernel_rfl) (fun _ _ _ h => h) (Or.inl ⟨by rfl, ?_⟩) (by assumption) ?_; rotate_left; (focus (intro wS hSw; (try dsimp only at hSw); go_simp <;> with_reducible rfl)); (try simp only [Act.put, List.getElem_toArray, List.getElem_cons_succ, List.getElem_cons_zero, List.setIfInBounds_toArray, List.set_cons_zero, List.set_cons_succ])
  refine wpAnyH_take (i := 3) (v := ?_) rfl (by kernel_rfl) (by kernel_rfl) (by kernel_rfl) (fun _ _ _ h => h) (Or.inl ⟨by rfl, ?_⟩) (by assumption) ?_; rotate_left; (focus (intro wS hSw; (try dsimp only at hSw); go_simp <;> with_reducible rfl)); (try simp only [Act.put, List.getElem_toArray, List.getElem_cons_succ, List.getElem_cons_zero, List.setIfInBounds_toArray, List.set_cons_zero, List.set_cons_succ])
  refine wpAnyH_take (i := 4) (v := .agg cs) rfl (by kernel_rfl) (by kernel_rfl) (by kernel_rfl) (fun _ _ _ h => h) (Or.inl ⟨by rfl, ?_⟩) (by assumption) ?_
  · intro wS hSw; (try dsimp only at hSw); exact exec_load_part 135 _ rfl b 0 rfl cs _ (by rw [HCS.out]; exact hSw.1.out.part) Try.underlying135 rfl (grid_size hsz)
  (try simp only [Act.put, List.getElem_toArray, List.getElem_cons_succ, List.getElem_cons_zero, List.setIfInBounds_toArray, List.set_cons_zero, List.set_cons_succ])
  refine wpAnyH_take (i := 5) (v := ?_) rfl (by kernel_rfl) (by kernel_rfl) (by kernel_rfl) (fun _ _ _ h => h) (Or.inl ⟨by rfl, ?_⟩) (by assumption) ?_; rotate_left; (focus (intro wS hSw; (try dsimp only at hSw); go_simp <;> with_reducible rfl)); (try simp only [Act.put, List.getElem_toArray, List.getElem_cons_succ, List.getElem_cons_zero, List.setIfInBounds_toArray, List.set_cons_zero, List.set_cons_succ])
  refine wpAnyH_take (i := 7) (v := ?_) rfl (by kernel_rfl) (by kernel_rfl) (by kernel_rfl) (fun _ _ _ h => h) (Or.inl ⟨by rfl, ?_⟩) (by assumption) ?_; rotate_left; (focus (intro wS hSw; (try dsimp only at hSw); go_simp <;> with_reducible rfl)); (try simp only [Act.put, List.getElem_toArray, List.getElem_cons_succ, List.getElem_cons_zero, List.setIfInBounds_toArray, List.set_cons_zero, List.set_cons_succ])
  refine wpAnyH_take (i := 8) (v := ?_) rfl (by kernel_rfl) (by kernel_rfl) (by kernel_rfl) (fun _ _ _ h => h) (Or.inl ⟨by rfl, ?_⟩) (by assumption) ?_; rotate_left; (focus (intro wS hSw; (try dsimp only at hSw); go_simp <;> with_reducible rfl)); (try simp only [Act.put, List.getElem_toArray, List.getElem_cons_succ, List.getElem_cons_zero, List.setIfInBounds_toArray, List.set_cons_zero, List.set_cons_succ])
  refine wpAnyH_ready (rs := [6]) (by kernel_rfl) (by simp) ?_; refine AllReadyH.cons rfl (fun K hK => ?_) AllReadyH.nil; go_simp; (go_at_call 123; refine (squareOf_any _ p n cs HP.out hn (by rw [HCS.out]; rfl)).mono ?_; rintro e w5 ⟨rfl, hg5⟩; rw [← HSS.out]; have HQ5 := Lib.hid (HQ.out.on hg5); have HR5 := Lib.hid (grownN_trans HR.out hg5); have HM5 := Lib.hid (hg5.cell HM.out (by simp)); clear hg5)
  refine hK.out _ _ ?_ (fun hHeld => ?_)
  · exact ⟨HQ5, HM5.out⟩
  clear hK K
  (try simp only [Act.put, List.getElem_toArray, List.getElem_cons_succ, List.getElem_cons_zero, List.setIfInBounds_toArray, List.set_cons_zero, List.set_cons_succ])
  refine wpAnyH_take (i := 9) (v := ?_) rfl (by kernel_rfl) (by kernel_rfl) (by kernel_rfl) (fun _ _ _ h => h) (Or.inl ⟨by rfl, ?_⟩) (by assumption) ?_; rotate_left; (focus (intro wS hSw; (try dsimp only at hSw); go_simp <;> with_reducible rfl)); (try simp only [Act.put, List.getElem_toArray, List.getElem_cons_succ, List.getElem_cons_zero, List.setIfInBounds_toArray, List.set_cons_zero, List.set_cons_succ])
  refine wpAnyH_take (i := 10) (v := ?_) rfl (by kernel_rfl) (by kernel_rfl) (by kernel_rfl) (fun _ _ _ h => h) (Or.inl ⟨by rfl, ?_⟩) (by assumption) ?_; rotate_left; (focus (intro wS hSw; (try dsimp only at hSw); go_simp <;> with_reducible rfl)); (try simp only [Act.put, List.getElem_toArray, List.getElem_cons_succ, List.getElem_cons_zero, List.setIfInBounds_toArray, List.set_cons_zero, List.set_cons_succ])
  refine wpAnyH_take (i := 11) (v := ?_) rfl (by kernel_rfl) (by kernel_rfl) (by kernel_rfl) (fun _ _ _ h => h) (Or.inl ⟨by rfl, ?_⟩) (by assumption) ?_; rotate_left; (focus (intro wS hSw; (try dsimp only at hSw); go_simp <;> with_reducible rfl)); (try simp only [Act.put, List.getElem_toArray, List.getElem_cons_succ, List.getElem_cons_zero, List.setIfInBounds_toArray, List.set_cons_zero, List.set_cons_succ])
  refine wpAnyH_take (i := 12) (v := ?_) rfl (by kernel_rfl) (by kernel_rfl) (by kernel_rfl) (fun _ _ _ h => h) (Or.inl ⟨by rfl, ?_⟩) (by assumption) ?_; rotate_left; (focus (intro wS hSw; (try dsimp only at hSw); go_simp <;> with_reducible rfl)); (try simp only [Act.put, List.getElem_toArray, List.getElem_cons_succ, List.getElem_cons_zero, List.setIfInBounds_toArray, List.set_cons_zero, List.set_cons_succ])
  refine wpAnyH_done (by kernel_rfl) ?_ _
  (try simp only [Act.put, List.getElem_toArray, List.getElem_cons_succ, List.getElem_cons_zero, List.setIfInBounds_toArray, List.set_cons_zero, List.set_cons_succ])
  go_wp2
  go_ret
  exact ⟨rfl, HR5.out⟩
end Go.Proofs.Ytfcjbkagofccdaa.Sr

/- Contract of the program's spread: from one cell of the queue to those near it. -/
namespace Go.Proofs.Ytfcjbkagofccdaa.Sr
open Go.RowKit Kit Rw Ld Gr GrI Bfs

/-- Where spread stands: the search, what is near, what has not been written. -/
structure SN (w wr : World) (b p : Nat) (g : List Int) (qv : Value) (Q M : List Int) (u : Value) (N : List Nat) : Prop where
  sb : SB wr b p g qv Q M
  row : Own .i64 141 wr (b + 1) u (ints N)
  apart : u.ownBlock = none ∨ u.ownBlock ≠ qv.ownBlock
  below : Below b w wr
section
variable {w wr wy : World} {b p : Nat} {g Q Q' M : List Int} {qv qv' u : Value} {N : List Nat}
theorem SN.on (h : SN w wr b p g qv Q M u N) (hg : wr.grownBy wy none) : SN w wy b p g qv Q M u N :=
  ⟨h.sb.on hg, h.row.grown hg, h.apart, h.below.grown hg (Nat.le_of_lt h.sb.box.lt) (fun _ h => by cases h)⟩
theorem SN.put (h : SN w wr b p g qv Q M u N) (s : Nat) (x : Int) : SN w (wr.setCell ⟨b, 102 + s, none⟩ (.int .i64 x)) b p g qv Q (M.set s x) u N :=
  ⟨h.sb.put s x, h.row.set (Nat.lt_succ_self _) _ _, h.apart, h.below.setCell (Nat.le_refl _) _⟩
theorem SN.push (h : SN w wr b p g qv Q M u N) (ho : Own .i64 141 wy (b + 1) qv' Q') (hg : wr.grownBy wy qv.ownBlock) (hl : qv'.ownBlock = qv.ownBlock ∨ ∃ c, qv'.ownBlock = some c ∧ wr.heap.size ≤ c) : SN w (wy.setCell ⟨b, 101, none⟩ qv') b p g qv' Q' M u N := by
  refine ⟨h.sb.push ho hg, (h.row.kept hg h.apart).set (Nat.lt_succ_self _) _ _, ?_, h.below.trans (h.sb.below hg _ _)⟩
  rcases hl with hl | ⟨c, hl, hle⟩
  · rw [hl]; exact h.apart
  · rw [hl]
    cases hu : u.ownBlock with
    | none => exact .inl rfl
    | some e => have := h.row.lt e hu; exact .inr (fun e' => by injection e' with e'; omega)
end

set_option maxRecDepth 100000 in
set_option maxHeartbeats 4000000 in
theorem spread_any (w : World) (b p h : Nat) (X : List Int) (a D : Int) (i cn : Nat) (d q M : List Int) (qv : Value) (hS : SB w b p (grid p X) qv (sqs p q) M) (hM : Marks p X M d) (hI : Inv p X a i d q) (hi : i < q.length) (hL : isLand p h X = true) (hcn : q.getD i 0 = (cn : Int)) (hD : at' d cn + 1 ≤ D) (hC : ∀ n ∈ q, at' d n ≤ D) :
    Calls Try.prog 124 #[.pointer (some ⟨b, 0, none⟩), .int .i64 ((sq p cn : Nat) : Int)] w fun e w' => e = .returned (.tuple #[]) ∧ ∃ qv' d' q' M', SB w' b p (grid p X) qv' (sqs p q') M' ∧ Marks p X M' d' ∧ Inv p X a (i + 1) d' q' ∧ (∀ n ∈ q', at' d' n ≤ D) ∧ Below b w w' := by
  obtain ⟨hp, hH, hLen, _⟩ := isLand_of hL
  have hA := area hp hH
  have hxl : X.length = p * h := by exact_mod_cast hLen
  have hcl := hI.inq _ (mem_getD hi)
  rw [hcn] at hcl
  have HP : Hid ((1 ≤ p ∧ p ≤ 8) ∧ h ≤ 8 ∧ X.length = p * h ∧ cn < X.length ∧ X.length ≤ 64) := ⟨by omega, by omega, hxl, by omega, by omega⟩
  have HL := Lib.hid hL
  have HSQ := Lib.hid (sq_lt HP.out.1 HP.out.2.1 (show cn < p * h by have := HP.out; omega))
  obtain ⟨cs, hcs⟩ : ∃ cs, cs = gcells p (grid p X) := ⟨_, rfl⟩
  have hsz : cs.size = 101 := by rw [hcs]; exact gcells_size (grid_len _ _)
  have HCS := Lib.hid hcs
  have HS := Lib.hid hS
  have HM0 := Lib.hid hM
  have HI0 := Lib.hid hI
  have HQ0 : Hid (i < q.length ∧ q.getD i 0 = (cn : Int)) := ⟨hi, hcn⟩
  have HD0 := Lib.hid hD
  have HC0 := Lib.hid hC
  obtain ⟨i0, hi0, hz0, hz1, hz2⟩ := info_parts info_sq
  obtain ⟨s, hss⟩ : ∃ s, s = sq p cn := ⟨_, rfl⟩
  rw [← hss]
  have HSS := Lib.hid hss
  clear hp hH hLen hA hxl hcl hcs hS hM hI hi hL hcn hD hC hss
  go_enter Try.func124, Try.ntmps124
  go_wp2_with (refine wpList_load_part rfl 135 _ rfl b 0 rfl cs _ (by rw [HCS.out]; exact HS.out.part) Try.underlying135 rfl (grid_size hsz) ?_)
  refine (gnear_any w p s cs (grid p X) HCS.out (grid_len _ _) (by rw [HSS.out]; exact HSQ.out.1) (by rw [HSS.out]; exact HSQ.out.2)).mono ?_
  rintro e w1 ⟨u, rfl, ho, hg⟩
  obtain ⟨ua, un, uc, hu, HUN⟩ := ho.sees.shape
  subst hu
  have hle := HS.out.box.lt
  have HN0 : Hid (SN w w1 b p (grid p X) qv (sqs p q) M (.slice ua un uc) (nsq (grid p X) (sq p cn))) :=
    ⟨HS.out.on hg, by have := ho.lower (show b + 1 ≤ w.heap.size by omega); rwa [HSS.out] at this, (ho.apart HS.out.own (Nat.le_refl _)).1, (Below.refl b w).grown hg (Nat.le_of_lt hle) (fun _ h => by cases h)⟩
  have hun4 : un ≤ 4 := by have := HUN.out; have := nsq_len (grid p X) s; simp [ints] at *; omega
  have HUN2 : Hid ((nsq (grid p X) (sq p cn)).length = un) := by have := HUN.out; show _ = _; rw [← HSS.out]; simpa [ints] using this
  have HNR : Hid ((nsq (grid p X) (sq p cn)).map (fun t => ((cl p t : Nat) : Int)) = near p cn X) := nsq_near HP.out.1 HP.out.2.1 HP.out.2.2.1 HP.out.2.2.2.1
  clear ho hg hle HUN
  go_wp2_with fail
  go_loopw [13] (fun s13 wz => ∃ (k : Nat) (d2 q2 M2 : List Int) (qv2 : Value), k ≤ un ∧ s13 = .int .i64 k ∧ Hid (Inv p X a i d2 q2) ∧ Hid (Marks p X M2 d2) ∧ Hid (SN w wz b p (grid p X) qv2 (sqs p q2) M2 (.slice ua un uc) (nsq (grid p X) (sq p cn))) ∧ Hid (i < q2.length ∧ q2.getD i 0 = (cn : Int)) ∧ Hid (∀ j, j < k → 0 ≤ at' d2 ((near p cn X).getD j 0) ∧ at' d2 ((near p cn X).getD j 0) ≤ at' d2 cn + 1) ∧ Hid (∀ n ∈ q2, at' d2 n ≤ D) ∧ Hid (at' d2 cn + 1 ≤ D)) (fun s13 _ => un - (intOf s13).toNat)
  case atStart => exact ⟨0, d, q, M, qv, Nat.zero_le _, rfl, HI0, HM0, HN0, HQ0, (fun j hj => absurd hj (Nat.not_lt_zero _)), HC0, HD0⟩
  case round =>
    obtain ⟨k, d2, q2, M2, qv2, hk, rfl, HI4, HM4, HN4, HQ4, HE4, HC4, HD4⟩ := hrel
    clear HI0 HM0 HN0 HQ0 HC0 HD0 HS
    by_cases hkn : k < un
    · have hkN : k < (nsq (grid p X) (sq p cn)).length := by rw [HUN2.out]; exact hkn
      obtain ⟨t, ht⟩ : ∃ t, t = (nsq (grid p X) (sq p cn))[k] := ⟨_, rfl⟩
      have hin := nsq_mem HP.out.1 HP.out.2.1 HP.out.2.2.1 HP.out.2.2.2.1 (t := t) (by rw [ht]; exact List.getElem_mem hkN)
      have htb := sq_cl HP.out.1 hin
      simp only [inb, decide_eq_true_eq] at hin
      obtain ⟨r, hr⟩ : ∃ r, r = cl p t := ⟨_, rfl⟩
      rw [← hr] at htb hin
      have hrX : r < X.length := hin.2.2.2
      have ht2 := sq_lt HP.out.1 HP.out.2.1 (show r < p * h by rw [← HP.out.2.2.1]; exact hrX)
      rw [htb] at ht2
      have ht100 : t < 100 := by omega
      have hnk : (near p cn X).getD k 0 = (r : Int) := by
        rw [← HNR.out]; simp [hkN, ← ht, hr]
      have hmem : (r : Int) ∈ near p cn X := by rw [← hnk]; exact mem_getD (by rw [← HNR.out]; simpa using hkN)
      obtain ⟨ub, uo, rfl, hcj⟩ := HN4.out.row.sees.at_row (j := k) (by simp [ints]; exact hkN)
      have e1 : (ints (nsq (grid p X) (sq p cn))).getD k 0 = (t : Int) := by simp [ints, ht, hkN]
      rw [e1] at hcj
      have hs100 : s < 100 := by have := HSQ.out; rw [← HSS.out] at this; omega
      have hmt := HN4.out.sb.m ht100
      have hms := HN4.out.sb.m hs100
      have hzt : M2.getD t 0 = at' d2 (r : Int) + 1 := by rw [← htb]; exact HM4.out.at_ r hrX
      have hzs : M2.getD s 0 = at' d2 (cn : Int) + 1 := by rw [HSS.out]; exact HM4.out.at_ cn HP.out.2.2.2.1
      rw [hzt] at hmt
      rw [hzs] at hms
      obtain ⟨hiq, hqc⟩ := HQ4.out
      have hcb : 0 ≤ at' d2 cn ∧ at' d2 cn ≤ 64 := by
        have h1 := (HI4.out.inq (q2.getD i 0) (mem_getD hiq)).2.2
        have h2 := HI4.out.bnd i hiq
        have h3 := HI4.out.short
        rw [hqc] at h1 h2
        have := HP.out
        omega
      obtain ⟨hcb0, hcb1⟩ := hcb
      obtain ⟨z, hz⟩ : ∃ z, z = at' d2 (r : Int) + 1 := ⟨_, rfl⟩
      obtain ⟨y, hy⟩ : ∃ y, y = at' d2 (cn : Int) + 1 := ⟨_, rfl⟩
      rw [← hz] at hmt
      rw [← hy] at hms
      have hy1 : 1 ≤ y ∧ y ≤ 65 := by omega
      obtain ⟨hy1, hy65⟩ := hy1
      have hq64 : q2.length ≤ 64 := by have := HI4.out.short; have := HP.out; omega
      have hti : (t : Int) < 100 := by omega
      have hsi : (s : Int) < 100 := by omega
      have HT : Hid (sq p r = t ∧ r < X.length ∧ (near p cn X).getD k 0 = (r : Int) ∧ (r : Int) ∈ near p cn X) := ⟨htb, hrX, hnk, hmem⟩
      have HZ := Lib.hid hz
      have HY := Lib.hid hy
      have HQL := Lib.hid hq64
      have hqcell := HN4.out.sb.q
      have hfr := HN4.out.sb.box.free (102 + t)
      clear hkN ht hin htb hr hrX ht2 hnk hmem e1 hzt hzs hiq hqc hcb0 hcb1 hz hy hq64
      by_cases h0 : z = 0
      · subst h0
        have hw1 : IntKind.i64.wrap (y + 1) = y + 1 := IntWalk.i64_in _ (by omega)
        go_wp2_with fail
        refine wp_region_still_tail 12 (by kernel_rfl) (by kernel_rfl) ?_
        simp only [List.take_succ_cons, List.take_zero, List.drop_succ_cons, List.drop_zero]
        repeat still_step
        refine wpStill_nil ?_
        clear hw1
        have hgd0 := grown_drew (World.grownBy.refl (wr.setCell ⟨b, 102 + t, none⟩ (.int .i64 (y + 1))) none)
        have HNP := Lib.hid ((HN4.out.put t (y + 1)).on hgd0)
        have hcj2 : (wr.setCell ⟨b, 102 + t, none⟩ (.int .i64 (y + 1))).drew.cell? ⟨ub, uo + k, none⟩ = some (.int .i64 (t : Int)) := by
          have h1 := HN4.out.row.lt ub rfl
          exact hgd0.cell ((grown_set wr b (102 + t) (.int .i64 (y + 1))).cell hcj (by simp; omega)) (by simp)
        have hqcell2 := HNP.out.sb.q
        have hbase : b + 1 ≤ (wr.setCell ⟨b, 102 + t, none⟩ (.int .i64 (y + 1))).drew.heap.size := HNP.out.sb.box.lt
        have hqz : (wr.setCell ⟨b, 102 + t, none⟩ (.int .i64 (y + 1))).drew.heap.size = wr.heap.size := by simp [World.setCell, World.drew]
        clear hqcell hms hgd0 hcj
        go_wp2_with (at_builtin; go_loud (refine wpList_append_one_at _ rfl _ _ 137 rfl (b + 1) 141 i0 (.int .i64 0) 8 Try.underlying137 hi0 hz0 hz1 hz2 rfl .i64 _ (sqs p q2) rfl HNP.out.sb.own (t : Int) (by rw [hqz]; rfl) (i64_mk (by omega)) (by simp [sqs]; have := HQL.out; omega) (by decide) hbase ?_); intro v3 w3 hown3 hgrow3 hpl3; obtain ⟨va3, vn3, vc3, hv3, HV3⟩ := hown3.sees.shape; subst hv3; have hb3 := HNP.out.sb.box.kept hgrow3 (HNP.out.sb.own.off (Nat.lt_succ_self _)); have c3 := (hb3.cell 101).trans (scells_q (HNP.out.sb.gl)); have f3 := hb3.free 101; have HPU := Lib.hid (HNP.out.push hown3 hgrow3 hpl3); clear hown3 hgrow3 hpl3 hb3)
        go_roundw
        case rel =>
          have hd0 : at' d2 (r : Int) < 0 := by have := HZ.out; omega
          have hI := HI4.out.meet HL.out HQ4.out.1 (n := (r : Int)) (by rw [HQ4.out.2]; exact HT.out.2.2.2) hd0
          have hM := HM4.out.set HP.out.1 HP.out.2.1 HP.out.2.2.1 HN4.out.sb.ml HT.out.2.1 (at' d2 (cn : Int) + 1)
          rw [HT.out.1, ← HY.out] at hM
          rw [HQ4.out.2, Int.toNat_natCast, ← HY.out] at hI
          have hdl : d2.length = X.length := HI4.out.len
          have hrl := HT.out.2.1
          have hset : ∀ z : Int, 0 ≤ z → at' (d2.set r y) z = if z = (r : Int) then y else at' d2 z := fun z hz => by
            have := at_set (d := d2) (n := (r : Int)) (m := z) (v := y) (by omega) (by omega) hz
            rwa [Int.toNat_natCast] at this
          have hcne : (cn : Int) ≠ r := fun e => by rw [← e] at hd0; have := HY.out; omega
          have hcv : at' (d2.set r y) cn = at' d2 cn := by rw [hset cn (by omega), if_neg hcne]
          have hpu := HPU.out
          rw [show sqs p q2 ++ [(t : Int)] = sqs p (q2 ++ [(r : Int)]) by rw [sqs_add, HT.out.1]] at hpu
          refine ⟨k + 1, d2.set r y, q2 ++ [(r : Int)], M2.set t (y + 1), _, by omega, by go_num, hI, hM, hpu, ⟨by simp; have := HQ4.out.1; omega, by rw [getD_append_l HQ4.out.1]; exact HQ4.out.2⟩, fun j hj => ?_, fun n hn => ?_, by rw [hcv]; exact HD4.out⟩
          · rw [hcv]
            by_cases e : j = k
            · subst e
              rw [HT.out.2.2.1, hset r (by omega), if_pos rfl]
              have := HY.out
              omega
            · have h1 := HE4.out j (by omega)
              have hjl : j < (near p cn X).length := by rw [← HNR.out, List.length_map, HUN2.out]; omega
              have hz := near_in HL.out (by omega) (by have := HP.out.2.2.2.1; omega) (mem_getD (L := near p cn X) (j := j) hjl)
              rw [hset _ hz.1, if_neg (fun e => by rw [e] at h1; omega)]
              exact h1
          · rcases List.mem_append.1 hn with hn | hn
            · have h0 := (HI4.out.inq n hn)
              rw [hset n h0.1, if_neg (fun e => by rw [e] at h0; omega)]
              exact HC4.out n hn
            · simp at hn; subst hn
              rw [hset r (by omega), if_pos rfl]
              have := HD4.out; have := HY.out; omega
        case measure => simp [intOf]; omega
      · have hzb : (z == 0) = false := by simpa using h0
        go_wp2
        go_roundw
        case rel =>
          refine ⟨k + 1, d2, q2, M2, qv2, by omega, by go_num, HI4, HM4, HN4, HQ4, fun j hj => ?_, HC4, HD4⟩
          by_cases e : j = k
          · subst e
            rw [HT.out.2.2.1]
            have hrl := HT.out.2.1
            have h1 := HI4.out.low r (by omega) (by omega)
            have h2 : 0 ≤ at' d2 (r : Int) := by have := HZ.out; omega
            refine ⟨h2, ?_⟩
            obtain ⟨kk, hkk, hkv⟩ := mem_ix (HI4.out.known r (by omega) (by omega) h2)
            have := HI4.out.top HQ4.out.1 kk hkk
            rw [hkv, HQ4.out.2] at this
            exact this
          · exact HE4.out j (by omega)
        case measure => simp [intOf]; omega
    · have hkk : k = un := by omega
      have hnx := HI4.out.next HQ4.out.1 (fun n hn => by
        rw [HQ4.out.2] at hn ⊢
        obtain ⟨j, hj, e⟩ := mem_ix hn
        have := HE4.out j (by rw [← HNR.out, List.length_map, HUN2.out] at hj; omega)
        rwa [e] at this)
      have HX := Lib.hid hnx
      clear hnx
      go_wp2
      first | go_ret | go_end0 | refine bodyPost_ret (results_none rfl _ _ _) rfl ?_
      exact ⟨rfl, qv2, d2, q2, M2, HN4.out.sb, HM4.out, HX.out, HC4.out, HN4.out.below⟩
end Go.Proofs.Ytfcjbkagofccdaa.Sr

/- Contract of the program's begin: the marks say the days, up to a bound. -/
namespace Go.Proofs.Ytfcjbkagofccdaa.Sr
open Go.RowKit Kit Rw Ld Gr GrI Bfs

theorem int_info : (Try.prog.info? 3).map (fun i => (i.zero, i.size)) = some (some (.int .i64 0), 1) := by kernel_rfl
theorem marks_none {p : Nat} {X : List Int} : Marks p X (List.replicate 100 0) (List.replicate X.length (-1)) := by
  refine ⟨by simp, fun n hn => ?_⟩
  have e1 : at' (List.replicate X.length (-1 : Int)) (n : Int) = -1 := by unfold at'; rw [List.getD_eq_getElem?_getD, List.getElem?_replicate, if_pos (by omega)]; rfl
  rw [e1, List.getD_eq_getElem?_getD, List.getElem?_replicate]
  split <;> rfl

set_option maxRecDepth 100000 in
set_option maxHeartbeats 1000000 in
theorem begin_any (w : World) (b p h f : Nat) (X : List Int) (D : Int) (Q M : List Int) (qv : Value) (hS : SB w b p (grid p X) qv Q M) (hL : isLand p h X = true) (hf : f < X.length) (hD : 0 ≤ D) :
    Calls Try.prog 99 #[.pointer (some ⟨b, 0, none⟩), .int .i64 (f : Int), .int .i64 D] w fun e w' => e = .returned (.tuple #[]) ∧ ∃ qv' Q' M', SB w' b p (grid p X) qv' Q' M' ∧ Marks p X M' (cut D (distL p X f)) ∧ Below b w w' := by
  obtain ⟨hp, hH, hLen, _⟩ := isLand_of hL
  have hA := area hp hH
  have hxl : X.length = p * h := by exact_mod_cast hLen
  have HP : Hid ((1 ≤ p ∧ p ≤ 8) ∧ h ≤ 8 ∧ X.length = p * h ∧ f < X.length ∧ X.length ≤ 64) := ⟨by omega, by omega, hxl, hf, by omega⟩
  have HL := Lib.hid hL
  have HSQ := Lib.hid (sq_lt HP.out.1 HP.out.2.1 (show f < p * h by omega))
  obtain ⟨cs, hcs⟩ : ∃ cs, cs = gcells p (grid p X) := ⟨_, rfl⟩
  have hsz : cs.size = 101 := by rw [hcs]; exact gcells_size (grid_len _ _)
  have HCS := Lib.hid hcs
  have HD := Lib.hid hD
  obtain ⟨i0, hi0, hz0, hz1, hz2⟩ := info_parts info_sq
  obtain ⟨s, hss⟩ : ∃ s, s = sq p f := ⟨_, rfl⟩
  have HSS := Lib.hid hss
  have hs100 : s < 100 := by rw [hss]; have := HSQ.out; omega
  have hsi : (s : Int) < 100 := by omega
  have hf64 : f < 64 := by omega
  obtain ⟨hS1, hk1⟩ := hS.clears
  have hcl : ∀ ty, (Builtin.clear_ #[45] ty #[.slice (some ⟨b, 102, none⟩) 100 100]).run Try.prog w = .ok (.tuple #[]) (w.setCells b 102 (List.replicate 100 (.int .i64 0))) :=
    fun ty => Lib.run_clear_slice w 45 3 ty (.int .i64 0) Try.underlying45 (zero_of_info int_info).1 rfl rfl b 102 100 100 (by omega) (fun j hj => by rw [hS.m hj]; rfl) (fun j hj => hS.box.free (102 + j))
  have hb1 : Below b w (w.setCells b 102 (List.replicate 100 (.int .i64 0))) := (Below.refl b w).grown hk1 (Nat.le_of_lt hS.box.lt) (fun k hk => by injection hk with hk; omega)
  obtain ⟨w1, hw1⟩ : ∃ w1, w1 = w.setCells b 102 (List.replicate 100 (.int .i64 0)) := ⟨_, rfl⟩
  rw [← hw1] at hcl hS1 hb1
  have HS1 := Lib.hid hS1
  have HB1 := Lib.hid hb1
  clear hp hH hLen hA hxl hcs hS hL hf hD hss hS1 hk1 hb1 hw1
  go_enter Try.func99, Try.ntmps99
  go_upto_region 1 with (fail)
  clear hcl
  go_wp2_with (refine wpList_load_part rfl 135 _ rfl b 0 rfl cs _ (by rw [HCS.out]; exact HS1.out.part) Try.underlying135 rfl (grid_size hsz) ?_)
  refine (squareOf_any w1 p f cs HP.out.1 hf64 (by rw [HCS.out]; rfl)).mono ?_
  rintro e w2 ⟨rfl, hg⟩
  rw [← HSS.out]
  have HS2 := Lib.hid (HS1.out.on hg)
  have HB2 := Lib.hid (HB1.out.grown hg (Nat.le_of_lt HS1.out.box.lt) (fun _ h => by cases h))
  have hms := HS2.out.m hs100
  have hfr := HS2.out.box.free (102 + s)
  clear hg
  go_upto_region 3 with (fail)
  have HS3 := Lib.hid (HS2.out.put s 1)
  have HB3 := Lib.hid (HB2.out.setCell (p := ⟨b, 102 + s, none⟩) (Nat.le_refl _) (.int .i64 1))
  clear hms hfr
  generalize w2.setCell ⟨b, 102 + s, none⟩ (.int .i64 1) = w3 at *
  obtain ⟨qa, qn, qc, hqv, HQN⟩ := HS3.out.own.sees.shape
  subst hqv
  have hqcell := HS3.out.q
  have HO0 := Lib.hid (Own.cut0 HS3.out.own)
  have hbase : b + 1 ≤ w3.heap.size := HS3.out.box.lt
  have HOB : Hid ((Value.slice qa 0 qc).ownBlock = (Value.slice qa qn qc).ownBlock) := by show _ = _; cases qa <;> rfl

  go_wp2_with (at_builtin; go_loud (refine wpList_append_one_at _ rfl _ _ 137 rfl (b + 1) 141 i0 (.int .i64 0) 8 Try.underlying137 hi0 hz0 hz1 hz2 rfl .i64 _ [] rfl HO0.out (s : Int) rfl (i64_mk (by omega)) (by simp) (by decide) hbase ?_); intro v3 w4 hown3 hgrow3 hpl3; obtain ⟨va3, vn3, vc3, hv3, HV3⟩ := hown3.sees.shape; subst hv3; have hgrow4 : w3.grownBy w4 (Value.slice qa qn qc).ownBlock := (by rw [← HOB.out]; exact hgrow3); have hb3 := HS3.out.box.kept hgrow4 (HS3.out.own.off (Nat.lt_succ_self _)); have c3 := (hb3.cell 101).trans (scells_q HS3.out.gl); have f3 := hb3.free 101; have HPU := Lib.hid (HS3.out.push hown3 hgrow4); have HB4 := Lib.hid (HB3.out.trans (HS3.out.below hgrow4 (.slice va3 vn3 vc3) 101)); clear hown3 hgrow3 hgrow4 hpl3 hb3)
  have HQ5 : Hid (Inv p X (f : Int) 0 ((List.replicate X.length (-1)).set f 0) [(f : Int)] ∧ Marks p X ((List.replicate 100 0).set s 1) ((List.replicate X.length (-1)).set f 0) ∧ (∀ n ∈ [(f : Int)], at' ((List.replicate X.length (-1)).set f 0) n ≤ D)) := by
    have hi := Inv.start (W := (p : Int)) (X := X) (a := (f : Int)) (by omega) (by have := HP.out.2.2.2.1; omega)
    rw [Int.toNat_natCast] at hi
    have hm := (marks_none (p := p) (X := X)).set HP.out.1 HP.out.2.1 HP.out.2.2.1 (by simp) HP.out.2.2.2.1 0
    rw [← HSS.out] at hm
    refine ⟨hi, hm, fun n hn => ?_⟩
    simp only [List.mem_singleton] at hn
    subst hn
    rw [hi.src]; exact HD.out
  have hpu := HPU.out
  rw [show [] ++ [(s : Int)] = sqs p [(f : Int)] by simp [sqs, HSS.out]] at hpu
  have HPU := Lib.hid hpu
  clear hpu hqcell c3 f3 HO0 HOB HS1 HS2 HS3 HB1 HB2 HB3
  go_wp2_with fail
  go_loopw [7] (fun s7 wz => ∃ (i : Nat) (d q M : List Int) (qv : Value), s7 = .int .i64 i ∧ Hid (Inv p X (f : Int) i d q) ∧ Hid (Marks p X M d) ∧ Hid (SB wz b p (grid p X) qv (sqs p q) M) ∧ Hid (∀ n ∈ q, at' d n ≤ D) ∧ Hid (Below b w wz)) (fun s7 _ => X.length - (intOf s7).toNat)
  case atStart => exact ⟨0, _, _, _, _, rfl, HQ5.out.1, HQ5.out.2.1, HPU, HQ5.out.2.2, HB4⟩
  case round =>
    obtain ⟨i, d, q, M1, qv, rfl, HI, HM, HS, HC, HB⟩ := hrel
    clear HQ5 HPU HB4
    obtain ⟨qa, qn, qc, hqv, HQN⟩ := HS.out.own.sees.shape
    subst hqv
    have hqcell := HS.out.q
    have hqn : q.length = qn := by have := HQN.out; simpa [sqs] using this
    have hil := HI.out.ile
    have hil2 := HI.out.short
    by_cases hlt : i < q.length
    · have hlt2 : i < qn := by omega
      have hin := HI.out.inq _ (mem_getD hlt)
      obtain ⟨cn, hcn⟩ : ∃ cn : Nat, q.getD i 0 = cn := ⟨(q.getD i 0).toNat, by omega⟩
      rw [hcn] at hin
      obtain ⟨qb, qo, rfl, hcj⟩ := HS.out.own.sees.at_row (j := i) (by simp [sqs]; exact hlt)
      rw [sqs_at hlt, hcn, Int.toNat_natCast] at hcj
      obtain ⟨t, ht⟩ : ∃ t, t = sq p cn := ⟨_, rfl⟩
      rw [← ht] at hcj
      have htb := sq_lt HP.out.1 HP.out.2.1 (show cn < p * h by have := HP.out.2.2.1; omega)
      rw [← ht] at htb
      have ht100 : t < 100 := by omega
      have hti : (t : Int) < 100 := by omega
      have hmt := HS.out.m ht100
      have hz : M1.getD t 0 = at' d (cn : Int) + 1 := by rw [ht]; exact HM.out.at_ cn (by omega)
      rw [hz] at hmt
      obtain ⟨z, hzz⟩ : ∃ z, z = at' d (cn : Int) + 1 := ⟨_, rfl⟩
      rw [← hzz] at hmt
      have HZ := Lib.hid hzz
      have HT := Lib.hid ht
      have HLT := Lib.hid hlt
      have HCN := Lib.hid hcn
      have HX64 := Lib.hid (Nat.le_trans hil2 HP.out.2.2.2.2)
      have hi64 : i ≤ 64 := by have := HP.out.2.2.2.2; omega
      have hix : i < X.length := by omega
      clear hin ht htb hz hzz hcn hil hil2 hqn hlt
      by_cases hg : D < z
      · have HST : Hid (d = cut D (distL p X f)) := HI.out.stop HL.out HLT.out HC.out (by rw [HCN.out]; have := HZ.out; omega)
        go_wp2
        first | go_ret | go_end0 | refine bodyPost_ret (results_none rfl _ _ _) rfl ?_
        exact ⟨rfl, _, _, M1, HS.out, by rw [← HST.out]; exact HM.out, HB.out⟩
      · go_wp2_with fail
        rw [HT.out]
        refine (spread_any wr b p h X f D i cn d q M1 _ HS.out HM.out HI.out HLT.out HL.out HCN.out (by have := HZ.out; omega) HC.out).mono ?_
        rintro e w5 ⟨rfl, qv', d', q', M', hS', hM', hI', hC', hB'⟩
        have HS' := Lib.hid hS'
        have HM' := Lib.hid hM'
        have HI' := Lib.hid hI'
        have HC' := Lib.hid hC'
        have HB' := Lib.hid (HB.out.trans hB')
        clear hS' hM' hI' hC' hB'
        go_wp2_with fail
        go_roundw
        case rel => exact ⟨i + 1, d', q', M', qv', by go_num, HI', HM', HS', HC', HB'⟩
        case measure => simp [intOf]; omega
    · have hlt2 : ¬ i < qn := by omega
      have HST : Hid (d = cut D (distL p X f)) := HI.out.all hlt HC.out HD.out
      go_wp2
      first | go_ret | go_end0 | refine bodyPost_ret (results_none rfl _ _ _) rfl ?_
      exact ⟨rfl, _, _, M1, HS.out, by rw [← HST.out]; exact HM.out, HB.out⟩
end Go.Proofs.Ytfcjbkagofccdaa.Sr

/- Contract of the program's nearer: the least of the cells near one that are a day nearer. -/
namespace Go.Proofs.Ytfcjbkagofccdaa.Sr
open Go.RowKit Kit Rw Ld Gr GrI Bfs Wf


theorem find_first {L : List Int} {P : Int → Bool} {k : Nat} (hk : k < L.length) (h : ∀ j, j < k → P (L.getD j 0) = false) (hP : P (L.getD k 0) = true) : L.find? P = some (L.getD k 0) := by
  rw [List.find?_eq_some_iff_getElem]
  have e : L.getD k 0 = L[k] := by simp [hk]
  refine ⟨hP, k, hk, e.symm, fun j hj => ?_⟩
  have := h j hj
  have e2 : L.getD j 0 = L[j] := by simp [show j < L.length by omega]
  rw [e2] at this
  simp [this]
theorem find_none {L : List Int} {P : Int → Bool} (h : ∀ j, j < L.length → P (L.getD j 0) = false) : L.find? P = none := by
  rw [List.find?_eq_none]
  intro x hx
  obtain ⟨j, hj, rfl⟩ := List.getElem_of_mem hx
  have := h j hj
  have e2 : L.getD j 0 = L[j] := by simp [hj]
  rw [e2] at this
  simp [this]

/-- Where nearer stands. -/
structure SF (w wr : World) (b p : Nat) (g : List Int) (qv : Value) (Q M : List Int) (u : Value) (N : List Nat) : Prop where
  sb : SB wr b p g qv Q M
  row : Sees .i64 wr u (ints N)
  grown : w.grownBy wr none
theorem SF.on {w wr wy : World} {b p : Nat} {g Q M : List Int} {qv u : Value} {N : List Nat} (h : SF w wr b p g qv Q M u N) (hg : wr.grownBy wy none) : SF w wy b p g qv Q M u N :=
  ⟨h.sb.on hg, h.row.grown hg, grownN_trans h.grown hg⟩

end Go.Proofs.Ytfcjbkagofccdaa.Sr
