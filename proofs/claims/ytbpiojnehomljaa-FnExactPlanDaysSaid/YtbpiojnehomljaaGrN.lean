/- Contract of the program's near of a grid: the open squares beside one. -/
import Derived.Test.YtbpiojnehomljaaGrI
import Derived.Test.YtbpiojnehomljaaMBase
import Derived.Test.YtbpiojnehomljaaMBase
import Derived.Test.YtbpiojnehomljaaMBase
namespace Go.Proofs.Ytbpiojnehomljaa.GrI
open Go.RowKit Kit Rw Ld Gr

theorem info_sq : (Try.prog.info? 150).map (fun i => (i.zero, i.size, i.bytes)) = some (some (.int .i64 0), 1, 8) := by kernel_rfl
/-- The first j sides' open squares. -/
def nsqTo (g : List Int) (s : Nat) : Nat → List Nat
  | 0 => []
  | j + 1 => nsqTo g s j ++ side1 g (beside j s)
theorem nsqTo_4 (g : List Int) (s : Nat) : nsqTo g s 4 = nsq g s := by simp [nsqTo, nsq, beside]
theorem nsqTo_len (g : List Int) (s : Nat) : ∀ j, (nsqTo g s j).length ≤ j
  | 0 => by simp [nsqTo]
  | j + 1 => by
    have := nsqTo_len g s j
    have : (side1 g (beside j s)).length ≤ 1 := by unfold side1; split <;> simp
    simp only [nsqTo, List.length_append]; omega
def ints (L : List Nat) : List Int := L.map (fun t : Nat => (t : Int))
/-- The functions of the sides, by number. -/
def fnOf (j : Nat) : Nat := if j = 0 then 138 else if j = 1 then 139 else if j = 2 then 140 else 141
theorem side_any (w : World) (j s : Nat) (hj : j < 4) (h10 : 10 ≤ s) (hs : s < 100) : Calls Try.prog (fnOf j) #[.int .i64 (s : Int)] w fun e w' => e = .returned (.int .i64 ((beside j s : Nat) : Int)) ∧ w = w' := by
  obtain rfl | rfl | rfl | rfl : j = 0 ∨ j = 1 ∨ j = 2 ∨ j = 3 := by omega
  · exact above_any w s h10 hs
  · exact left_any w s h10 hs
  · exact right_any w s h10 hs
  · exact below_any w s h10 hs
def fns : Array Value := #[.func (.func 138) #[] #[], .func (.func 139) #[] #[], .func (.func 140) #[] #[], .func (.func 141) #[] #[]]
theorem sides_any (w : World) :
    Calls Try.prog 137 #[] w fun e w' => e = .returned (.slice (some ⟨w.heap.size, 0, none⟩) 4 4) ∧ w' = w.alloc (.cells fns 165 (0, 0)) := by
  go_enter Try.func137, Try.ntmps137
  go_wp2
  go_ret
  exact ⟨rfl, rfl⟩

theorem run_callFunc_go {P : Program} {f : FuncId} {fn : Func} (hf : P.funcs[f]? = some fn) (hname : (fn.name == "runtime.NumGoroutine") = false) (hb : fn.body.isNone = false) (args : Array Value) (w : World) : (callFunc f args).run P w = .ok (.enter f args) w := by
  have h1 : fn.name ≠ "runtime.NumGoroutine" := by simpa using hname
  have h2 : ¬ fn.body = none := by intro e; rw [e] at hb; simp at hb
  simp [callFunc, hf, h1, h2]
theorem fn_enters {j : Nat} (hj : j < 4) (args : Array Value) (w : World) : (callFunc (fnOf j) args).run Try.prog w = .ok (.enter (fnOf j) args) w := by
  obtain rfl | rfl | rfl | rfl : j = 0 ∨ j = 1 ∨ j = 2 ∨ j = 3 := by omega
  · exact run_callFunc_go Try.func138 (by kernel_rfl) (by kernel_rfl) args w
  · exact run_callFunc_go Try.func139 (by kernel_rfl) (by kernel_rfl) args w
  · exact run_callFunc_go Try.func140 (by kernel_rfl) (by kernel_rfl) args w
  · exact run_callFunc_go Try.func141 (by kernel_rfl) (by kernel_rfl) args w
/-- Where near stands. -/
structure NS (w wr : World) (cs : Array Value) (v : Value) (L : List Nat) : Prop where
  own : Own .i64 150 wr (w.heap.size + 1) v (ints L)
  grid : Box wr w.heap.size cs 144
  fns : Box wr (w.heap.size + 2) fns 165
  off : v.ownBlock ≠ some (w.heap.size + 2)
  grown : w.grownBy wr none
theorem NS.more {w wx wy : World} {cs : Array Value} {v v' : Value} {L M : List Nat} (h : NS w wx cs v L) (ho : Own .i64 150 wy (w.heap.size + 1) v' (ints M)) (hg : wx.grownBy wy v.ownBlock) (hl : v'.ownBlock = v.ownBlock ∨ ∃ g, v'.ownBlock = some g ∧ wx.heap.size ≤ g) : NS w wy cs v' M := by
  refine ⟨ho, h.grid.kept hg (h.own.off (Nat.lt_succ_self _)), h.fns.kept hg h.off, ?_, grown_new h.grown hg (fun c hc => by have := h.own.lt c hc; omega)⟩
  rcases hl with hl | ⟨g, hl, hle⟩
  · rw [hl]; exact h.off
  · rw [hl]; have := h.fns.lt; intro e; injection e with e; omega

set_option maxRecDepth 100000 in
set_option maxHeartbeats 4000000 in
theorem gnear_any (w : World) (p s : Nat) (cs : Array Value) (g : List Int) (hcs : cs = gcells p g) (hg : g.length = 100) (hs1 : 11 ≤ s) (hs8 : s ≤ 88) :
    Calls Try.prog 132 #[.agg cs, .int .i64 (s : Int)] w fun e w' => ∃ u, e = .returned u ∧ Own .i64 150 w' w.heap.size u (ints (nsq g s)) ∧ w.grownBy w' none := by
  have hgr := World.grownBy_alloc w (.cells cs 144 (0, 0)) none
  have hg2 := World.grownBy_alloc (w.alloc (.cells cs 144 (0, 0))) (.cells #[] 150 (0, 0)) none
  have hg3 := World.grownBy_alloc ((w.alloc (.cells cs 144 (0, 0))).alloc (.cells #[] 150 (0, 0))) (.cells fns 165 (0, 0)) none
  have ho := (own_empty (k := .i64) (E := 150) (w.alloc (.cells cs 144 (0, 0)))).grown hg3
  have hf := box_new ((w.alloc (.cells cs 144 (0, 0))).alloc (.cells #[] 150 (0, 0))) fns 165
  simp only [World.size_alloc] at ho hf
  have hq : NS w (((w.alloc (.cells cs 144 (0, 0))).alloc (.cells #[] 150 (0, 0))).alloc (.cells fns 165 (0, 0))) cs (.slice (some ⟨w.heap.size + 1, 0, none⟩) 0 0) [] :=
    ⟨ho, ((box_new w cs 144).grown hg2).grown hg3, hf, by simp [Value.ownBlock], grownN_trans hgr (grownN_trans hg2 hg3)⟩
  have HQ := Lib.hid hq
  have HCS := Lib.hid hcs
  have HGL := Lib.hid hg
  obtain ⟨i0, hi, hz0, hz1, hz2⟩ := info_parts info_sq
  clear hgr hg2 hg3 ho hf hq hcs hg
  go_enter Try.func132, Try.ntmps132
  go_wp2_with fail
  refine (sides_any _).mono ?_
  rintro e w' ⟨rfl, rfl⟩
  simp only [World.size_alloc]
  generalize ((w.alloc (.cells cs 144 (0, 0))).alloc (.cells #[] 150 (0, 0))).alloc (.cells fns 165 (0, 0)) = W1 at *
  go_wp2_with fail
  go_loopw [5, 12] (fun v i wr => ∃ j : Nat, j ≤ 4 ∧ i = .int .i64 j ∧ Hid (NS w wr cs v (nsqTo g s j))) (fun _ i _ => 4 - (intOf i).toNat)
  case atStart => exact ⟨0, by omega, rfl, HQ.out⟩
  case round =>
    obtain ⟨j, hj, rfl, HN⟩ := hrel
    by_cases hlt : j < 4
    · obtain ⟨t, ht⟩ : ∃ t, t = beside j s := ⟨_, rfl⟩
      have ht99 : t ≤ 99 := by rw [ht]; unfold beside; split <;> (try split) <;> (try split) <;> omega
      obtain ⟨x, hx⟩ : ∃ x, x = g.getD t 0 := ⟨_, rfl⟩
      have cg : wr.cell? ⟨w.heap.size, 1 + t, none⟩ = some (.int .u8 x) := by rw [HN.out.grid.cell, HCS.out, hx]; exact gcells_s HGL.out (by omega)
      have hbase : w.heap.size + 1 ≤ wr.heap.size := HN.out.grid.lt
      have hxl : (ints (nsqTo g s j)).length ≤ 4 := by have := nsqTo_len g s j; simp [ints]; omega
      have hone : x ≠ 2 → ints (nsqTo g s j) ++ [(t : Int)] = ints (nsqTo g s (j + 1)) := fun h => by
        simp only [nsqTo, ints, List.map_append]; congr 1; unfold side1 opn; rw [← ht, ← hx, if_pos (by simpa using h)]; rfl
      have hnone : x = 2 → nsqTo g s j = nsqTo g s (j + 1) := fun h => by
        simp only [nsqTo]; unfold side1 opn; rw [← ht, ← hx, if_neg (by simpa using h)]; simp
      have HT := Lib.hid ht
      have H1 := Lib.hid hone
      obtain ⟨f, hf⟩ : ∃ f, f = fnOf j := ⟨_, rfl⟩
      have cf : wr.cell? ⟨w.heap.size + 2, j, none⟩ = some (.func (.func f) #[] #[]) := by
        rw [HN.out.fns.cell, hf]
        obtain rfl | rfl | rfl | rfl : j = 0 ∨ j = 1 ∨ j = 2 ∨ j = 3 := by omega
        · rfl
        · rfl
        · rfl
        · rfl
      have hen : (callFunc f #[.int .i64 (s : Int)]).run Try.prog wr = .ok (.enter f #[.int .i64 (s : Int)]) wr := by rw [hf]; exact fn_enters hlt _ _
      have HF := Lib.hid hf
      clear ht hx hone hf
      go_wp2_with fail
      rw [HF.out]
      refine (side_any wr j s hlt (by omega) (by omega)).mono ?_
      rintro e w2 ⟨rfl, rfl⟩
      rw [← HF.out, ← HT.out]
      by_cases hx2 : x = 2
      · have H0 : Hid (NS w wr cs u5 (nsqTo g s (j + 1))) := by have := HN.out; rwa [hnone hx2] at this
        clear hnone
        subst hx2
        go_wp2_with fail
        go_roundw
        case rel => exact ⟨j + 1, by omega, by go_num, H0.out⟩
        case measure => simp [intOf]; omega
      · clear hnone
        have hxb : (x == 2) = false := by simpa using hx2
        have H1 := Lib.hid (H1.out hx2)
        go_wp2_with (at_builtin; go_loud (refine wpList_append_one_at _ rfl _ _ 146 rfl (w.heap.size + 1) 150 i0 (.int .i64 0) 8 Try.underlying146 hi hz0 hz1 hz2 rfl .i64 _ (ints (nsqTo g s j)) rfl HN.out.own (t : Int) rfl (i64_mk (by omega)) (by omega) (by decide) hbase ?_); intro v3 w3 hown3 hgrow3 hpl3; have HN2 := Lib.hid (HN.out.more (M := nsqTo g s (j + 1)) (by rw [← H1.out]; exact hown3) hgrow3 hpl3); clear hown3 hgrow3 hpl3)
        go_roundw
        case rel => exact ⟨j + 1, by omega, by go_num, HN2⟩
        case measure => simp [intOf]; omega
    · have hj4 : j = 4 := by omega
      have HN2 : Hid (NS w wr cs u5 (nsq g s)) := by have := HN.out; rwa [hj4, nsqTo_4] at this
      go_wp2_with fail
      go_ret
      exact ⟨_, rfl, HN2.out.own.lower (by omega), HN2.out.grown⟩
end Go.Proofs.Ytbpiojnehomljaa.GrI
