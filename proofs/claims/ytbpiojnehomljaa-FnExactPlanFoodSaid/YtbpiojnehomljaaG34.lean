/- Contract of the program's step along one leg of a plan, given slices.Repeat's. Contract of the program's flattened, over the legs of a plan, given slices.Repeat's. -/
import Derived.Test.YtbpiojnehomljaaPlcS
import Derived.Test.YtbpiojnehomljaaWayK
namespace Go.Proofs.Ytbpiojnehomljaa.Pln
open Go.RowKit Kit Rw Rg Ld Wf App

/-- What is asked of slices.Repeat: a row of one int, some times. -/
def Repeats : Prop := ∀ (w : World) (u : Value) (c : Int) (r : Nat), SeesG encI w u [c] → r ≤ 30 →
  Calls Try.prog 94 #[u, .int .i64 (r : Int)] w fun e w' => ∃ u', e = .returned u' ∧ SeesG encI w' u' (List.replicate r c) ∧ w.grownBy w' none

/-- The append at a step of a drawn region, onto a tail. -/
theorem step_tail {P : Program} (w : World) {ops : Array Oper} {o : Oper} {a : Act} {K : Act → World → Prop} {Q : Exit → Act → World → Prop} {E0 : Prop} (hgd : o.guard = none) (s x : Operand) (t : TypeId)
    (ho : o.op = .call { callee := .builtin .append, args := #[s, x], argTypes := #[t, t] })
    (E : TypeId) (i : TypeInfo) (z : Value) (ht : P.underlying t = some (.slice E)) (hi : P.info? E = some i) (hz : i.zero = some z) (hsize : i.size = 1) (hby : i.bytes = 8) (hzs : z.cells.size = 1)
    {base g n cap k o' : Nat} {L : List Int} (hs : a.eval s = .slice (some ⟨g, o', none⟩) (n - k) (cap - k)) (hown : OwnG encI E w base (.slice (some ⟨g, 0, none⟩) n cap) L) (hk : k ≤ n) (hof : cap ≠ k → o' = k) (u : Value) (M : List Int) (hx : a.eval x = u) (hu : SeesG encI w u M)
    (hlen : L.length + M.length ≤ 1000000000)
    (h : ∀ v' w', SeesG encI w' v' (L.drop k ++ M) → w.grownBy w' (some g) → K (a.put o.dst v') w') :
    if Region.wanted o (yielded ops a.tmps) = true then Oper.wp P o a w K Q else E0 := by
  have hw : Region.wanted o (yielded ops a.tmps) = true := by simp [Region.wanted, hgd]
  rw [if_pos hw]
  obtain ⟨v1, w1, hr1, hs1, hg1, _⟩ := Apt.run_append_tail (P := P) w t o.type E i z ht hi hz hsize hby hzs hown hk hof u M hu hlen
  unfold Oper.wp execOp
  simp only [ho, resolve, invoke, builtin, Sem.run_bind, Sem.run_pure, Result.andThen_ok, List.map_toArray, List.map_cons, List.map_nil, hs, hx]
  rw [hr1]
  exact h v1 w1 hs1 hg1
theorem weakB {w w' : World} {r : Option Nat} (h : w.grownBy w' none) : w.grownBy w' r := ⟨h.os, h.tape, h.output, h.size, fun k hk _ => h.block k hk (fun e => by cases e)⟩
theorem one_put {w : World} {b : Nat} {x u : Value} {t : TypeId} (h : Box w b #[x] t) : Box (w.setCell ⟨b, 0, none⟩ u) b #[u] t := box_set h 0 u
set_option maxRecDepth 20000 in
set_option maxHeartbeats 8000000 in
theorem follow_any (hRP : Repeats) (w : World) (B : Nat) (W H p y0 : Int) (r : Nat) (x : Value) (X : List Int) (hx : Sees .i64 w x X) (hB : Box w B #[.int .i64 p] 3) (hd : 0 ≤ daysOf W H X p y0) (hr : r ≤ 30) (hyw : (Lit.int .i64 y0).wf = true) :
    Calls Try.prog 53 #[.agg #[.int .i64 W, .int .i64 H, x], .pointer (some ⟨B, 0, none⟩), .agg #[.int .i64 y0, .int .i64 (r : Int)]] w fun e w' => ∃ u, e = .returned u ∧ SeesG encI w' u (legCells W H X p (y0, (r : Int))) ∧ Box w' B #[.int .i64 y0] 3 ∧ w.grownBy w' (some B) := by
  obtain ⟨i0, hi, hz0, hz1, hz2⟩ := info_parts info_i
  obtain ⟨xa, xn, xc, rfl, HXN⟩ := hx.shape
  have g1 := World.grownBy_alloc w (.cells #[.int .i64 W, .int .i64 H, .slice xa xn xc] 29 (0, 0)) (none : Option Nat)
  have g2 := World.grownBy_alloc (w.alloc (.cells #[.int .i64 W, .int .i64 H, .slice xa xn xc] 29 (0, 0))) (.cells #[.int .i64 y0, .int .i64 (r : Int)] 72 (0, 0)) (none : Option Nat)
  have gg := grownN_trans g1 g2
  have b1 := (box_new w #[.int .i64 W, .int .i64 H, .slice xa xn xc] 29).grown g2
  have b2 := box_new (w.alloc (.cells #[.int .i64 W, .int .i64 H, .slice xa xn xc] 29 (0, 0))) #[.int .i64 y0, .int .i64 (r : Int)] 72
  simp only [World.size_alloc] at b2
  have hsz : ((w.alloc (.cells #[.int .i64 W, .int .i64 H, .slice xa xn xc] 29 (0, 0))).alloc (.cells #[.int .i64 y0, .int .i64 (r : Int)] 72 (0, 0))).heap.size = w.heap.size + 2 := by simp
  have HSZ := Lib.hid hsz
  have HG := Lib.hid gg
  have HB1 := Lib.hid b1
  have HB2 := Lib.hid b2
  have HBB := Lib.hid (hB.grown gg)
  have HX := Lib.hid (hx.grown gg)
  have HRP := Lib.hid hRP
  have HYW := Lib.hid hyw
  have HR30 := Lib.hid hr
  have HBL := Lib.hid hB.lt
  obtain ⟨M, hM⟩ : ∃ M, M = wayOf W H X p y0 := ⟨_, rfl⟩
  have hwl : 0 < M.length := by
    obtain ⟨d, hd⟩ : ∃ d : Nat, daysOf W H X p y0 = d := ⟨(daysOf W H X p y0).toNat, by omega⟩
    rw [hM, (wayP hd).len]; omega
  have hwt : M.length ≤ 65 := by rw [hM]; exact wayOf_len W H X p y0
  have HWT := Lib.hid (fun w' hx => WayI.wayTo_any w' W H p y0 (.slice xa xn xc) X hx)
  rw [← hM] at HWT
  have HLC : Hid (legCells W H X p (y0, (r : Int)) = M.drop 1 ++ List.replicate r y0) := by show _ = _; rw [hM]; rfl
  have h1M : (1 : Int) ≤ (M.length : Int) := by omega
  clear g1 g2 gg b1 b2 hsz hx hB hd hM hyw hr hRP
  go_enter Try.func53, Try.ntmps53
  go_wp2_with fail
  generalize (w.alloc (.cells #[.int .i64 W, .int .i64 H, .slice xa xn xc] 29 (0, 0))).alloc (.cells #[.int .i64 y0, .int .i64 (r : Int)] 72 (0, 0)) = W2 at *
  have HQ0 := Lib.hid (grown_drew (World.grownBy.refl W2 none))
  have HS : Hid (∀ w', W2.grownBy w' none → (w'.cell? ⟨w.heap.size, 0, none⟩ = some (.int .i64 W) ∧ w'.cell? ⟨w.heap.size, 1, none⟩ = some (.int .i64 H) ∧ w'.cell? ⟨w.heap.size, 2, none⟩ = some (.slice xa xn xc)) ∧ w'.cell? ⟨B, 0, none⟩ = some (.int .i64 p) ∧ w'.cell? ⟨w.heap.size + 1, 0, none⟩ = some (.int .i64 y0)) := fun w' hg => ⟨⟨(HB1.out.grown hg).cell 0, (HB1.out.grown hg).cell 1, (HB1.out.grown hg).cell 2⟩, (HBB.out.grown hg).cell 0, (HB2.out.grown hg).cell 0⟩
  go_region_held_law (fun w' => (w'.cell? ⟨w.heap.size, 0, none⟩ = some (.int .i64 W) ∧ w'.cell? ⟨w.heap.size, 1, none⟩ = some (.int .i64 H) ∧ w'.cell? ⟨w.heap.size, 2, none⟩ = some (.slice xa xn xc)) ∧ w'.cell? ⟨B, 0, none⟩ = some (.int .i64 p) ∧ w'.cell? ⟨w.heap.size + 1, 0, none⟩ = some (.int .i64 y0)) (first | exact HS.out _ HQ0.out | exact HS.out _ HQ1.out) (first | (go_at_call 93; refine (HWT.out _ (HX.out.grown HQ0.out)).mono ?_; rintro e w5 ⟨u5, rfl, ho5, hg5⟩; have HQ1 := Lib.hid (grownN_trans HQ0.out hg5); have HO5 := Lib.hid (toG ho5); obtain ⟨g5, c5, hu5⟩ := own_at HO5.out hwl; subst hu5; clear ho5 hg5))
  have HGE : Hid (w.heap.size + 2 ≤ g5) := by
    show _ ≤ _
    have h1 := (HO5.out.lt g5 rfl).1
    have h2 := HSZ.out
    have h3 := HQ0.out.size
    omega
  have HB5 := Lib.hid (HBB.out.grown HQ1.out)
  have d0 := (HB2.out.grown HQ1.out).cell 0
  have p0 := HB5.out.cell 0
  have f0 := HB5.out.free 0
  simp only [List.getElem?_toArray, List.getElem?_cons_zero] at d0 p0
  have HB6 := Lib.hid (one_put (u := .int .i64 y0) HB5.out)
  have hst := grown_set w5 B 0 (.int .i64 y0)
  have HO6 := Lib.hid (HO5.out.kept hst (.inr (fun e => by have h1 := HGE.out; have h2 := HBL.out; have h3 := Option.some.inj (show some g5 = some B from e); omega)))
  have HL6 := Lib.hid ((HB2.out.grown HQ1.out).kept hst (fun e => by have h2 := HBL.out; have h3 := Option.some.inj e; omega))
  have HFIN0 := Lib.hid (grownN_trans (weakB (r := some B) (grownN_trans HG.out HQ1.out)) hst)
  clear hst
  go_wp2_with fail
  generalize w5.setCell ⟨B, 0, none⟩ (.int .i64 y0) = w6 at *
  have HD6 := Lib.hid (grown_drew (World.grownBy.refl w6 none))
  have HS3 : Hid (∀ w', w6.grownBy w' none → w'.cell? ⟨w.heap.size + 1, 0, none⟩ = some (.int .i64 y0) ∧ w'.cell? ⟨w.heap.size + 1, 1, none⟩ = some (.int .i64 (r : Int))) := fun w' hg => ⟨(HL6.out.grown hg).cell 0, (HL6.out.grown hg).cell 1⟩
  have HS38 : Hid (∀ w7 w8, w6.grownBy w7 none → w7.grownBy w8 (some g5) → w8.cell? ⟨w.heap.size + 1, 0, none⟩ = some (.int .i64 y0) ∧ w8.cell? ⟨w.heap.size + 1, 1, none⟩ = some (.int .i64 (r : Int))) := fun w7 w8 h7 h8 => by
    obtain ⟨a0, a1⟩ := HS3.out w7 h7
    have h1 := HGE.out
    exact ⟨h8.cell a0 (by simp; omega), h8.cell a1 (by simp; omega)⟩
  have HFIN : Hid (∀ w7 w8, w6.grownBy w7 none → w7.grownBy w8 (some g5) → w.grownBy w8 (some B)) := fun w7 w8 h7 h8 => by
    have h9 := grownN_trans HFIN0.out (weakB (r := some B) h7)
    refine ⟨h8.os.trans h9.os, h8.tape.trans h9.tape, h8.output.trans h9.output, Nat.le_trans h9.size h8.size, fun k hk hne => ?_⟩
    have h1 := HGE.out
    exact (h8.block k (Nat.lt_of_lt_of_le hk h9.size) (fun e => by have := Option.some.inj e; omega)).trans (h9.block k hk hne)
  clear d0 p0 f0
  by_cases hc1 : c5 = 1
  · subst hc1
    go_region_held_law (fun w' => w'.cell? ⟨w.heap.size + 1, 0, none⟩ = some (.int .i64 y0) ∧ w'.cell? ⟨w.heap.size + 1, 1, none⟩ = some (.int .i64 (r : Int))) (first | exact HS3.out _ HD6.out | exact HS3.out _ (grown_drew (World.grownBy_alloc _ _ none)) | exact HS3.out _ HQ7.out | exact HW8.out) (first | (go_at_call 94; refine (HRP.out _ _ y0 r (by first | exact seesG_one (e := encI) (E := 3) _ y0 #[.int .i64 y0] rfl HYW.out | exact (seesG_one (e := encI) (E := 3) _ y0 #[.int .i64 y0] rfl HYW.out).grown (grown_drew (World.grownBy.refl _ none))) HR30.out).mono ?_; rintro e w7 ⟨u7, rfl, hs7, hg7⟩; have HQ7 := Lib.hid (grownN_trans (by first | exact HD6.out | exact grown_drew (World.grownBy_alloc _ _ none) | exact World.grownBy_alloc _ _ none) hg7 : w6.grownBy w7 none); have HS7 := Lib.hid hs7; clear hs7 hg7) | (have hzz := HQ7.out; clear hzz; refine step_tail _ (by rfl) _ _ _ (by rfl) 3 i0 (.int .i64 0) Try.underlying22 hi hz0 hz1 hz2 (by rfl) (k := 1) (by rfl) (HO6.out.grown HQ7.out) (by omega) (by omega) _ (List.replicate r y0) (by rfl) HS7.out (by have := HR30.out; simp; omega) ?_; intro v8 w8 hs8 hg8; have HW8 := Lib.hid (HS38.out _ _ HQ7.out hg8); have HS8 := Lib.hid hs8; have HG8 := Lib.hid hg8; clear hs8 hg8))
    all_goals
      go_wp2
      go_ret
      refine ⟨v8, ?_, by rw [HLC.out]; exact HS8.out, (HB6.out.grown HQ7.out).kept HG8.out (fun e => by have h1 := HGE.out; have h2 := HBL.out; have h3 := Option.some.inj e; omega), HFIN.out _ _ HQ7.out HG8.out⟩
      first | rfl | (simp; done) | (congr 1; simp; done) | (simp [Array.getD]; done)
  · skip
    go_region_held_law (fun w' => w'.cell? ⟨w.heap.size + 1, 0, none⟩ = some (.int .i64 y0) ∧ w'.cell? ⟨w.heap.size + 1, 1, none⟩ = some (.int .i64 (r : Int))) (first | exact HS3.out _ HD6.out | exact HS3.out _ (grown_drew (World.grownBy_alloc _ _ none)) | exact HS3.out _ HQ7.out | exact HW8.out) (first | (go_at_call 94; refine (HRP.out _ _ y0 r (by first | exact seesG_one (e := encI) (E := 3) _ y0 #[.int .i64 y0] rfl HYW.out | exact (seesG_one (e := encI) (E := 3) _ y0 #[.int .i64 y0] rfl HYW.out).grown (grown_drew (World.grownBy.refl _ none))) HR30.out).mono ?_; rintro e w7 ⟨u7, rfl, hs7, hg7⟩; have HQ7 := Lib.hid (grownN_trans (by first | exact HD6.out | exact grown_drew (World.grownBy_alloc _ _ none) | exact World.grownBy_alloc _ _ none) hg7 : w6.grownBy w7 none); have HS7 := Lib.hid hs7; clear hs7 hg7) | (have hzz := HQ7.out; clear hzz; refine step_tail _ (by rfl) _ _ _ (by rfl) 3 i0 (.int .i64 0) Try.underlying22 hi hz0 hz1 hz2 (by rfl) (k := 1) (by rfl) (HO6.out.grown HQ7.out) (by omega) (by omega) _ (List.replicate r y0) (by rfl) HS7.out (by have := HR30.out; simp; omega) ?_; intro v8 w8 hs8 hg8; have HW8 := Lib.hid (HS38.out _ _ HQ7.out hg8); have HS8 := Lib.hid hs8; have HG8 := Lib.hid hg8; clear hs8 hg8))
    all_goals
      go_wp2
      go_ret
      refine ⟨v8, ?_, by rw [HLC.out]; exact HS8.out, (HB6.out.grown HQ7.out).kept HG8.out (fun e => by have h1 := HGE.out; have h2 := HBL.out; have h3 := Option.some.inj e; omega), HFIN.out _ _ HQ7.out HG8.out⟩
      first | rfl | (simp; done) | (congr 1; simp; done) | (simp [Array.getD]; done)
end Go.Proofs.Ytbpiojnehomljaa.Pln

namespace Go.Proofs.Ytbpiojnehomljaa.Pln
open Go.RowKit Kit Rw Rg Ld Wf App

set_option maxRecDepth 20000 in
set_option maxHeartbeats 2000000 in
theorem leg_any (hRP : Repeats) (w : World) (A B : Nat) (W H p y0 : Int) (r : Nat) (x : Value) (X : List Int) (hx : Sees .i64 w x X) (hA : Box w A #[.int .i64 W, .int .i64 H, x] 29) (hB : Box w B #[.int .i64 p] 3) (hd : 0 ≤ daysOf W H X p y0) (hr : r ≤ 30) (hyw : (Lit.int .i64 y0).wf = true) :
    Calls Try.prog 52 #[.agg #[.int .i64 y0, .int .i64 (r : Int)], .pointer (some ⟨A, 0, none⟩), .pointer (some ⟨B, 0, none⟩)] w fun e w' => ∃ u, e = .returned u ∧ SeesG encI w' u (legCells W H X p (y0, (r : Int))) ∧ Box w' B #[.int .i64 y0] 3 ∧ w.grownBy w' (some B) := by
  obtain ⟨xa, xn, xc, rfl, HXN⟩ := hx.shape
  have g1 := World.grownBy_alloc w (.cells #[.int .i64 y0, .int .i64 (r : Int)] 72 (0, 0)) (none : Option Nat)
  have HG := Lib.hid g1
  have b1 := box_new w #[.int .i64 y0, .int .i64 (r : Int)] 72
  have d0 := b1.cell 0
  have d1 := b1.cell 1
  have a0 := (hA.grown g1).cell 0
  have a1 := (hA.grown g1).cell 1
  have a2 := (hA.grown g1).cell 2
  simp only [List.getElem?_toArray, List.getElem?_cons_succ, List.getElem?_cons_zero] at d0 d1 a0 a1 a2
  have HC := Lib.hid (follow_any hRP _ B W H p y0 r _ X (hx.grown g1) (hB.grown g1) hd hr hyw)
  clear g1 b1 hx hA hB hd hr hyw hRP
  go_enter Try.func52, Try.ntmps52
  go_wp2_with fail
  refine HC.out.mono ?_
  rintro e w2 ⟨u, rfl, hs, hb, hg⟩
  have HS := Lib.hid hs
  have HB := Lib.hid hb
  have HG2 := Lib.hid (grownN_trans (weakB (r := some B) HG.out) hg)
  clear hs hb hg
  go_wp2
  go_ret
  exact ⟨_, rfl, HS.out, HB.out, HG2.out⟩

theorem ahead_next {W H : Int} {X : List Int} {frm : Int} {L : List G2} (k : Nat) : (cellsTo W H X frm L (k + 1)).drop 1 = (cellsTo W H X frm L k).drop 1 ++ legCells W H X (legAt frm L k) (L.getD k (0, 0)) := by
  rw [cellsTo, List.drop_append_of_le_length cells_pos]

set_option maxRecDepth 20000 in
set_option maxHeartbeats 4000000 in
theorem flat_any (hRP : Repeats) (w : World) (A B : Nat) (W H frm : Int) (x v : Value) (X : List Int) (L : List G2) (hx : Sees .i64 w x X) (hv : ∀ W', w.grownBy W' (some B) → SeesG encP W' v L) (hA : Box w A #[.int .i64 W, .int .i64 H, x] 29) (hB : Box w B #[.int .i64 frm] 3) (hAB : A ≠ B) (hxB : ∀ W', w.grownBy W' (some B) → Sees .i64 W' x X) (hup : upL W H X frm L L.length) (hl10 : L.length ≤ 10) :
    Calls Try.prog 51 #[v, .func (.func 52) #[] #[.pointer (some ⟨A, 0, none⟩), .pointer (some ⟨B, 0, none⟩)]] w fun e w' => ∃ u, e = .returned u ∧ OwnG encI 3 w' w.heap.size u ((cellsTo W H X frm L L.length).drop 1) ∧ w.grownBy w' (some B) := by
  obtain ⟨i0, hi, hz0, hz1, hz2⟩ := info_parts info_i
  have hv0 := hv w (World.grownBy.refl _ _)
  have HV0 := Lib.hid hv0
  have HV := Lib.hid hv
  have HXB := Lib.hid hxB
  have HA := Lib.hid hA
  have HRP := Lib.hid hRP
  have HUP := Lib.hid hup
  have HL10 := Lib.hid hl10
  have HAB := Lib.hid hAB
  have HBL := Lib.hid hB.lt
  have HW : Hid (OwnG encI 3 (w.alloc (.cells #[] 3 (0, 0))) w.heap.size (.slice (some ⟨w.heap.size, 0, none⟩) 0 0) []) := ownG_empty w
  have HG := Lib.hid (World.grownBy_alloc w (.cells #[] 3 (0, 0)) (some B))
  have HB0 := Lib.hid (hB.grown (World.grownBy_alloc w (.cells #[] 3 (0, 0)) none))
  have hlnn := hv0.len
  obtain ⟨a, cap, rfl, _⟩ := hv0
  clear hx hv hxB hA hRP hup hl10 hAB hB
  go_enter Try.func51, Try.ntmps51
  go_wp2
  go_loopw [5, 11] (fun u i wr => ∃ k : Nat, k ≤ L.length ∧ i = .int .i64 k ∧ Hid (OwnG encI 3 wr w.heap.size u ((cellsTo W H X frm L k).drop 1)) ∧ Hid (Box wr B #[.int .i64 (legAt frm L k)] 3) ∧ Hid (w.grownBy wr (some B))) (fun _ i _ => L.length - (intOf i).toNat)
  case atStart => exact ⟨0, Nat.zero_le _, rfl, HW, HB0, HG⟩
  case round =>
    rename World => wr
    obtain ⟨k, hk, rfl, HO, HBk, HGr⟩ := hrel
    by_cases hlt : k < L.length
    · have hltI : (k : Int) < (L.length : Int) := by omega
      have hk0 : (0 : Int) ≤ (k : Int) := by omega
      obtain ⟨b, o, rfl, _, _⟩ := HV0.out.at_row hlt
      obtain ⟨y, hy⟩ : ∃ y, L.getD k (0, 0) = y := ⟨_, rfl⟩
      have hyw : (Lit.int .i64 y.1).wf = true := by rw [← hy]; exact (HV0.out.ok _ (memG hlt)).1
      obtain ⟨e0, e1⟩ := atP_in (HV.out wr HGr.out) (World.grownBy.refl wr none) hlt hy
      have hokk := HUP.out k hlt
      unfold okLeg at hokk
      rw [hy] at hokk
      have HY := Lib.hid hy
      have HNX : Hid (legAt frm L (k + 1) = y.1) := by show _ = _; rw [← hy]; rfl
      have HCN := Lib.hid (ahead_next (W := W) (H := H) (X := X) (frm := frm) (L := L) k)
      rw [hy] at HCN
      have hlen := cells_len (frm := frm) (fun i hi => HUP.out i (by omega) : upL W H X frm L k)
      have hlw : (legCells W H X (legAt frm L k) y).length ≤ 100 := by
        unfold legCells
        have h1 := wayOf_len W H X (legAt frm L k) y.1
        rw [List.length_append, List.length_drop, List.length_replicate]
        have h2 := hokk.2.2
        omega
      have hdl : ((cellsTo W H X frm L k).drop 1).length ≤ 1000 := by rw [List.length_drop]; have h3 := HL10.out; omega
      have HLW := Lib.hid hlw
      have HDL := Lib.hid hdl
      obtain ⟨y0, y1⟩ := y
      dsimp only at e0 e1 hyw hokk HNX
      obtain ⟨r, hr⟩ : ∃ r : Nat, y1 = (r : Int) := ⟨y1.toNat, by have := hokk.2.1; omega⟩
      subst hr
      have HYW := Lib.hid hyw
      have HOK := Lib.hid hokk
      have hg2 := World.grownBy_alloc wr (.cells #[.int .i64 y0, .int .i64 (r : Int)] 72 (0, 0)) (none : Option Nat)
      have HG2 := Lib.hid hg2
      have HCALL := Lib.hid (leg_any HRP.out _ A B W H (legAt frm L k) y0 r x X ((HXB.out wr HGr.out).grown hg2) ((HA.out.kept HGr.out (fun e => HAB.out (Option.some.inj e).symm)).grown hg2) (HBk.out.grown hg2) hokk.1 (by have := hokk.2.2; omega) hyw)
      have HO2 := Lib.hid (HO.out.grown hg2)
      clear hy hyw hokk hlen hlw hdl hg2
      go_wp2_with fail
      refine HCALL.out.mono ?_
      rintro e w5 ⟨uL, rfl, hs, hb, hg⟩
      have HNO : Hid (∀ c, _ = some c → w.heap.size ≤ c) := fun c hc => (HO.out.lt c hc).1
      have HO5 := Lib.hid (HO2.out.kept hg (.inr (fun e => by have h1 := HNO.out _ e; have h2 := HBL.out; omega)))
      have HS5 := Lib.hid hs
      have HB5 := Lib.hid hb
      have HG5 := Lib.hid (grownN_trans (grownN_trans HGr.out (weakB (r := some B) HG2.out)) hg)
      clear hs hb hg
      go_wp2_with (at_builtin; go_loud (refine wpListG_append_sees _ rfl _ _ 22 rfl w.heap.size 3 i0 (.int .i64 0) 8 Try.underlying22 hi hz0 hz1 hz2 rfl _ ((cellsTo W H X frm L k).drop 1) rfl HO5.out _ (legCells W H X (legAt frm L k) (y0, (r : Int))) rfl HS5.out (by unfold maxLen; have h1 := HLW.out; have h2 := HDL.out; omega) (by have h1 := HLW.out; have h2 := HDL.out; omega) HG5.out.size ?_); intro v6 w6 hown6 hgrow6; have HO6 := Lib.hid hown6; have HB6 := Lib.hid (HB5.out.kept hgrow6 (fun e => by have h1 := HNO.out _ e; have h2 := HBL.out; omega)); have HG6 : Hid (w.grownBy w6 (some B)) := ⟨hgrow6.os.trans HG5.out.os, hgrow6.tape.trans HG5.out.tape, hgrow6.output.trans HG5.out.output, Nat.le_trans HG5.out.size hgrow6.size, fun q hq hne => (hgrow6.block q (Nat.lt_of_lt_of_le hq HG5.out.size) (fun e => by have h1 := HNO.out _ e.symm; omega)).trans (HG5.out.block q hq hne)⟩; clear hown6 hgrow6)
      go_roundw
      case rel => exact ⟨k + 1, by omega, by go_num, by rw [HCN.out]; exact HO6, by rw [HNX.out]; exact HB6, HG6⟩
      case measure => simp [intOf]; omega
    · have : k = L.length := by omega
      subst this
      go_wp2
      go_ret
      exact ⟨_, rfl, HO.out, HGr.out⟩
end Go.Proofs.Ytbpiojnehomljaa.Pln
