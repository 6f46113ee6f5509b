/- Contract of the program's step along one leg of a plan, given slices.Repeat's. -/
import Derived.Test.YtbpiojnehomljaaPlcS
import Derived.Test.YtbpiojnehomljaaWayK
namespace Go.Proofs.Ytbpiojnehomljaa.Pln
open Go.RowKit Kit Rw Rg Ld Wf App

/-- What is asked of slices.Repeat: a row of one int, some times. -/
def Repeats : Prop := ∀ (w : World) (u : Value) (c : Int) (r : Nat), SeesG encI w u [c] → r ≤ 30 →
  Calls Try.prog 94 #[u, .int .i64 (r : Int)] w fun e w' => ∃ u', e = .returned u' ∧ SeesG encI w' u' (List.replicate r c) ∧ w.grownBy w' none

/-- The append at a step of a drawn region, onto a tail. -/
theorem step_tail {P : Program} (w : World) {ops : Array Oper} {o : Oper} {a : Act} {K : Act → World → Prop} {Q : Exit → Act → World → Prop} {E0 : Prop} (hgd : o.guard = none) (s x : Operand) (t : TypeId)
    (ho : o.op = .call { callee := .builtin .append, args := #[s, x], argTypes := #[t, t] })
    (E : TypeId) (i : TypeInfo) (z : Value) (ht : P.underlying t = some (.slice E)) (hi : P.info? E = some i) (hz : i.zero = some z) (hsize : i.size = 1) (hby : i.bytes = 8) (hzs : z.cells.size = 1)
    {base g n cap k o' : Nat} {L : List Int} (hs : a.eval s = .slice (some ⟨g, o', none⟩) (n - k) (cap - k)) (hown : OwnG encI E w base (.slice (some ⟨g, 0, none⟩) n cap) L) (hk : k ≤ n) (hof : cap ≠ k → o' = k) (u : Value) (M : List Int) (hx : a.eval x = u) (hu : SeesG encI w u M)
    (hlen : L.length + M.length ≤ 1000000000)
    (h : ∀ v' w', SeesG encI w' v' (L.drop k ++ M) → w.grownBy w' (some g) → K (a.put o.dst v') w') :
    if Region.wanted o (yielded ops a.tmps) = true then Oper.wp P o a w K Q else E0 := by
  have hw : Region.wanted o (yielded ops a.tmps) = true := by simp [Region.wanted, hgd]
  rw [if_pos hw]
  obtain ⟨v1, w1, hr1, hs1, hg1, _⟩ := Apt.run_append_tail (P := P) w t o.type E i z ht hi hz hsize hby hzs hown hk hof u M hu hlen
  unfold Oper.wp execOp
  simp only [ho, resolve, invoke, builtin, Sem.run_bind, Sem.run_pure, Result.andThen_ok, List.map_toArray, List.map_cons, List.map_nil, hs, hx]
  rw [hr1]
  exact h v1 w1 hs1 hg1
theorem weakB {w w' : World} {r : Option Nat} (h : w.grownBy w' none) : w.grownBy w' r := ⟨h.os, h.tape, h.output, h.size, fun k hk _ => h.block k hk (fun e => by cases e)⟩
theorem one_put {w : World} {b : Nat} {x u : Value} {t : TypeId} (h : Box w b #[x] t) : Box (w.setCell ⟨b, 0, none⟩ u) b #[u] t := box_set h 0 u
set_option maxRecDepth 20000 in
set_option maxHeartbeats 8000000 in
theorem follow_any (hRP : Repeats) (w : World) (B : Nat) (W H p y0 : Int) (r : Nat) (x : Value) (X : List Int) (hx : Sees .i64 w x X) (hB : Box w B #[.int .i64 p] 3) (hd : 0 ≤ daysOf W H X p y0) (hr : r ≤ 30) (hyw : (Lit.int .i64 y0).wf = true) :
    Calls Try.prog 53 #[.agg #[.int .i64 W, .int .i64 H, x], .pointer (some ⟨B, 0, none⟩), .agg #[.int .i64 y0, .int .i64 (r : Int)]] w fun e w' => ∃ u, e = .returned u ∧ SeesG encI w' u (legCells W H X p (y0, (r : Int))) ∧ Box w' B #[.int .i64 y0] 3 ∧ w.grownBy w' (some B) := by
  obtain ⟨i0, hi, hz0, hz1, hz2⟩ := info_parts info_i
  obtain ⟨xa, xn, xc, rfl, HXN⟩ := hx.shape
  have g1 := World.grownBy_alloc w (.cells #[.int .i64 W, .int .i64 H, .slice xa xn xc] 29 (0, 0)) (none : Option Nat)
  have g2 := World.grownBy_alloc (w.alloc (.cells #[.int .i64 W, .int .i64 H, .slice xa xn xc] 29 (0, 0))) (.cells #[.int .i64 y0, .int .i64 (r : Int)] 72 (0, 0)) (none : Option Nat)
  have gg := grownN_trans g1 g2
  have b1 := (box_new w #[.int .i64 W, .int .i64 H, .slice xa xn xc] 29).grown g2
  have b2 := box_new (w.alloc (.cells #[.int .i64 W, .int .i64 H, .slice xa xn xc] 29 (0, 0))) #[.int .i64 y0, .int .i64 (r : Int)] 72
  simp only [World.size_alloc] at b2
  have hsz : ((w.alloc (.cells #[.int .i64 W, .int .i64 H, .slice xa xn xc] 29 (0, 0))).alloc (.cells #[.int .i64 y0, .int .i64 (r : Int)] 72 (0, 0))).heap.size = w.heap.size + 2 := by simp
  have HSZ := Lib.hid hsz
  have HG := Lib.hid gg
  have HB1 := Lib.hid b1
  have HB2 := Lib.hid b2
  have HBB := Lib.hid (hB.grown gg)
  have HX := Lib.hid (hx.grown gg)
  have HRP := Lib.hid hRP
  have HYW := Lib.hid hyw
  have HR30 := Lib.hid hr
  have HBL := Lib.hid hB.lt
  obtain ⟨M, hM⟩ : ∃ M, M = wayOf W H X p y0 := ⟨_, rfl⟩
  have hwl : 0 < M.length := by
    obtain ⟨d, hd⟩ : ∃ d : Nat, daysOf W H X p y0 = d := ⟨(daysOf W H X p y0).toNat, by omega⟩
    rw [hM, (wayP hd).len]; omega
  have hwt : M.length ≤ 65 := by rw [hM]; exact wayOf_len W H X p y0
  have HWT := Lib.hid (fun w' hx => WayI.wayTo_any w' W H p y0 (.slice xa xn xc) X hx)
  rw [← hM] at HWT
  have HLC : Hid (legCells W H X p (y0, (r : Int)) = M.drop 1 ++ List.replicate r y0) := by show _ = _; rw [hM]; rfl
  have h1M : (1 : Int) ≤ (M.length : Int) := by omega
  clear g1 g2 gg b1 b2 hsz hx hB hd hM hyw hr hRP
  go_enter Try.func53, Try.ntmps53
  go_wp2_with fail
  generalize (w.alloc (.cells #[.int .i64 W, .int .i64 H, .slice xa xn xc] 29 (0, 0))).alloc (.cells #[.int .i64 y0, .int .i64 (r : Int)] 72 (0, 0)) = W2 at *
  have HQ0 := Lib.hid (grown_drew (World.grownBy.refl W2 none))
  have HS : Hid (∀ w', W2.grownBy w' none → (w'.cell? ⟨w.heap.size, 0, none⟩ = some (.int .i64 W) ∧ w'.cell? ⟨w.heap.size, 1, none⟩ = some (.int .i64 H) ∧ w'.cell? ⟨w.heap.size, 2, none⟩ = some (.slice xa xn xc)) ∧ w'.cell? ⟨B, 0, none⟩ = some (.int .i64 p) ∧ w'.cell? ⟨w.heap.size + 1, 0, none⟩ = some (.int .i64 y0)) := fun w' hg => ⟨⟨(HB1.out.grown hg).cell 0, (HB1.out.grown hg).cell 1, (HB1.out.grown hg).cell 2⟩, (HBB.out.grown hg).cell 0, (HB2.out.grown hg).cell 0⟩
  go_region_held_law (fun w' => (w'.cell? ⟨w.heap.size, 0, none⟩ = some (.int .i64 W) ∧ w'.cell? ⟨w.heap.size, 1, none⟩ = some (.int .i64 H) ∧ w'.cell? ⟨w.heap.size, 2, none⟩ = some (.slice xa xn xc)) ∧ w'.cell? ⟨B, 0, none⟩ = some (.int .i64 p) ∧ w'.cell? ⟨w.heap.size + 1, 0, none⟩ = some (.int .i64 y0)) (first | exact HS.out _ HQ0.out | exact HS.out _ HQ1.out) (first | (go_at_call 93; refine (HWT.out _ (HX.out.grown HQ0.out)).mono ?_; rintro e w5 ⟨u5, rfl, ho5, hg5⟩; have HQ1 := Lib.hid (grownN_trans HQ0.out hg5); have HO5 := Lib.hid (toG ho5); obtain ⟨g5, c5, hu5⟩ := own_at HO5.out hwl; subst hu5; clear ho5 hg5))
  have HGE : Hid (w.heap.size + 2 ≤ g5) := by
    show _ ≤ _
    have h1 := (HO5.out.lt g5 rfl).1
    have h2 := HSZ.out
    have h3 := HQ0.out.size
    omega
  have HB5 := Lib.hid (HBB.out.grown HQ1.out)
  have d0 := (HB2.out.grown HQ1.out).cell 0
  have p0 := HB5.out.cell 0
  have f0 := HB5.out.free 0
  simp only [List.getElem?_toArray, List.getElem?_cons_zero] at d0 p0
  have HB6 := Lib.hid (one_put (u := .int .i64 y0) HB5.out)
  have hst := grown_set w5 B 0 (.int .i64 y0)
  have HO6 := Lib.hid (HO5.out.kept hst (.inr (fun e => by have h1 := HGE.out; have h2 := HBL.out; have h3 := Option.some.inj (show some g5 = some B from e); omega)))
  have HL6 := Lib.hid ((HB2.out.grown HQ1.out).kept hst (fun e => by have h2 := HBL.out; have h3 := Option.some.inj e; omega))
  have HFIN0 := Lib.hid (grownN_trans (weakB (r := some B) (grownN_trans HG.out HQ1.out)) hst)
  clear hst
  go_wp2_with fail
  generalize w5.setCell ⟨B, 0, none⟩ (.int .i64 y0) = w6 at *
  have HD6 := Lib.hid (grown_drew (World.grownBy.refl w6 none))
  have HS3 : Hid (∀ w', w6.grownBy w' none → w'.cell? ⟨w.heap.size + 1, 0, none⟩ = some (.int .i64 y0) ∧ w'.cell? ⟨w.heap.size + 1, 1, none⟩ = some (.int .i64 (r : Int))) := fun w' hg => ⟨(HL6.out.grown hg).cell 0, (HL6.out.grown hg).cell 1⟩
  have HS38 : Hid (∀ w7 w8, w6.grownBy w7 none → w7.grownBy w8 (some g5) → w8.cell? ⟨w.heap.size + 1, 0, none⟩ = some (.int .i64 y0) ∧ w8.cell? ⟨w.heap.size + 1, 1, none⟩ = some (.int .i64 (r : Int))) := fun w7 w8 h7 h8 => by
    obtain ⟨a0, a1⟩ := HS3.out w7 h7
    have h1 := HGE.out
    exact ⟨h8.cell a0 (by simp; omega), h8.cell a1 (by simp; omega)⟩
  have HFIN : Hid (∀ w7 w8, w6.grownBy w7 none → w7.grownBy w8 (some g5) → w.grownBy w8 (some B)) := fun w7 w8 h7 h8 => by
    have h9 := grownN_trans HFIN0.out (weakB (r := some B) h7)
    refine ⟨h8.os.trans h9.os, h8.tape.trans h9.tape, h8.output.trans h9.output, Nat.le_trans h9.size h8.size, fun k hk hne => ?_⟩
    have h1 := HGE.out
    exact (h8.block k (Nat.lt_of_lt_of_le hk h9.size) (fun e => by have := Option.some.inj e; omega)).trans (h9.block k hk hne)
  clear d0 p0 f0
  by_cases hc1 : c5 = 1
  · subst hc1
    go_region_held_law (fun w' => w'.cell? ⟨w.heap.size + 1, 0, none⟩ = some (.int .i64 y0) ∧ w'.cell? ⟨w.heap.size + 1, 1, none⟩ = some (.int .i64 (r : Int))) (first | exact HS3.out _ HD6.out | exact HS3.out _ (grown_drew (World.grownBy_alloc _ _ none)) | exact HS3.out _ HQ7.out | exact HW8.out) (first | (go_at_call 94; refine (HRP.out _ _ y0 r (by first | exact seesG_one (e := encI) (E := 3) _ y0 #[.int .i64 y0] rfl HYW.out | exact (seesG_one (e := encI) (E := 3) _ y0 #[.int .i64 y0] rfl HYW.out).grown (grown_drew (World.grownBy.refl _ none))) HR30.out).mono ?_; rintro e w7 ⟨u7, rfl, hs7, hg7⟩; have HQ7 := Lib.hid (grownN_trans (by first | exact HD6.out | exact grown_drew (World.grownBy_alloc _ _ none) | exact World.grownBy_alloc _ _ none) hg7 : w6.grownBy w7 none); have HS7 := Lib.hid hs7; clear hs7 hg7) | (have hzz := HQ7.out; clear hzz; refine step_tail _ (by rfl) _ _ _ (by rfl) 3 i0 (.int .i64 0) Try.underlying22 hi hz0 hz1 hz2 (by rfl) (k := 1) (by rfl) (HO6.out.grown HQ7.out) (by omega) (by omega) _ (List.replicate r y0) (by rfl) HS7.out (by have := HR30.out; simp; omega) ?_; intro v8 w8 hs8 hg8; have HW8 := Lib.hid (HS38.out _ _ HQ7.out hg8); have HS8 := Lib.hid hs8; have HG8 := Lib.hid hg8; clear hs8 hg8))
    all_goals
      go_wp2
      go_ret
      refine ⟨v8, ?_, by rw [HLC.out]; exact HS8.out, (HB6.out.grown HQ7.out).kept HG8.out (fun e => by have h1 := HGE.out; have h2 := HBL.out; have h3 := Option.some.inj e; omega), HFIN.out _ _ HQ7.out HG8.out⟩
      first | rfl | (simp; done) | (congr 1; simp; done) | (simp [Array.getD]; done)
  · skip
    go_region_held_law (fun w' => w'.cell? ⟨w.heap.size + 1, 0, none⟩ = some (.int .i64 y0) ∧ w'.cell? ⟨w.heap.size + 1, 1, none⟩ = some (.int .i64 (r : Int))) (first | exact HS3.out _ HD6.out | exact HS3.out _ (grown_drew (World.grownBy_alloc _ _ none)) | exact HS3.out _ HQ7.out | exact HW8.out) (first | (go_at_call 94; refine (HRP.out _ _ y0 r (by first | exact seesG_one (e := encI) (E := 3) _ y0 #[.int .i64 y0] rfl HYW.out | exact (seesG_one (e := encI) (E := 3) _ y0 #[.int .i64 y0] rfl HYW.out).grown (grown_drew (World.grownBy.refl _ none))) HR30.out).mono ?_; rintro e w7 ⟨u7, rfl, hs7, hg7⟩; have HQ7 := Lib.hid (grownN_trans (by first | exact HD6.out | exact grown_drew (World.grownBy_alloc _ _ none) | exact World.grownBy_alloc _ _ none) hg7 : w6.grownBy w7 none); have HS7 := Lib.hid hs7; clear hs7 hg7) | (have hzz := HQ7.out; clear hzz; refine step_tail _ (by rfl) _ _ _ (by rfl) 3 i0 (.int .i64 0) Try.underlying22 hi hz0 hz1 hz2 (by rfl) (k := 1) (by rfl) (HO6.out.grown HQ7.out) (by omega) (by omega) _ (List.replicate r y0) (by rfl) HS7.out (by have := HR30.out; simp; omega) ?_; intro v8 w8 hs8 hg8; have HW8 := Lib.hid (HS38.out _ _ HQ7.out hg8); have HS8 := Lib.hid hs8; have HG8 := Lib.hid hg8; clear hs8 hg8))
    all_goals
      go_wp2
      go_ret
      refine ⟨v8, ?_, by rw [HLC.out]; exact HS8.out, (HB6.out.grown HQ7.out).kept HG8.out (fun e => by have h1 := HGE.out; have h2 := HBL.out; have h3 := Option.some.inj e; omega), HFIN.out _ _ HQ7.out HG8.out⟩
      first | rfl | (simp; done) | (congr 1; simp; done) | (simp [Array.getD]; done)
end Go.Proofs.Ytbpiojnehomljaa.Pln
