/- Contract of the program's PlanCells, given slices.Repeat's. bits.Mul of 1 and a small count. Contract of slices.Repeat at a row of one int: so many of it. -/
import Derived.Test.YtbpiojnehomljaaG34
import Derived.Laws.IdiomCopy
import Derived.OwnWalk
namespace Go.Proofs.Ytbpiojnehomljaa.Pln
open Go.RowKit Kit Rw Rg Ld Wf App

theorem ownI_one (w : World) (x : Int) (hx : (Lit.int .i64 x).wf = true) : OwnG encI 3 (w.alloc (.cells #[.int .i64 x] 3 (0, 0))) w.heap.size (.slice (some ⟨w.heap.size, 0, none⟩) 1 1) [x] :=
  ⟨⟨by rw [flat_int]; rfl, .inr ⟨w.heap.size, 1, #[.int .i64 x], rfl, Nat.le_refl _, heap_alloc_new w _, by simp, by unfold maxLen; omega, by simp [encI], by rw [flat_int]; rfl⟩⟩, fun y hy => by simp at hy; subst hy; exact hx⟩
theorem old_rowG {α : Type} {e : Enc α} {w W' W : World} {v : Value} {P : List α} {C : Nat} (h : SeesG e w v P) (hg : w.grownBy W' none) (hC : w.heap.size ≤ C) (hW : W'.grownBy W (some C)) : SeesG e W v P := by
  have h' := h
  obtain ⟨a, c, rfl, h1, h2, h3, h4, h5⟩ := h
  rcases h5 with rfl | ⟨b, o, rfl, h6⟩
  · exact ⟨a, c, rfl, h1, h2, h3, h4, .inl rfl⟩
  · by_cases h0 : P = []
    · subst h0; exact ⟨_, c, rfl, h1, h2, h3, h4, .inl rfl⟩
    · obtain ⟨b', o', e, hlt, _⟩ := h'.at_row (List.length_pos_iff.2 h0)
      injection e with e
      injection e with e1 e2
      subst e1
      exact (h'.grown hg).kept hW (.inr (by intro hh; have hh := Option.some.inj (show some b = some C from hh); omega))
theorem toSees {w : World} {v : Value} {L : List Int} (h : SeesG encI w v L) : Sees .i64 w v L := by
  obtain ⟨a, c, rfl, h1, h2, h3, h4, h5⟩ := h
  refine ⟨a, c, rfl, h1, h2, h3, h4, ?_⟩
  rcases h5 with h5 | ⟨b, o, rfl, h6⟩
  · exact .inl h5
  · refine .inr ⟨b, o, rfl, fun j hj => ?_⟩
    rw [h6 j (by simpa [encI] using hj), flat_int]
    simp [hj]

set_option maxRecDepth 20000 in
set_option maxHeartbeats 4000000 in
theorem iCells_any (hRP : Repeats) (w : World) (W H frm : Int) (x v : Value) (X : List Int) (L : List G2) (hf : (Lit.int .i64 frm).wf = true) (hx : Sees .i64 w x X) (hv : SeesG encP w v L) :
    Calls Try.prog 15 #[.agg #[.int .i64 W, .int .i64 H, x], .int .i64 frm, v] w fun e w' => ∃ u, e = .returned u ∧ OwnG encI 3 w' w.heap.size u (planCells W H X frm L) ∧ w.grownBy w' none := by
  have hmf : ∀ (fn : Fn) (first cap : Array Value) (w : World), (Instr.makeFunc fn first cap).run Try.prog w = .ok (.func fn first cap) w := fun _ _ _ _ => rfl
  obtain ⟨i0, hi, hz0, hz1, hz2⟩ := info_parts info_i
  obtain ⟨xa, xn, xc, rfl, HXN⟩ := hx.shape
  obtain ⟨va, vn, vc, rfl, HVN⟩ := hv.shape
  have g1 := World.grownBy_alloc w (.cells #[.int .i64 W, .int .i64 H, .slice xa xn xc] 29 (0, 0)) (none : Option Nat)
  have HG1 := Lib.hid g1
  have HB := Lib.hid (box_new w #[.int .i64 W, .int .i64 H, .slice xa xn xc] 29)
  have HSZ : Hid ((w.alloc (.cells #[.int .i64 W, .int .i64 H, .slice xa xn xc] 29 (0, 0))).heap.size = w.heap.size + 1) := by show _ = _; simp
  have c0 := HB.out.cell 0
  have c1 := HB.out.cell 1
  have c2 := HB.out.cell 2
  simp only [List.getElem?_toArray, List.getElem?_cons_succ, List.getElem?_cons_zero] at c0 c1 c2
  have HX0 := Lib.hid (seesI hx)
  have HV0 := Lib.hid hv
  have HF := Lib.hid hf
  have HRP := Lib.hid hRP
  have HIP := Lib.hid (iPlan_any _ W H frm _ _ X L (hx.grown g1) (hv.grown g1))
  clear g1 hx hf hv hRP
  cases hp : isPlan W H X frm L
  · have HR : Hid (planCells W H X frm L = []) := by show _ = _; unfold planCells; rw [if_neg (by rw [hp]; decide)]
    rw [hp] at HIP
    go_enter Try.func15, Try.ntmps15
    go_wp2_with fail
    refine HIP.out.mono ?_
    rintro e w2 ⟨rfl, hg⟩
    have HG := Lib.hid (grownN_trans HG1.out hg)
    clear hg
    go_wp2
    go_ret
    exact ⟨_, rfl, by rw [HR.out]; exact (ownG_empty w2).lower HG.out.size, grownN_trans HG.out (World.grownBy_alloc _ _ _)⟩
  have HR : Hid (planCells W H X frm L = cellsTo W H X frm L L.length) := by show _ = _; unfold planCells; rw [if_pos hp]
  obtain ⟨hup, hl10, _⟩ := plan_up hp
  have HUP := Lib.hid hup
  have HL10 := Lib.hid hl10
  have HCL := Lib.hid (cells_len hup)
  rw [hp] at HIP
  clear hp hup hl10
  go_enter Try.func15, Try.ntmps15
  go_wp2_with fail
  generalize w.alloc (.cells #[.int .i64 W, .int .i64 H, .slice xa xn xc] 29 (0, 0)) = W1 at *
  refine HIP.out.mono ?_
  rintro e w2 ⟨rfl, hg⟩
  have HG2 := Lib.hid hg
  have hgB := World.grownBy_alloc w2 (.cells #[.int .i64 frm] 3 (0, 0)) (none : Option Nat)
  have HG3 := Lib.hid (grownN_trans (grownN_trans HG1.out hg) hgB)
  have HLE : Hid (w.heap.size + 1 ≤ w2.heap.size) := by show _ ≤ _; have h1 := hg.size; have h2 := HSZ.out; omega
  have HCALL := Lib.hid (flat_any HRP.out (w2.alloc (.cells #[.int .i64 frm] 3 (0, 0))) w.heap.size w2.heap.size W H frm (.slice xa xn xc) (.slice va vn vc) X L (toSees (HX0.out.grown HG3.out)) (fun W' hW => old_rowG HV0.out HG3.out (by have := HLE.out; omega) hW) ((HB.out.grown hg).grown hgB) (box_new w2 #[.int .i64 frm] 3) (by have := HLE.out; omega) (fun W' hW => toSees (old_rowG HX0.out HG3.out (by have := HLE.out; omega) hW)) HUP.out HL10.out)
  clear hg hgB c0 c1 c2
  go_wp2_with fail
  refine HCALL.out.mono ?_
  rintro e w5 ⟨u5, rfl, ho, hg⟩
  have HU5 := Lib.hid ho
  have HG5 : Hid (w.grownBy w5 none) := grown_new HG3.out hg (fun c hc => by have h1 := HLE.out; have h2 := Option.some.inj hc; omega)
  have HO1 := Lib.hid (ownI_one w5 frm HF.out)
  have HU6 := Lib.hid (ho.sees.grown (World.grownBy_alloc w5 (.cells #[.int .i64 frm] 3 (0, 0)) none))
  have HFC : Hid (cellsTo W H X frm L L.length = [frm] ++ (cellsTo W H X frm L L.length).drop 1) := by
    show _ = _
    have h : ∀ k, ∃ T, cellsTo W H X frm L k = frm :: T := fun k => by
      induction k with
      | zero => exact ⟨[], rfl⟩
      | succ k ih => obtain ⟨T, hT⟩ := ih; exact ⟨_, by rw [cellsTo, hT]; rfl⟩
    obtain ⟨T, hT⟩ := h L.length
    rw [hT]; rfl
  have HDL : Hid (((cellsTo W H X frm L L.length).drop 1).length ≤ 1000) := by show _ ≤ _; rw [List.length_drop]; have h1 := HCL.out; have h2 := HL10.out; omega
  clear ho hg
  go_wp2_with (at_builtin; go_loud (refine wpListG_append_sees _ rfl _ _ 22 rfl w5.heap.size 3 i0 (.int .i64 0) 8 Try.underlying22 hi hz0 hz1 hz2 rfl _ [frm] rfl HO1.out _ ((cellsTo W H X frm L L.length).drop 1) rfl HU6.out (by have := HDL.out; unfold maxLen; simp at this ⊢; omega) (by have := HDL.out; simp at this ⊢; omega) (by simp) ?_); intro v6 w6 hown6 hgrow6; have HO6 := Lib.hid hown6; have HG6 := Lib.hid (grown_new (World.grownBy_alloc w5 (.cells #[.int .i64 frm] 3 (0, 0)) none) hgrow6 (fun c hc => (HO1.out.lt c hc).1)); clear hown6 hgrow6)
  go_ret
  exact ⟨_, rfl, by rw [HR.out, HFC.out]; exact HO6.out.lower HG5.out.size, grownN_trans HG5.out HG6.out⟩
end Go.Proofs.Ytbpiojnehomljaa.Pln

namespace Go.Proofs.Ytbpiojnehomljaa.Pln
open Go.RowKit Kit Rw Rg

theorem small {r : Nat} (h : r ≤ 30) : r = 0 ∨ r = 1 ∨ r = 2 ∨ r = 3 ∨ r = 4 ∨ r = 5 ∨ r = 6 ∨ r = 7 ∨ r = 8 ∨ r = 9 ∨ r = 10 ∨ r = 11 ∨ r = 12 ∨ r = 13 ∨ r = 14 ∨ r = 15 ∨ r = 16 ∨ r = 17 ∨ r = 18 ∨ r = 19 ∨ r = 20 ∨ r = 21 ∨ r = 22 ∨ r = 23 ∨ r = 24 ∨ r = 25 ∨ r = 26 ∨ r = 27 ∨ r = 28 ∨ r = 29 ∨ r = 30 := by omega
set_option maxRecDepth 20000 in
set_option maxHeartbeats 2000000 in
theorem mul64_any (w : World) (r : Nat) (h : r ≤ 30) :
    Calls Try.prog 135 #[.int .u64 1, .int .u64 (r : Int)] w fun e w' => e = .returned (.tuple #[.int .u64 0, .int .u64 (r : Int)]) ∧ w = w' := by
  rcases small h with rfl | rfl | rfl | rfl | rfl | rfl | rfl | rfl | rfl | rfl | rfl | rfl | rfl | rfl | rfl | rfl | rfl | rfl | rfl | rfl | rfl | rfl | rfl | rfl | rfl | rfl | rfl | rfl | rfl | rfl | rfl
  all_goals
    go_enter Try.func135, Try.ntmps135
    go_wp2
    go_ret2
    exact ⟨rfl, rfl⟩
set_option maxRecDepth 20000 in
theorem mul_any (w : World) (r : Nat) (h : r ≤ 30) :
    Calls Try.prog 120 #[.int .u64 1, .int .u64 (r : Int)] w fun e w' => e = .returned (.tuple #[.int .u64 0, .int .u64 (r : Int)]) ∧ w = w' := by
  have HM := Lib.hid (mul64_any w r h)
  go_enter Try.func120, Try.ntmps120
  go_wp2_with fail
  refine HM.out.mono ?_
  rintro e w2 ⟨rfl, rfl⟩
  go_wp2
  go_ret2
  exact ⟨rfl, rfl⟩
end Go.Proofs.Ytbpiojnehomljaa.Pln

namespace Go.Proofs.Ytbpiojnehomljaa.Pln
open Go.RowKit Kit Rw Rg App

theorem rep_set (c : Int) (k m : Nat) : (List.replicate k c ++ List.replicate (m + 1) 0).set k c = List.replicate (k + 1) c ++ List.replicate m 0 := by
  rw [List.set_append, if_neg (by simp), List.length_replicate, Nat.sub_self, List.replicate_succ, List.set_cons_zero, List.replicate_succ', List.append_assoc]; rfl
theorem fill_own {c : Int} (hc : (Lit.int .i64 c).wf = true) {E : TypeId} {base g n cap : Nat} : ∀ (j k m : Nat) (w : World), j ≤ m → k + m = n → OwnG encI E w base (.slice (some ⟨g, 0, none⟩) n cap) (List.replicate k c ++ List.replicate m 0) →
    OwnG encI E (w.setCells g k (List.replicate j (.int .i64 c))) base (.slice (some ⟨g, 0, none⟩) n cap) (List.replicate (k + j) c ++ List.replicate (m - j) 0) ∧ w.grownBy (w.setCells g k (List.replicate j (.int .i64 c))) (some g)
  | 0, k, m, w, _, _, h => ⟨h, World.grownBy.refl w _⟩
  | j + 1, k, m, w, hj, hn, h => by
    obtain ⟨m', rfl⟩ : ∃ m', m = m' + 1 := ⟨m - 1, by omega⟩
    obtain ⟨h1, h2⟩ := h.put (j := k) (i := 0) (u := .int .i64 c) (x := c) (by simp; omega) (by simp) Nat.zero_lt_one rfl hc
    rw [rep_set] at h1
    have e : k * encI.size + 0 = k := by simp [encI]
    rw [e] at h1 h2
    obtain ⟨h3, h4⟩ := fill_own hc j (k + 1) m' _ (by omega) (by omega) h1
    rw [show k + 1 + j = k + (j + 1) by omega, show m' - j = m' + 1 - (j + 1) by omega] at h3
    rw [List.replicate_succ]
    exact ⟨h3, h2.trans h4⟩
theorem run_copy_fill {P : Program} (w : World) (t ty E : TypeId) (ht : P.underlying t = some (.slice E)) (hi : (P.info? E).map (·.size) = some 1)
    {base g n cap k m dc sn sc : Nat} {c : Int} {a : Addr} (hc : (Lit.int .i64 c).wf = true) (hown : OwnG encI E w base (.slice (some ⟨g, 0, none⟩) n cap) (List.replicate k c ++ List.replicate m 0)) (hn : k + m = n) (hs : SeesG encI w (.slice (some a) sn sc) (List.replicate sn c)) :
    ∃ w', (Builtin.copy_ #[t, t] ty #[.slice (some ⟨g, k, none⟩) m dc, .slice (some a) sn sc]).run P w = .ok (.int .i64 ((min sn m : Nat) : Int)) w' ∧ OwnG encI E w' base (.slice (some ⟨g, 0, none⟩) n cap) (List.replicate (k + min sn m) c ++ List.replicate (m - min sn m) 0) ∧ w.grownBy w' (some g) := by
  obtain ⟨h1, h2⟩ := fill_own hc (min sn m) k m w (Nat.min_le_right _ _) hn hown
  refine ⟨_, ?_, h1, h2⟩
  have ho := hown.1
  rcases ho.2 with ⟨h0, _⟩ | ⟨g', cap', cur, hv, hb, hg, hnc, hcm, hcs, htk⟩
  · cases h0
  injection hv with e1 e2 e3
  injection e1 with e1
  injection e1 with e1
  subst e1; subst e2; subst e3
  have h := run_copy_cells (P := P) w t t ty E g k m dc a sn sc (List.replicate (min sn m) (.int .i64 c)) ht hi (by simp) ?_ ?_ ?_ ?_
  · rw [h]; simp [goInt]
  · intro j v hj
    have hjl : j < min sn m := by have := (List.getElem?_eq_some_iff.1 hj).1; simpa using this
    obtain ⟨a', cap', e, _, _, _, _, h5⟩ := hs
    injection e with e1 e2 e3
    rcases h5 with h5 | ⟨b, o, e5, h6⟩
    · have := congrArg List.length h5; simp at this; omega
    · rw [e5] at e1
      have e1 := Option.some.inj e1
      subst e1
      rw [Addr.add_mid, h6 j (by simp [encI]; omega), flat_int, List.map_replicate]
      rw [← hj, List.getElem?_replicate, List.getElem?_replicate, if_pos (by omega), if_pos hjl]
  · intro j hj
    simp at hj
    rw [ho.cellAt (k + j) (by simp [encI]; omega), flat_int]
    rw [List.getElem?_eq_getElem (by simp; omega)]; rfl
  · intro j hj
    simp [World.frozen?, hg]
  · intro v hv
    rw [List.mem_replicate] at hv
    rw [hv.2]; rfl
/-- The copy at a step of a drawn region. -/
theorem step_copy {P : Program} (w : World) {ops : Array Oper} {o : Oper} {a : Act} {K : Act → World → Prop} {Q : Exit → Act → World → Prop} {E0 : Prop} (hgd : o.guard = none) (d s : Operand) (t : TypeId)
    (ho : o.op = .call { callee := .builtin .copy, args := #[d, s], argTypes := #[t, t] })
    (E : TypeId) (ht : P.underlying t = some (.slice E)) (hi : (P.info? E).map (·.size) = some 1)
    {base g n cap k m dc sn sc o' : Nat} {c : Int} {ad : Addr} (hd : a.eval d = .slice (some ⟨g, o', none⟩) m dc) (ho' : o' = k) (hx : a.eval s = .slice (some ad) sn sc) (hc : (Lit.int .i64 c).wf = true) (hown : OwnG encI E w base (.slice (some ⟨g, 0, none⟩) n cap) (List.replicate k c ++ List.replicate m 0)) (hn : k + m = n) (hs : SeesG encI w (.slice (some ad) sn sc) (List.replicate sn c))
    (h : ∀ w', OwnG encI E w' base (.slice (some ⟨g, 0, none⟩) n cap) (List.replicate (k + min sn m) c ++ List.replicate (m - min sn m) 0) → w.grownBy w' (some g) → K (a.put o.dst (.int .i64 ((min sn m : Nat) : Int))) w') :
    if Region.wanted o (yielded ops a.tmps) = true then Oper.wp P o a w K Q else E0 := by
  subst ho'
  have hw : Region.wanted o (yielded ops a.tmps) = true := by simp [Region.wanted, hgd]
  rw [if_pos hw]
  obtain ⟨w1, hr1, h1, h2⟩ := run_copy_fill (P := P) w t o.type E ht hi (dc := dc) hc hown hn hs
  unfold Oper.wp execOp
  simp only [ho, resolve, invoke, builtin, Sem.run_bind, Sem.run_pure, Result.andThen_ok, List.map_toArray, List.map_cons, List.map_nil, hd, hx]
  rw [hr1]
  exact h w1 h1 h2
/-- The copy in a walk. -/
theorem wpList_copy {P : Program} (w : World) {ops : Array Oper} {rest : List Oper} {o : Oper} {a : Act} {Q : Exit → Act → World → Prop} (hgd : o.guard = none) (d s : Operand) (t : TypeId)
    (ho : o.op = .call { callee := .builtin .copy, args := #[d, s], argTypes := #[t, t] })
    (E : TypeId) (ht : P.underlying t = some (.slice E)) (hi : (P.info? E).map (·.size) = some 1)
    {base g n cap k m dc sn sc : Nat} {c : Int} {ad : Addr} (hd : a.eval d = .slice (some ⟨g, k, none⟩) m dc) (hx : a.eval s = .slice (some ad) sn sc) (hc : (Lit.int .i64 c).wf = true) (hown : OwnG encI E w base (.slice (some ⟨g, 0, none⟩) n cap) (List.replicate k c ++ List.replicate m 0)) (hn : k + m = n) (hs : SeesG encI w (.slice (some ad) sn sc) (List.replicate sn c))
    (h : ∀ w', OwnG encI E w' base (.slice (some ⟨g, 0, none⟩) n cap) (List.replicate (k + min sn m) c ++ List.replicate (m - min sn m) 0) → w.grownBy w' (some g) → wpList P ops Q rest (a.put o.dst (.int .i64 ((min sn m : Nat) : Int))) w') : wpList P ops Q (o :: rest) a w := by
  refine wpList_plain hgd fun K hK => ?_
  obtain ⟨w1, hr1, h1, h2⟩ := run_copy_fill (P := P) w t o.type E ht hi (dc := dc) hc hown hn hs
  unfold Oper.wp execOp
  simp only [ho, resolve, invoke, builtin, Sem.run_bind, Sem.run_pure, Result.andThen_ok, List.map_toArray, List.map_cons, List.map_nil, hd, hx]
  rw [hr1]
  exact hK _ _ (h w1 h1 h2)

theorem pre_sees {w : World} {E : TypeId} {base g n cap k m : Nat} {c : Int} (h : OwnG encI E w base (.slice (some ⟨g, 0, none⟩) n cap) (List.replicate k c ++ List.replicate m 0)) (hc : (Lit.int .i64 c).wf = true) (hkm : k + m = n) : SeesG encI w (.slice (some ⟨g, 0, none⟩) k cap) (List.replicate k c) := by
  have hs := h.sees
  have hcap := SeesG.caps hs
  have h2 := Apt.sees_cells (w := w) (b := g) (o := 0) (cap := cap) (L := List.replicate k c) (by simp; omega) hcap.2 (fun x hx => by rw [List.mem_replicate] at hx; rw [hx.2]; exact hc) (fun j v hj => by
    have hjl : j < k := by have := (List.getElem?_eq_some_iff.1 hj).1; simpa using this
    have hcell := hs.at' (j := j) (by simp; omega) (i := 0) Nat.zero_lt_one
    rw [show 0 + j * encI.size + 0 = 0 + j by simp [encI]] at hcell
    rw [hcell, ← hj]
    simp [encI, List.getD_eq_getElem?_getD, List.getElem?_append, hjl])
  simpa using h2
/-- A row that was just made: nothing in it. -/
theorem own_made {w : World} {E : TypeId} {base g n cap : Nat} (h : w.ownsRow base E 1 (.slice (some ⟨g, 0, none⟩) n cap) n (madeCells (.int .i64 0 : Value).cells (n * 1)).toList) : OwnG encI E w base (.slice (some ⟨g, 0, none⟩) n cap) (List.replicate n 0) := by
  have e : flat encI (List.replicate n (0 : Int)) = (madeCells (.int .i64 0 : Value).cells (n * 1)).toList := by
    rw [flat_int, List.map_replicate]
    refine List.ext_getElem (by simp [madeCells]) fun j h1 h2 => ?_
    simp [madeCells, Value.cells, Nat.mod_one]
  refine ⟨?_, fun y hy => by rw [List.mem_replicate] at hy; rw [hy.2]; rfl⟩
  show w.ownsRow base E encI.size _ _ _
  rw [e, List.length_replicate]
  exact h

set_option maxRecDepth 20000 in
set_option maxHeartbeats 2000000 in
theorem repeats : Repeats := by
  intro w u c r hu hr
  obtain ⟨i0, hi, hz0, hz1, hz2⟩ := info_parts info_i
  have hc : (Lit.int .i64 c).wf = true := hu.ok c (by simp)
  obtain ⟨ua, un, uc, rfl, HUN⟩ := hu.shape
  have hun : un = 1 := HUN.out.symm
  subst hun
  obtain ⟨ub, uo, rfl, hub, _⟩ := hu.at_row (j := 0) (by simp)
  have HU := Lib.hid hu
  have HC := Lib.hid hc
  have HR := Lib.hid hr
  have HUB := Lib.hid hub
  have HM := Lib.hid fun w' => mul_any w' r hr
  have hI : (Try.prog.info? 3).map (·.size) = some 1 := by rw [hi]; simp [hz1]
  have HI := Lib.hid hI
  clear hu hc hub hI
  go_enter Try.func94, Try.ntmps94
  go_wp2_with fail
  refine (HM.out _).mono ?_
  rintro e w2 ⟨rfl, rfl⟩
  go_wp2_with (first
    | (at_make; refine wpList_make_full _ rfl _ _ 22 rfl w.heap.size 3 i0 (.int .i64 0) 1 Try.underlying22 hi hz0 hz1 .i64 .i64 _ _ r rfl rfl rfl rfl (by rw [hz2]; have := HR.out; omega) (by have := HR.out; unfold maxLen; omega) (Nat.le_refl _) ?_; intro w1 hown hgrow; have HO : Hid (OwnG encI 3 w1 w.heap.size (.slice (some ⟨w.heap.size, 0, none⟩) r r) (List.replicate 0 c ++ List.replicate r 0)) := own_made hown; have HG1 := Lib.hid hgrow; have HU1 := Lib.hid (HU.out.grown hgrow); clear hown hgrow)
    | ((refine wpList_copy _ rfl _ _ 22 rfl 3 Try.underlying22 HI.out (k := 0) (m := r) rfl rfl HC.out HO.out (Nat.zero_add _) HU1.out ?_); intro w2 hown hgrow; have HO2 := Lib.hid hown; have HG2 : Hid (w.grownBy w2 none) := grown_new HG1.out hgrow (fun c hc => Nat.le_of_eq (Option.some.inj hc)); clear hown hgrow))
  have HI2 : Hid (OwnG encI 3 w2 w.heap.size (.slice (some ⟨w.heap.size, 0, none⟩) r r) (List.replicate (min 1 r) c ++ List.replicate (r - min 1 r) 0)) := by
    have h := HO2.out
    rw [Nat.zero_add] at h
    exact h
  clear HO2
  go_loopw [8] (fun i wr => ∃ k : Nat, k ≤ r ∧ i = .int .i64 k ∧ (0 < k ∨ r = 0) ∧ Hid (OwnG encI 3 wr w.heap.size (.slice (some ⟨w.heap.size, 0, none⟩) r r) (List.replicate k c ++ List.replicate (r - k) 0)) ∧ Hid (w.grownBy wr none)) (fun i _ => r - (intOf i).toNat)
  case atStart => exact ⟨min 1 r, Nat.min_le_right _ _, rfl, by omega, HI2, HG2⟩
  case round =>
    obtain ⟨k, hkr, rfl, h0, HO, HG⟩ := hrel
    by_cases hlt : k < r
    · have hk : 0 < k := by omega
      have hr30 := HR.out
      have q1 : ¬ r = k := by omega
      have q2 : (0 : Int) ≤ (k : Int) := by omega
      have q3 : (k : Int) ≤ (r : Int) := by omega
      have q4 : IntKind.i64.wrap ((k : Int) + ((min k (r - k) : Nat) : Int)) = ((k + min k (r - k) : Nat) : Int) := (IntWalk.i64_in _ (by omega)).trans (by omega)
      have HKM := Lib.hid (show k + (r - k) = r by omega)
      have HS := Lib.hid (pre_sees HO.out HC.out HKM.out)
      have HLT := Lib.hid hlt
      go_wp2_with fail
      go_region_held_law (fun _ => True) (trivial) (first | (refine step_copy _ (by rfl) _ _ _ (by rfl) 3 Try.underlying22 HI.out (k := k) (m := r - k) (by rfl) (by first | rfl | (simp [q1]; done)) (by rfl) HC.out HO.out HKM.out HS.out ?_; intro w3 h3 g3; have HO3 := Lib.hid h3; have HG3 : Hid (w.grownBy w3 none) := grown_new (by first | exact HG.out | exact grown_drew HG.out) g3 (fun c hc => Nat.le_of_eq (Option.some.inj hc)); clear h3 g3))
      all_goals
        go_wp2_with fail
        rename_i dd hdd
        have hde : 45 = dd := Option.some.inj hdd
        clear hdd
        subst hde
        go_roundw
        case rel =>
          refine ⟨.int .i64 ((k : Int) + ((min k (r - k) : Nat) : Int)), ⟨k + min k (r - k), by omega, congrArg (Value.int .i64) (by omega), by omega, ?_⟩, ?_⟩
          · have h := HO3.out
            rw [show r - k - min k (r - k) = r - (k + min k (r - k)) by omega] at h
            exact h
          · exact ⟨_, _, _, _, _, _, _, _, _, _, _, _, _, rfl⟩
        case measure =>
          have h1 := HLT.out
          simp only [intOf]
          omega
    · have hkr : k = r := by omega
      subst hkr
      go_wp2
      go_ret
      exact ⟨_, rfl, by have h := HO.out.sees; rw [Nat.sub_self, List.replicate_zero, List.append_nil] at h; exact h, HG.out⟩
end Go.Proofs.Ytbpiojnehomljaa.Pln
