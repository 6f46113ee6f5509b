/- The cells of a plan, day by day: plain facts. An append at a step of a region that draws its order; rows of ints as rows of elements. An append onto the tail of a row of ints that the call owns: what it yields, and that the row's cells stay. Contracts of the model's Reach and WayTo. -/
import Derived.Test.YtbpiojnehomljaaG16
import Derived.Test.YtbpiojnehomljaaPlan
import Derived.Test.YtbpiojnehomljaaG2
import Derived.Laws.OwnMore
import Derived.Laws.AppendOwn
import Derived.OwnWalk
import Derived.Deep.MidRow
import Derived.Deep.AppendSrc
import Derived.Test.YtbpiojnehomljaaG19
namespace Go.Proofs.Ytbpiojnehomljaa.Pln
open Go.RowKit Kit Rw Rg Ld Wf

/-- The cells of one leg, without the one where it begins. -/
noncomputable def legCells (W H : Int) (X : List Int) (a : Int) (y : G2) : List Int := (wayOf W H X a y.1).drop 1 ++ List.replicate y.2.toNat y.1
noncomputable def cellsTo (W H : Int) (X : List Int) (frm : Int) (L : List G2) : Nat → List Int
  | 0 => [frm]
  | k + 1 => cellsTo W H X frm L k ++ legCells W H X (legAt frm L k) (L.getD k (0, 0))
noncomputable def planCells (W H : Int) (X : List Int) (frm : Int) (L : List G2) : List Int := if isPlan W H X frm L = true then cellsTo W H X frm L L.length else []
/-- Within a leg: j of its days of rest have been. -/
noncomputable def midCells (W H : Int) (X : List Int) (frm : Int) (L : List G2) (k j : Nat) : List Int := cellsTo W H X frm L k ++ ((wayOf W H X (legAt frm L k) (L.getD k (0, 0)).1).drop 1 ++ List.replicate j (L.getD k (0, 0)).1)
section
variable {W H : Int} {X : List Int} {frm : Int} {L : List G2} {k j : Nat}
theorem mid_zero : midCells W H X frm L k 0 = cellsTo W H X frm L k ++ (wayOf W H X (legAt frm L k) (L.getD k (0, 0)).1).drop 1 := by
  unfold midCells; rw [List.replicate_zero, List.append_nil]
theorem mid_next : midCells W H X frm L k (j + 1) = midCells W H X frm L k j ++ [(L.getD k (0, 0)).1] := by
  unfold midCells; rw [List.replicate_succ', List.append_assoc, List.append_assoc]
theorem mid_all : midCells W H X frm L k (L.getD k (0, 0)).2.toNat = cellsTo W H X frm L (k + 1) := by
  unfold midCells; rw [cellsTo]; rfl
theorem getLast_app {A B : List Int} {z : Int} (hb : B.getLast? = some z) : (A ++ B).getLast? = some z := by
  rw [List.getLast?_append, hb]; rfl
/-- The last cell so far is where the next leg begins. -/
theorem cells_last (hu : upL W H X frm L k) : (cellsTo W H X frm L k).getLast? = some (legAt frm L k) := by
  induction k with
  | zero => rfl
  | succ k ih =>
    have ih := ih (fun i hi => hu i (by omega))
    obtain ⟨h1, h2⟩ := hu k (by omega)
    obtain ⟨y, hy⟩ : ∃ y, y = L.getD k (0, 0) := ⟨_, rfl⟩
    rw [cellsTo]
    show _ = some (L.getD k (0, 0)).1
    rw [← hy] at h1 h2 ⊢
    unfold legCells
    obtain ⟨d, hd⟩ : ∃ d : Nat, daysOf W H X (legAt frm L k) y.1 = d := ⟨(daysOf W H X (legAt frm L k) y.1).toNat, by omega⟩
    have hw := wayP hd
    by_cases hr : y.2.toNat = 0
    · rw [hr, List.replicate_zero, List.append_nil]
      by_cases hd0 : d = 0
      · subst hd0
        have e : (wayOf W H X (legAt frm L k) y.1).drop 1 = [] := List.drop_eq_nil_of_le (by rw [hw.len]; omega)
        rw [e, List.append_nil, ih]
        have h1 := hw.first
        have h2 := hw.last
        rw [← h1, h2]
      · refine getLast_app ?_
        rw [List.getLast?_eq_getElem?, List.length_drop, List.getElem?_drop, hw.len]
        have hl := hw.last
        have e : 1 + (d + 1 - 1 - 1) = d := by omega
        rw [e, List.getElem?_eq_getElem (by rw [hw.len]; omega)]
        rw [List.getD_eq_getElem?_getD, List.getElem?_eq_getElem (by rw [hw.len]; omega), Option.getD_some] at hl
        rw [hl]
    · obtain ⟨r, hr'⟩ : ∃ r, y.2.toNat = r + 1 := ⟨y.2.toNat - 1, by omega⟩
      rw [hr', List.replicate_succ', ← List.append_assoc]
      rw [← List.append_assoc]
      exact List.getLast?_concat ..
theorem cells_pos : 0 < (cellsTo W H X frm L k).length := by
  induction k with
  | zero => exact Nat.zero_lt_one
  | succ k ih => rw [cellsTo, List.length_append]; omega
theorem cells_at (hu : upL W H X frm L k) : (cellsTo W H X frm L k).getD ((cellsTo W H X frm L k).length - 1) 0 = legAt frm L k := by
  have h := cells_last hu
  rw [List.getLast?_eq_getElem?] at h
  rw [List.getD_eq_getElem?_getD, h]; rfl
theorem cells_len (hu : upL W H X frm L k) : (cellsTo W H X frm L k).length ≤ 1 + 94 * k := by
  induction k with
  | zero => exact Nat.le_refl _
  | succ k ih =>
    have ih := ih (fun i hi => hu i (by omega))
    obtain ⟨h1, h2⟩ := hu k (by omega)
    have hl := wayOf_len W H X (legAt frm L k) (L.getD k (0, 0)).1
    rw [cellsTo, List.length_append]
    unfold legCells
    rw [List.length_append, List.length_drop, List.length_replicate]
    omega
theorem mid_len (hu : upL W H X frm L k) (hj : j ≤ 30) : (midCells W H X frm L k j).length ≤ 1 + 94 * (k + 1) := by
  have h := cells_len hu
  have hl := wayOf_len W H X (legAt frm L k) (L.getD k (0, 0)).1
  unfold midCells
  rw [List.length_append, List.length_append, List.length_drop, List.length_replicate]
  omega
theorem plan_up (h : isPlan W H X frm L = true) : upL W H X frm L L.length ∧ L.length ≤ 10 ∧ isOpen W H X frm = true := by
  unfold isPlan at h
  rw [Bool.and_eq_true, Bool.and_eq_true, decide_eq_true_eq, decide_eq_true_eq] at h
  exact ⟨h.2.2, h.2.1, h.1⟩
theorem planCells_len (W H : Int) (X : List Int) (frm : Int) (L : List G2) : (planCells W H X frm L).length ≤ 941 := by
  unfold planCells
  split
  · rename_i h
    obtain ⟨hu, hl, _⟩ := plan_up h
    have := cells_len hu
    omega
  · exact Nat.zero_le _
end
end Go.Proofs.Ytbpiojnehomljaa.Pln

namespace Go.Proofs.Ytbpiojnehomljaa.App
open Go.RowKit Kit Rw Rg

/-- 'append(v, u...)' at a step of a region that draws its order: v a row of the call's own, u whatever reads as M. -/
theorem stepG_append {α : Type} {e : Enc α} {P : Program} (w : World) {ops : Array Oper} {o : Oper} {a : Act} {K : Act → World → Prop} {Q : Exit → Act → World → Prop} {E0 : Prop} (hgd : o.guard = none) (s x : Operand) (t : TypeId)
    (ho : o.op = .call { callee := .builtin .append, args := #[s, x], argTypes := #[t, t] })
    (base : Nat) (E : TypeId) (i : TypeInfo) (z : Value) (bytes : Nat) (ht : P.underlying t = some (.slice E)) (hi : P.info? E = some i) (hz : i.zero = some z)
    (hsize : i.size = e.size) (hby : i.bytes = bytes) (hzs : z.cells.size = e.size)
    (v : Value) (L : List α) (hs : a.eval s = v) (hown : OwnG e E w base v L) (u : Value) (M : List α) (hx : a.eval x = u) (hu : SeesG e w u M)
    (h63 : L.length + M.length ≤ maxLen) (hbytes : (L.length + M.length) * bytes ≤ 140737488355328) (w0 : World) (hw0 : w0.grownBy w none) (hbase : w0.heap.size = base)
    (h : ∀ v' w', OwnG e E w' base v' (L ++ M) → w.grownBy w' v.ownBlock → w0.grownBy w' none → K (a.put o.dst v') w') :
    if Region.wanted o (yielded ops a.tmps) = true then Oper.wp P o a w K Q else E0 := by
  have hw : Region.wanted o (yielded ops a.tmps) = true := by simp [Region.wanted, hgd]
  rw [if_pos hw]
  have hlt := hown.lt
  obtain ⟨ho1, hw1⟩ := hown
  have hok := hu.ok
  obtain ⟨ad, cap, rfl, hlc, hcm, hnil, _, hcell⟩ := hu
  have hall : ∀ x ∈ L ++ M, e.ok x := fun x hx => by
    rcases List.mem_append.1 hx with h | h
    · exact hw1 x h
    · exact hok x h
  cases ad with
  | none =>
    have hc := hnil rfl
    subst hc
    have hM : M = [] := List.eq_nil_of_length_eq_zero (by omega)
    subst hM
    have hrun := run_append_owned_none (P := P) (w := w) base t o.type E i e.size ht hi v L.length _ ho1
    have hx' : a.eval x = .slice none 0 0 := by simpa using hx
    unfold Oper.wp
    simp [execOp, ho, resolve, invoke, builtin, hs, hx', hrun, Result.andThen]
    exact h v w ⟨by simpa using ho1, hall⟩ (World.grownBy.refl w _) hw0
  | some ad =>
    obtain ⟨v', w', hr, h2, h3, _⟩ := run_append_own (P := P) w base t o.type E i z e.size bytes ht hi hz hsize hby hzs e.pos v L.length _ ho1 ad M.length cap (flat e M) (flat_len M) (by
      intro j y hy
      have hj : j < M.length * e.size := by rw [← flat_len]; exact (List.getElem?_eq_some_iff.1 hy).1
      rcases hcell with h0 | ⟨b, of, e', hc⟩
      · rw [h0] at hj; simp at hj
      · injection e' with e'
        subst e'
        rw [add_plain, hc j hj, hy]) flat_one h63 hbytes (by rw [← hbase]; exact hw0.size)
    unfold Oper.wp execOp
    simp only [ho, resolve, invoke, builtin, Sem.run_bind, Sem.run_pure, Result.andThen_ok, List.map_toArray, List.map_cons, List.map_nil, hs, hx, hr]
    exact h v' w' ⟨by rw [List.length_append, flat_app]; exact h2, hall⟩ h3 (grown_new hw0 h3 (fun c hc => by have := (hlt c hc).1; omega))

theorem seesI {w : World} {v : Value} {L : List Int} (h : Sees .i64 w v L) : SeesG encI w v L := by
  obtain ⟨a, c, e, h1, h2, h3, h4, h5⟩ := h
  refine ⟨a, c, e, h1, h2, h3, h4, ?_⟩
  rcases h5 with h5 | ⟨b, o, rfl, h6⟩
  · exact .inl h5
  · refine .inr ⟨b, o, rfl, fun j hj => ?_⟩
    have hj' : j < L.length := by simpa [encI] using hj
    rw [h6 j hj']
    have := flat_at (e := encI) (L := L) (j := j) (i := 0) hj' (by decide)
    simp only [encI, Nat.mul_one, Nat.add_zero] at this
    exact this.symm
theorem flat_int : ∀ L : List Int, flat encI L = L.map (Value.int .i64)
  | [] => rfl
  | x :: L => by rw [flat_cons, flat_int L]; rfl
theorem ownI {E : TypeId} {w : World} {base : Nat} {v : Value} {L : List Int} (h : OwnG encI E w base v L) : Rw.Own .i64 E w base v L := by
  refine ⟨?_, h.2⟩
  have h1 := h.1
  rw [flat_int] at h1
  exact h1
/-- Where a row of ints that the call owns is stored into. -/
theorem flip_set {w : World} {base g n cap : Nat} {L : List Int} (h : OwnG encI 3 w base (.slice (some ⟨g, 0, none⟩) n cap) L) (hn : L.length = n) {j : Nat} (hj : j < L.length) {x : Int} (hx : (Lit.int .i64 x).wf = true) :
    OwnG encI 3 (w.setCell ⟨g, j, none⟩ (.int .i64 x)) base (.slice (some ⟨g, 0, none⟩) n cap) (L.set j x) ∧ w.grownBy (w.setCell ⟨g, j, none⟩ (.int .i64 x)) (some g) := by
  have := h.put hn (j := j) (i := 0) (u := .int .i64 x) (x := x) hj (by decide) rfl hx
  simpa [encI] using this
theorem own_at {w : World} {base : Nat} {v : Value} {L : List Int} (h : OwnG encI 3 w base v L) (hL : 0 < L.length) : ∃ g cap, v = .slice (some ⟨g, 0, none⟩) L.length cap := by
  obtain ⟨k, hk⟩ : ∃ k, L.length = k + 1 := ⟨L.length - 1, by omega⟩
  have h1 := h.1
  rw [hk] at h1 ⊢
  obtain ⟨g, cap, h2, _⟩ := World.ownsRow.form h1 (by omega)
  exact ⟨g, cap, h2⟩
end Go.Proofs.Ytbpiojnehomljaa.App

namespace Go.Proofs.Ytbpiojnehomljaa.Apt
open Go.RowKit Kit Rw Rg App

theorem there_of {w : World} {g : Nat} {cur : Array Value} {e : TypeId} (hg : w.heap[g]? = some (.cells cur e (0, 0))) : ∀ j, j < cur.size → (w.cell? ⟨g, j, none⟩).isSome = true ∧ w.frozen? ⟨g, j, none⟩ = false := fun j hj => by
  constructor
  · simp [World.cell?, hg, hj]
  · simp [World.frozen?, hg]
theorem grown_setCells (g : Nat) : ∀ (vs : List Value) (o : Nat) (w : World), w.grownBy (w.setCells g o vs) (some g)
  | [], _, _ => World.grownBy.refl _ _
  | v :: r, o, w => by
    rw [World.setCells]
    exact grownN_trans (grown_set w g o v) (grown_setCells g r (o + 1) _)
theorem src_of {P : Program} {w : World} {u : Value} {M : List Int} {t e : TypeId} (ht : P.underlying t = some (.slice e)) (hu : SeesG encI w u M) : Src P 1 t u M.length (M.map (Value.int .i64)) w := by
  obtain ⟨a, c, rfl, h1, h2, h3, h4, h5⟩ := hu
  cases a with
  | none =>
    have hc := h3 rfl
    subst hc
    have hM : M = [] := List.eq_nil_of_length_eq_zero (by omega)
    subst hM
    exact Src.ofNil w ht 0
  | some ad =>
    refine Src.ofSlice w ht ad M.length c _ (by simp) (fun j x hx => ?_) (fun x hx => by
      obtain ⟨y, _, rfl⟩ := List.mem_map.1 hx
      rfl)
    rcases h5 with h5 | ⟨b, o, e', hc⟩
    · subst h5; simp at hx
    · injection e' with e'
      subst e'
      have hj : j < M.length := by have := (List.getElem?_eq_some_iff.1 hx).1; simpa using this
      rw [Addr.add_mid, hc j (by simpa [encI] using hj), flat_int, hx]
theorem sees_cells {w : World} {b o cap : Nat} {L : List Int} (hc : L.length ≤ cap) (hm : cap ≤ maxLen) (hw : ∀ x ∈ L, (Lit.int .i64 x).wf = true) (h : ∀ j v, (L.map (Value.int .i64))[j]? = some v → w.cell? ⟨b, o + j, none⟩ = some v) : SeesG encI w (.slice (some ⟨b, o, none⟩) L.length cap) L := by
  refine ⟨_, cap, rfl, hc, hm, (fun h => by cases h), hw, .inr ⟨b, o, rfl, fun j hj => ?_⟩⟩
  have hj' : j < L.length := by simpa [encI] using hj
  rw [flat_int]
  rw [List.getElem?_eq_getElem (by simpa using hj')]
  exact h j _ (List.getElem?_eq_getElem (by simpa using hj'))

theorem run_append_tail {P : Program} (w : World) (t ty e : TypeId) (i : TypeInfo) (z : Value) (ht : P.underlying t = some (.slice e)) (hi : P.info? e = some i) (hz : i.zero = some z) (hsize : i.size = 1) (hby : i.bytes = 8) (hzs : z.cells.size = 1)
    {base g n cap k o' : Nat} {L : List Int} (hown : OwnG encI e w base (.slice (some ⟨g, 0, none⟩) n cap) L) (hk : k ≤ n) (hof : cap ≠ k → o' = k) (u : Value) (M : List Int) (hu : SeesG encI w u M) (hlen : L.length + M.length ≤ 1000000000) :
    ∃ v' w', (Builtin.append_ #[t, t] ty #[.slice (some ⟨g, o', none⟩) (n - k) (cap - k), u]).run P w = .ok v' w' ∧ SeesG encI w' v' (L.drop k ++ M) ∧ w.grownBy w' (some g) ∧ (∀ j, j < n → w'.cell? ⟨g, j, none⟩ = w.cell? ⟨g, j, none⟩) := by
  obtain ⟨ho, hw⟩ := hown
  rcases ho.2 with ⟨h0, _⟩ | ⟨g', cap', cur, hv, hb, hg, hnc, hcm, hcs, htk⟩
  · cases h0
  injection hv with e1 e2 e3
  injection e1 with e1
  injection e1 with e1
  subst e1; subst e2; subst e3
  have hcell := fun j hj => ho.cellAt j hj
  have hcs' : cur.size = cap := by rw [hcs]; simp [encI]
  have hgl : g < w.heap.size := (Array.getElem?_eq_some_iff.1 hg).1
  have hs : Src P i.size t u M.length (M.map (Value.int .i64)) w := by rw [hsize]; exact src_of ht hu
  have hall : ∀ x ∈ L.drop k ++ M, (Lit.int .i64 x).wf = true := fun x hx => by
    rcases List.mem_append.1 hx with h | h
    · exact hw x (List.mem_of_mem_drop h)
    · exact hu.ok x h
  have hold : w.rangeAt g o' ((L.drop k).map (Value.int .i64)) := fun j v hv => by
    have hj : j < L.length - k := by have := (List.getElem?_eq_some_iff.1 hv).1; simpa using this
    have e : o' = k := hof (by omega)
    rw [e]
    have h := hcell (k + j) (by simp [encI]; omega)
    rw [flat_int] at h
    rw [h, ← hv, List.map_drop, List.getElem?_drop]
  have hlo : (L.drop k ++ M).length = L.length - k + M.length := by simp
  by_cases hroom : L.length - k + M.length ≤ cap - k
  · have hth : ∀ j, j < (M.map (Value.int .i64)).length → (w.cell? ⟨g, o' + (L.length - k) * i.size + j, none⟩).isSome = true ∧ w.frozen? ⟨g, o' + (L.length - k) * i.size + j, none⟩ = false := fun j hj => by
      have hj' : j < M.length := by simpa using hj
      have eo : o' = k := hof (by omega)
      have e : o' + (L.length - k) * i.size + j = L.length + j := by rw [hsize, eo]; omega
      rw [e]
      exact there_of hg _ (by omega)
    have hr := run_append_room_src (P := P) w t t ty e i ht hi g o' (L.length - k) (cap - k) u M.length _ hs hroom (fun j hj => (hth j hj).1) (fun j hj => (hth j hj).2)
    have ek : o' + (L.length - k) * i.size = o' + (L.length - k) := by rw [hsize]; omega
    rw [ek] at hr hth
    refine ⟨_, _, hr, ?_, grown_setCells g _ _ w, fun j hj => World.cell?_setCells_out g _ _ w ⟨g, j, none⟩ (fun _ _ => by
      rw [List.length_map]
      show j < _ ∨ _ ≤ j
      by_cases hck : cap = k
      · omega
      · have eo : o' = k := hof hck
        omega)⟩
    have h1 := World.rangeAt_setCells_apart hold g (o' + (L.length - k)) (M.map (Value.int .i64)) (.inr (.inl (by simp)))
    have h2 := World.rangeAt_setCells_same w g (o' + (L.length - k)) (M.map (Value.int .i64)) hth
    rw [← hlo]
    refine sees_cells (by rw [hlo]; exact hroom) (by omega) hall (fun j v hv => ?_)
    rw [List.map_append] at hv
    by_cases hj : j < L.length - k
    · rw [List.getElem?_append_left (by simpa using hj)] at hv
      exact h1 j v hv
    · rw [List.getElem?_append_right (by simp; omega)] at hv
      have := h2 (j - (L.length - k)) v (by simpa using hv)
      have e : o' + (L.length - k) + (j - (L.length - k)) = o' + j := by omega
      rwa [e] at this
  · have hfc := run_firstCells_some (P := P) w.drew i.size (L.length - k) ⟨g, o', none⟩ (L.length - k) (cap - k) ((L.drop k).map (Value.int .i64)) (by rw [hsize]; simp) (fun j v hv => by rw [Addr.add_mid]; exact hold j v hv)
    have hr := run_append_grow_src (P := P) w t t ty e i z ht hi hz (some ⟨g, o', none⟩) (L.length - k) (cap - k) _ hfc u M.length _ hs (by omega) (by omega) (growslice_fits (by omega) (by rw [hby]; omega))
    refine ⟨_, _, hr, ?_, ⟨rfl, rfl, rfl, by simp, fun k hk _ => heap_alloc_old w.drew _ hk⟩, fun j hj => ?_⟩
    · rw [← hlo]
      refine sees_cells (o := 0) (by rw [hlo]; exact grownCap_ge w _ _ e) (grownCap_le_maxLen w _ _ e (by unfold maxLen; omega)) hall (fun j v hv => ?_)
      have hj : j < (L.drop k ++ M).length := by have := (List.getElem?_eq_some_iff.1 hv).1; simpa using this
      rw [List.map_append] at hv
      have hq : ∀ o : Obj, (w.drew.alloc o).heap[w.heap.size]? = some o := fun o => heap_alloc_new w.drew o
      simp only [World.cell?]
      rw [hq]
      simp only [Nat.zero_add]
      rw [Array.getElem?_append_left (by simp at hj ⊢; omega)]
      simpa using hv
    · exact World.cell?_of_block (a := ⟨g, j, none⟩) (heap_alloc_old w.drew _ hgl)

/-- The same at a step, onto the whole row: the row stays the call's own, and what it held stays where it was. -/
theorem step_keep {P : Program} (w : World) {ops : Array Oper} {o : Oper} {a : Act} {K : Act → World → Prop} {Q : Exit → Act → World → Prop} {E0 : Prop} (hgd : o.guard = none) (s x : Operand) (t : TypeId)
    (ho : o.op = .call { callee := .builtin .append, args := #[s, x], argTypes := #[t, t] })
    (E : TypeId) (i : TypeInfo) (z : Value) (ht : P.underlying t = some (.slice E)) (hi : P.info? E = some i) (hz : i.zero = some z) (hsize : i.size = 1) (hby : i.bytes = 8) (hzs : z.cells.size = 1)
    {base g n cap : Nat} {L : List Int} (hs : a.eval s = .slice (some ⟨g, 0, none⟩) n cap) (hown : OwnG encI E w base (.slice (some ⟨g, 0, none⟩) n cap) L) (u : Value) (M : List Int) (hx : a.eval x = u) (hu : SeesG encI w u M)
    (hlen : L.length + M.length ≤ 1000000000) (hbase : base ≤ w.heap.size)
    (h : ∀ v' w', OwnG encI E w' base v' (L ++ M) → w.grownBy w' (some g) → (∀ j, j < n → w'.cell? ⟨g, j, none⟩ = w.cell? ⟨g, j, none⟩) → K (a.put o.dst v') w') :
    if Region.wanted o (yielded ops a.tmps) = true then Oper.wp P o a w K Q else E0 := by
  have hw : Region.wanted o (yielded ops a.tmps) = true := by simp [Region.wanted, hgd]
  rw [if_pos hw]
  obtain ⟨v1, w1, hr1, _, hg1, hc1⟩ := run_append_tail (P := P) w t o.type E i z ht hi hz hsize hby hzs (k := 0) (o' := 0) hown (Nat.zero_le _) (fun _ => rfl) u M hu hlen
  have hu' := hu
  have hok := hu.ok
  obtain ⟨ad, c, rfl, hlc, hcm, hnil, _, hcell⟩ := hu
  obtain ⟨ho1, hw1⟩ := hown
  have hall : ∀ x ∈ L ++ M, encI.ok x := fun x hx => by
    rcases List.mem_append.1 hx with h | h
    · exact hw1 x h
    · exact hok x h
  have hOwn : OwnG encI E w1 base v1 (L ++ M) := by
    cases ad with
    | none =>
      have hc := hnil rfl
      subst hc
      have hM : M = [] := List.eq_nil_of_length_eq_zero (by omega)
      subst hM
      have hrun := run_append_owned_none (P := P) (w := w) base t o.type E i 1 ht hi _ L.length _ ho1
      have h3 := hr1.symm.trans hrun
      injection h3 with e1 e2
      subst e1; subst e2
      rw [List.append_nil]
      exact ⟨ho1, hw1⟩
    | some ad =>
      obtain ⟨v', w', hr, h2, h3, _⟩ := run_append_own (P := P) w base t o.type E i z 1 8 ht hi hz hsize hby hzs (by decide) _ L.length _ ho1 ad M.length c (flat encI M) (by rw [flat_int]; simp) (by
        intro j y hy
        rw [flat_int] at hy
        have hj : j < M.length := by have := (List.getElem?_eq_some_iff.1 hy).1; simpa using this
        rcases hcell with h0 | ⟨b, of, e', hc⟩
        · subst h0; simp at hj
        · injection e' with e'
          subst e'
          rw [Addr.add_mid, hc j (by simpa [encI] using hj), flat_int, hy]) (by rw [flat_int]; intro u hu; obtain ⟨y, _, rfl⟩ := List.mem_map.1 hu; rfl) (by unfold maxLen; omega) (by omega) hbase
      have h3' := hr1.symm.trans hr
      injection h3' with e1 e2
      subst e1; subst e2
      exact ⟨by rw [List.length_append, flat_app]; exact h2, hall⟩
  unfold Oper.wp execOp
  simp only [ho, resolve, invoke, builtin, Sem.run_bind, Sem.run_pure, Result.andThen_ok, List.map_toArray, List.map_cons, List.map_nil, hs, hx]
  have hr1' := hr1
  simp only [Nat.sub_zero] at hr1'
  rw [hr1']
  exact h v1 w1 hOwn hg1 hc1
end Go.Proofs.Ytbpiojnehomljaa.Apt

namespace Go.Proofs.Ytbpiojnehomljaa.WayS
open Go.RowKit Kit Rw Ld Bfs Wf LandS FromS

/-- The days of the search, and a list that grows beside them. -/
structure DL (w wr : World) (c : Nat) (u : Value) (d : List Int) (v : Value) (L : List Int) : Prop where
  d : Own .i64 3 wr c u d
  own : Own .i64 3 wr (w.heap.size + 1) v L
  apart : u.ownBlock = none ∨ u.ownBlock ≠ v.ownBlock
  grown : w.grownBy wr none
section
variable {w wr wy : World} {c : Nat} {d L L' : List Int} {u v v' : Value}
theorem DL.on (h : DL w wr c u d v L) (hg : wr.grownBy wy none) : DL w wy c u d v L := ⟨h.d.grown hg, h.own.grown hg, h.apart, grownN_trans h.grown hg⟩
theorem DL.more (h : DL w wr c u d v L) (ho : Own .i64 3 wy (w.heap.size + 1) v' L') (hg : wr.grownBy wy v.ownBlock) (hl : v'.ownBlock = v.ownBlock ∨ ∃ c, v'.ownBlock = some c ∧ wr.heap.size ≤ c) : DL w wy c u d v' L' := by
  refine ⟨h.d.kept hg h.apart, ho, ?_, grown_new h.grown hg (fun c hc => by have := h.own.lt c hc; omega)⟩
  rcases hl with hl | ⟨e, hl, hle⟩
  · rw [hl]; exact h.apart
  · rw [hl]
    cases hq : u.ownBlock with
    | none => exact .inl rfl
    | some f => have := h.d.lt f hq; exact .inr (fun e' => by injection e' with e'; omega)
end

end Go.Proofs.Ytbpiojnehomljaa.WayS
