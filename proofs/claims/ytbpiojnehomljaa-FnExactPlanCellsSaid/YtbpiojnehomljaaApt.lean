/- An append onto the tail of a row of ints that the call owns: what it yields, and that the row's cells stay. -/
import Derived.Test.YtbpiojnehomljaaApp
import Derived.Deep.MidRow
import Derived.Deep.AppendSrc
namespace Go.Proofs.Ytbpiojnehomljaa.Apt
open Go.RowKit Kit Rw Rg App

theorem there_of {w : World} {g : Nat} {cur : Array Value} {e : TypeId} (hg : w.heap[g]? = some (.cells cur e (0, 0))) : ∀ j, j < cur.size → (w.cell? ⟨g, j, none⟩).isSome = true ∧ w.frozen? ⟨g, j, none⟩ = false := fun j hj => by
  constructor
  · simp [World.cell?, hg, hj]
  · simp [World.frozen?, hg]
theorem grown_setCells (g : Nat) : ∀ (vs : List Value) (o : Nat) (w : World), w.grownBy (w.setCells g o vs) (some g)
  | [], _, _ => World.grownBy.refl _ _
  | v :: r, o, w => by
    rw [World.setCells]
    exact grownN_trans (grown_set w g o v) (grown_setCells g r (o + 1) _)
theorem src_of {P : Program} {w : World} {u : Value} {M : List Int} {t e : TypeId} (ht : P.underlying t = some (.slice e)) (hu : SeesG encI w u M) : Src P 1 t u M.length (M.map (Value.int .i64)) w := by
  obtain ⟨a, c, rfl, h1, h2, h3, h4, h5⟩ := hu
  cases a with
  | none =>
    have hc := h3 rfl
    subst hc
    have hM : M = [] := List.eq_nil_of_length_eq_zero (by omega)
    subst hM
    exact Src.ofNil w ht 0
  | some ad =>
    refine Src.ofSlice w ht ad M.length c _ (by simp) (fun j x hx => ?_) (fun x hx => by
      obtain ⟨y, _, rfl⟩ := List.mem_map.1 hx
      rfl)
    rcases h5 with h5 | ⟨b, o, e', hc⟩
    · subst h5; simp at hx
    · injection e' with e'
      subst e'
      have hj : j < M.length := by have := (List.getElem?_eq_some_iff.1 hx).1; simpa using this
      rw [Addr.add_mid, hc j (by simpa [encI] using hj), flat_int, hx]
theorem sees_cells {w : World} {b o cap : Nat} {L : List Int} (hc : L.length ≤ cap) (hm : cap ≤ maxLen) (hw : ∀ x ∈ L, (Lit.int .i64 x).wf = true) (h : ∀ j v, (L.map (Value.int .i64))[j]? = some v → w.cell? ⟨b, o + j, none⟩ = some v) : SeesG encI w (.slice (some ⟨b, o, none⟩) L.length cap) L := by
  refine ⟨_, cap, rfl, hc, hm, (fun h => by cases h), hw, .inr ⟨b, o, rfl, fun j hj => ?_⟩⟩
  have hj' : j < L.length := by simpa [encI] using hj
  rw [flat_int]
  rw [List.getElem?_eq_getElem (by simpa using hj')]
  exact h j _ (List.getElem?_eq_getElem (by simpa using hj'))

theorem run_append_tail {P : Program} (w : World) (t ty e : TypeId) (i : TypeInfo) (z : Value) (ht : P.underlying t = some (.slice e)) (hi : P.info? e = some i) (hz : i.zero = some z) (hsize : i.size = 1) (hby : i.bytes = 8) (hzs : z.cells.size = 1)
    {base g n cap k o' : Nat} {L : List Int} (hown : OwnG encI e w base (.slice (some ⟨g, 0, none⟩) n cap) L) (hk : k ≤ n) (hof : cap ≠ k → o' = k) (u : Value) (M : List Int) (hu : SeesG encI w u M) (hlen : L.length + M.length ≤ 1000000000) :
    ∃ v' w', (Builtin.append_ #[t, t] ty #[.slice (some ⟨g, o', none⟩) (n - k) (cap - k), u]).run P w = .ok v' w' ∧ SeesG encI w' v' (L.drop k ++ M) ∧ w.grownBy w' (some g) ∧ (∀ j, j < n → w'.cell? ⟨g, j, none⟩ = w.cell? ⟨g, j, none⟩) := by
  obtain ⟨ho, hw⟩ := hown
  rcases ho.2 with ⟨h0, _⟩ | ⟨g', cap', cur, hv, hb, hg, hnc, hcm, hcs, htk⟩
  · cases h0
  injection hv with e1 e2 e3
  injection e1 with e1
  injection e1 with e1
  subst e1; subst e2; subst e3
  have hcell := fun j hj => ho.cellAt j hj
  have hcs' : cur.size = cap := by rw [hcs]; simp [encI]
  have hgl : g < w.heap.size := (Array.getElem?_eq_some_iff.1 hg).1
  have hs : Src P i.size t u M.length (M.map (Value.int .i64)) w := by rw [hsize]; exact src_of ht hu
  have hall : ∀ x ∈ L.drop k ++ M, (Lit.int .i64 x).wf = true := fun x hx => by
    rcases List.mem_append.1 hx with h | h
    · exact hw x (List.mem_of_mem_drop h)
    · exact hu.ok x h
  have hold : w.rangeAt g o' ((L.drop k).map (Value.int .i64)) := fun j v hv => by
    have hj : j < L.length - k := by have := (List.getElem?_eq_some_iff.1 hv).1; simpa using this
    have e : o' = k := hof (by omega)
    rw [e]
    have h := hcell (k + j) (by simp [encI]; omega)
    rw [flat_int] at h
    rw [h, ← hv, List.map_drop, List.getElem?_drop]
  have hlo : (L.drop k ++ M).length = L.length - k + M.length := by simp
  by_cases hroom : L.length - k + M.length ≤ cap - k
  · have hth : ∀ j, j < (M.map (Value.int .i64)).length → (w.cell? ⟨g, o' + (L.length - k) * i.size + j, none⟩).isSome = true ∧ w.frozen? ⟨g, o' + (L.length - k) * i.size + j, none⟩ = false := fun j hj => by
      have hj' : j < M.length := by simpa using hj
      have eo : o' = k := hof (by omega)
      have e : o' + (L.length - k) * i.size + j = L.length + j := by rw [hsize, eo]; omega
      rw [e]
      exact there_of hg _ (by omega)
    have hr := run_append_room_src (P := P) w t t ty e i ht hi g o' (L.length - k) (cap - k) u M.length _ hs hroom (fun j hj => (hth j hj).1) (fun j hj => (hth j hj).2)
    have ek : o' + (L.length - k) * i.size = o' + (L.length - k) := by rw [hsize]; omega
    rw [ek] at hr hth
    refine ⟨_, _, hr, ?_, grown_setCells g _ _ w, fun j hj => World.cell?_setCells_out g _ _ w ⟨g, j, none⟩ (fun _ _ => by
      rw [List.length_map]
      show j < _ ∨ _ ≤ j
      by_cases hck : cap = k
      · omega
      · have eo : o' = k := hof hck
        omega)⟩
    have h1 := World.rangeAt_setCells_apart hold g (o' + (L.length - k)) (M.map (Value.int .i64)) (.inr (.inl (by simp)))
    have h2 := World.rangeAt_setCells_same w g (o' + (L.length - k)) (M.map (Value.int .i64)) hth
    rw [← hlo]
    refine sees_cells (by rw [hlo]; exact hroom) (by omega) hall (fun j v hv => ?_)
    rw [List.map_append] at hv
    by_cases hj : j < L.length - k
    · rw [List.getElem?_append_left (by simpa using hj)] at hv
      exact h1 j v hv
    · rw [List.getElem?_append_right (by simp; omega)] at hv
      have := h2 (j - (L.length - k)) v (by simpa using hv)
      have e : o' + (L.length - k) + (j - (L.length - k)) = o' + j := by omega
      rwa [e] at this
  · have hfc := run_firstCells_some (P := P) w.drew i.size (L.length - k) ⟨g, o', none⟩ (L.length - k) (cap - k) ((L.drop k).map (Value.int .i64)) (by rw [hsize]; simp) (fun j v hv => by rw [Addr.add_mid]; exact hold j v hv)
    have hr := run_append_grow_src (P := P) w t t ty e i z ht hi hz (some ⟨g, o', none⟩) (L.length - k) (cap - k) _ hfc u M.length _ hs (by omega) (by omega) (growslice_fits (by omega) (by rw [hby]; omega))
    refine ⟨_, _, hr, ?_, ⟨rfl, rfl, rfl, by simp, fun k hk _ => heap_alloc_old w.drew _ hk⟩, fun j hj => ?_⟩
    · rw [← hlo]
      refine sees_cells (o := 0) (by rw [hlo]; exact grownCap_ge w _ _ e) (grownCap_le_maxLen w _ _ e (by unfold maxLen; omega)) hall (fun j v hv => ?_)
      have hj : j < (L.drop k ++ M).length := by have := (List.getElem?_eq_some_iff.1 hv).1; simpa using this
      rw [List.map_append] at hv
      have hq : ∀ o : Obj, (w.drew.alloc o).heap[w.heap.size]? = some o := fun o => heap_alloc_new w.drew o
      simp only [World.cell?]
      rw [hq]
      simp only [Nat.zero_add]
      rw [Array.getElem?_append_left (by simp at hj ⊢; omega)]
      simpa using hv
    · exact World.cell?_of_block (a := ⟨g, j, none⟩) (heap_alloc_old w.drew _ hgl)

/-- The same at a step, onto the whole row: the row stays the call's own, and what it held stays where it was. -/
theorem step_keep {P : Program} (w : World) {ops : Array Oper} {o : Oper} {a : Act} {K : Act → World → Prop} {Q : Exit → Act → World → Prop} {E0 : Prop} (hgd : o.guard = none) (s x : Operand) (t : TypeId)
    (ho : o.op = .call { callee := .builtin .append, args := #[s, x], argTypes := #[t, t] })
    (E : TypeId) (i : TypeInfo) (z : Value) (ht : P.underlying t = some (.slice E)) (hi : P.info? E = some i) (hz : i.zero = some z) (hsize : i.size = 1) (hby : i.bytes = 8) (hzs : z.cells.size = 1)
    {base g n cap : Nat} {L : List Int} (hs : a.eval s = .slice (some ⟨g, 0, none⟩) n cap) (hown : OwnG encI E w base (.slice (some ⟨g, 0, none⟩) n cap) L) (u : Value) (M : List Int) (hx : a.eval x = u) (hu : SeesG encI w u M)
    (hlen : L.length + M.length ≤ 1000000000) (hbase : base ≤ w.heap.size)
    (h : ∀ v' w', OwnG encI E w' base v' (L ++ M) → w.grownBy w' (some g) → (∀ j, j < n → w'.cell? ⟨g, j, none⟩ = w.cell? ⟨g, j, none⟩) → K (a.put o.dst v') w') :
    if Region.wanted o (yielded ops a.tmps) = true then Oper.wp P o a w K Q else E0 := by
  have hw : Region.wanted o (yielded ops a.tmps) = true := by simp [Region.wanted, hgd]
  rw [if_pos hw]
  obtain ⟨v1, w1, hr1, _, hg1, hc1⟩ := run_append_tail (P := P) w t o.type E i z ht hi hz hsize hby hzs (k := 0) (o' := 0) hown (Nat.zero_le _) (fun _ => rfl) u M hu hlen
  have hu' := hu
  have hok := hu.ok
  obtain ⟨ad, c, rfl, hlc, hcm, hnil, _, hcell⟩ := hu
  obtain ⟨ho1, hw1⟩ := hown
  have hall : ∀ x ∈ L ++ M, encI.ok x := fun x hx => by
    rcases List.mem_append.1 hx with h | h
    · exact hw1 x h
    · exact hok x h
  have hOwn : OwnG encI E w1 base v1 (L ++ M) := by
    cases ad with
    | none =>
      have hc := hnil rfl
      subst hc
      have hM : M = [] := List.eq_nil_of_length_eq_zero (by omega)
      subst hM
      have hrun := run_append_owned_none (P := P) (w := w) base t o.type E i 1 ht hi _ L.length _ ho1
      have h3 := hr1.symm.trans hrun
      injection h3 with e1 e2
      subst e1; subst e2
      rw [List.append_nil]
      exact ⟨ho1, hw1⟩
    | some ad =>
      obtain ⟨v', w', hr, h2, h3, _⟩ := run_append_own (P := P) w base t o.type E i z 1 8 ht hi hz hsize hby hzs (by decide) _ L.length _ ho1 ad M.length c (flat encI M) (by rw [flat_int]; simp) (by
        intro j y hy
        rw [flat_int] at hy
        have hj : j < M.length := by have := (List.getElem?_eq_some_iff.1 hy).1; simpa using this
        rcases hcell with h0 | ⟨b, of, e', hc⟩
        · subst h0; simp at hj
        · injection e' with e'
          subst e'
          rw [Addr.add_mid, hc j (by simpa [encI] using hj), flat_int, hy]) (by rw [flat_int]; intro u hu; obtain ⟨y, _, rfl⟩ := List.mem_map.1 hu; rfl) (by unfold maxLen; omega) (by omega) hbase
      have h3' := hr1.symm.trans hr
      injection h3' with e1 e2
      subst e1; subst e2
      exact ⟨by rw [List.length_append, flat_app]; exact h2, hall⟩
  unfold Oper.wp execOp
  simp only [ho, resolve, invoke, builtin, Sem.run_bind, Sem.run_pure, Result.andThen_ok, List.map_toArray, List.map_cons, List.map_nil, hs, hx]
  have hr1' := hr1
  simp only [Nat.sub_zero] at hr1'
  rw [hr1']
  exact h v1 w1 hOwn hg1 hc1
end Go.Proofs.Ytbpiojnehomljaa.Apt
