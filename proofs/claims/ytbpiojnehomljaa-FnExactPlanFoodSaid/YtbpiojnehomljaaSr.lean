/- The program's search in memory: its grid, its queue, its marks; plain facts. -/
import Derived.Test.YtbpiojnehomljaaG19
import Derived.Test.YtbpiojnehomljaaG13
import Derived.Lib.SliceRun
namespace Go.Proofs.Ytbpiojnehomljaa.Sr
open Go.RowKit Kit Rw Ld Gr GrI Bfs

def scells (p : Nat) (g : List Int) (qv : Value) (M : List Int) : Array Value := ((Value.int .i64 (p : Int) :: g.map (Value.int .u8)) ++ qv :: M.map (Value.int .i64)).toArray
section
variable {p : Nat} {g M : List Int} {qv : Value}
theorem scells_size (hg : g.length = 100) (hM : M.length = 100) : (scells p g qv M).size = 202 := by simp [scells, hg, hM]
theorem scells_g (j : Nat) (v : Value) (h : (gcells p g)[j]? = some v) : (scells p g qv M)[j]? = some v := by
  simp only [gcells, scells, List.getElem?_toArray] at h ⊢
  rw [List.getElem?_append_left]
  · exact h
  · exact (List.getElem?_eq_some_iff.1 h).1
theorem scells_q (hg : g.length = 100) : (scells p g qv M)[101]? = some qv := by
  simp only [scells, List.getElem?_toArray]
  rw [List.getElem?_append_right (by simp [hg])]
  simp [hg]
theorem scells_m (hg : g.length = 100) (hM : M.length = 100) {s : Nat} (hs : s < 100) : (scells p g qv M)[102 + s]? = some (.int .i64 (M.getD s 0)) := by
  simp only [scells, List.getElem?_toArray]
  rw [List.getElem?_append_right (by simp [hg]; omega)]
  simp only [List.length_cons, List.length_map, hg, show 102 + s - (100 + 1) = s + 1 by omega, List.getElem?_cons_succ]
  exact getD_map (by omega)
theorem scells_setq (hg : g.length = 100) (v : Value) : (scells p g qv M).setIfInBounds 101 v = scells p g v M := by
  simp only [scells, List.setIfInBounds_toArray]
  rw [List.set_append, if_neg (by simp [hg])]
  simp [hg]
theorem scells_setm (hg : g.length = 100) (s : Nat) (x : Int) : (scells p g qv M).setIfInBounds (102 + s) (.int .i64 x) = scells p g qv (M.set s x) := by
  simp only [scells, List.setIfInBounds_toArray]
  rw [List.set_append, if_neg (by simp [hg]; omega)]
  simp only [List.length_cons, List.length_map, hg, show 102 + s - (100 + 1) = s + 1 by omega, List.set_cons_succ, List.map_set]
end

/-- The search in block b. -/
structure SB (w : World) (b p : Nat) (g : List Int) (qv : Value) (Q M : List Int) : Prop where
  box : Box w b (scells p g qv M) 149
  own : Own .i64 150 w (b + 1) qv Q
  gl : g.length = 100
  ml : M.length = 100
section
variable {w w' : World} {b p : Nat} {g Q Q' M : List Int} {qv qv' : Value}
theorem SB.on (h : SB w b p g qv Q M) (hg : w.grownBy w' none) : SB w' b p g qv Q M := ⟨h.box.grown hg, h.own.grown hg, h.gl, h.ml⟩
theorem SB.part (h : SB w b p g qv Q M) : ∀ j v, (gcells p g)[j]? = some v → w.cell? ⟨b, 0 + j, none⟩ = some v := fun j v hv => by
  rw [Nat.zero_add, h.box.cell]; exact scells_g j v hv
theorem SB.q (h : SB w b p g qv Q M) : w.cell? ⟨b, 101, none⟩ = some qv := by rw [h.box.cell]; exact scells_q h.gl
theorem SB.m (h : SB w b p g qv Q M) {s : Nat} (hs : s < 100) : w.cell? ⟨b, 102 + s, none⟩ = some (.int .i64 (M.getD s 0)) := by rw [h.box.cell]; exact scells_m h.gl h.ml hs
theorem SB.put (h : SB w b p g qv Q M) (s : Nat) (x : Int) : SB (w.setCell ⟨b, 102 + s, none⟩ (.int .i64 x)) b p g qv Q (M.set s x) :=
  ⟨by have := box_set h.box (102 + s) (.int .i64 x); rwa [scells_setm h.gl] at this, h.own.set (Nat.lt_succ_self _) _ _, h.gl, by simp [h.ml]⟩
/-- Behind an append to the queue, and its store. -/
theorem SB.push (h : SB w b p g qv Q M) (ho : Own .i64 150 w' (b + 1) qv' Q') (hg : w.grownBy w' qv.ownBlock) : SB (w'.setCell ⟨b, 101, none⟩ qv') b p g qv' Q' M :=
  ⟨by have := box_set (h.box.kept hg (h.own.off (Nat.lt_succ_self _))) 101 qv'; rwa [scells_setq h.gl] at this, ho.set (Nat.lt_succ_self _) _ _, h.gl, h.ml⟩
theorem SB.below (h : SB w b p g qv Q M) (hg : w.grownBy w' qv.ownBlock) (v : Value) (o : Nat) : Below b w (w'.setCell ⟨b, o, none⟩ v) :=
  ((Below.refl b w).grown hg (Nat.le_of_lt h.box.lt) (fun k hk => by have := h.own.lt k hk; omega)).setCell (Nat.le_refl _) v
/-- The queue, emptied. -/
theorem Own.cut0 {k : IntKind} {E : TypeId} {w : World} {base : Nat} {a : Option Addr} {n c : Nat} {L : List Int} (h : Own k E w base (.slice a n c) L) : Own k E w base (.slice a 0 c) [] := by
  obtain ⟨⟨h1, h2⟩, h3⟩ := h
  refine ⟨⟨by simp, ?_⟩, by simp⟩
  rcases h2 with ⟨e, hn⟩ | ⟨g, cap, cur, e, hb, hg, hnc, hcm, hcs, ht⟩
  · injection e with e1 e2 e3
    subst e1; subst e3
    exact .inl ⟨rfl, rfl⟩
  · injection e with e1 e2 e3
    subst e1; subst e3
    exact .inr ⟨g, _, cur, rfl, hb, hg, Nat.zero_le _, hcm, hcs, by simp⟩
end
/-- What the marks say. -/
structure Marks (p : Nat) (X M d : List Int) : Prop where
  len : d.length = X.length
  at_ : ∀ n : Nat, n < X.length → M.getD (sq p n) 0 = at' d (n : Int) + 1
theorem Marks.set {p h : Nat} {X M d : List Int} (hm : Marks p X M d) (hp : 1 ≤ p ∧ p ≤ 8) (hh : h ≤ 8) (hL : X.length = p * h) (hM : M.length = 100) {n : Nat} (hn : n < X.length) (x : Int) : Marks p X (M.set (sq p n) (x + 1)) (d.set n x) := by
  refine ⟨by simp [hm.len], fun k hk => ?_⟩
  have hb := sq_lt hp hh (show n < p * h by omega)
  have e2 := at_set (d := d) (n := (n : Int)) (m := (k : Int)) (v := x) (by omega) (by rw [hm.len]; omega) (by omega)
  rw [Int.toNat_natCast] at e2
  rw [e2, List.getD_eq_getElem?_getD, List.getElem?_set]
  by_cases e : sq p n = sq p k
  · have := sq_inj hp e
    subst this
    rw [if_pos rfl, if_pos (by omega), if_pos rfl]; rfl
  · rw [if_neg e, ← List.getD_eq_getElem?_getD, if_neg (fun e' => e (by rw [show k = n by omega])), hm.at_ k hk]
/-- The cells' squares. -/
def sqs (p : Nat) (q : List Int) : List Int := q.map (fun n : Int => ((sq p n.toNat : Nat) : Int))
theorem sqs_add (p : Nat) (q : List Int) (n : Nat) : sqs p (q ++ [(n : Int)]) = sqs p q ++ [((sq p n : Nat) : Int)] := by simp [sqs]
theorem sqs_at {p : Nat} {q : List Int} {i : Nat} (hi : i < q.length) : (sqs p q).getD i 0 = ((sq p (q.getD i 0).toNat : Nat) : Int) := by simp [sqs, hi]
theorem search_info : (Try.prog.info? 149).map (fun i => (i.zero, i.size)) = some (some (.agg (scells 0 (List.replicate 100 0) (.slice none 0 0) (List.replicate 100 0))), 202) := by kernel_rfl
/-- The marks, cleared. -/
theorem SB.clears {w : World} {b p : Nat} {g Q M : List Int} {qv : Value} (h : SB w b p g qv Q M) : SB (w.setCells b 102 (List.replicate 100 (.int .i64 0))) b p g qv Q (List.replicate 100 0) ∧ w.grownBy (w.setCells b 102 (List.replicate 100 (.int .i64 0))) (some b) := by
  have step : ∀ (k s : Nat) (w : World) (M : List Int), SB w b p g qv Q M → s + k = 100 → SB (w.setCells b (102 + s) (List.replicate k (.int .i64 0))) b p g qv Q (M.take s ++ List.replicate k 0) ∧ w.grownBy (w.setCells b (102 + s) (List.replicate k (.int .i64 0))) (some b) := by
    intro k
    induction k with
    | zero =>
      intro s w M h hs
      refine ⟨?_, World.grownBy.refl _ _⟩
      have : M.take s ++ List.replicate 0 0 = M := by simp only [List.replicate_zero, List.append_nil]; exact List.take_of_length_le (by rw [h.ml]; omega)
      rw [this]; exact h
    | succ k ih =>
      intro s w M h hs
      have h1 := h.put s 0
      obtain ⟨h2, h3⟩ := ih (s + 1) _ _ h1 (by omega)
      rw [List.replicate_succ]
      refine ⟨?_, ?_⟩
      · have e : M.take s ++ (0 :: List.replicate k 0) = (M.set s 0).take (s + 1) ++ List.replicate k 0 := by
          have : s < M.length := by rw [h.ml]; omega
          apply List.ext_getElem?
          intro i
          simp only [List.getElem?_append, List.length_take, List.length_set, List.getElem?_take, List.getElem?_set]
          have hm : min s M.length = s := by omega
          have hm2 : min (s + 1) M.length = s + 1 := by omega
          rw [hm, hm2]
          by_cases c1 : i < s
          · have h1' : i < s + 1 := by omega
            have h2' : ¬ s = i := by omega
            simp [c1, h1', h2']
          · by_cases c2 : i = s
            · subst c2
              simp [this]
            · have h1' : ¬ i < s + 1 := by omega
              rw [show i - s = (i - (s + 1)) + 1 by omega]; simp [c1, h1']
        rw [List.replicate_succ (n := k) (a := (0 : Int)), e]
        exact h2
      · exact grown_trans (grown_set w b (102 + s) (.int .i64 0)) h3
  have := step 100 0 w M h (by omega)
  simpa using this
end Go.Proofs.Ytbpiojnehomljaa.Sr
