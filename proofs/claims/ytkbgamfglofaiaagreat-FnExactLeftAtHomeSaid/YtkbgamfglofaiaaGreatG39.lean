/- The program's search in memory: its grid, its queue, its marks; plain facts. Contracts of the program's searchIn and daysTo. Contract of the program's daysTo. -/
import Derived.Test.YtkbgamfglofaiaaGreatG38
import Derived.Test.YtkbgamfglofaiaaGreatG14
import Derived.Lib.SliceRun
import Derived.Deep.RegionHeld3
namespace Go.Proofs.YtkbgamfglofaiaaGreat.Sr
open Go.RowKit Kit Rw Ld Gr GrI Bfs

def scells (p : Nat) (g : List Int) (qv : Value) (M : List Int) : Array Value := ((Value.int .i64 (p : Int) :: g.map (Value.int .u8)) ++ qv :: M.map (Value.int .i64)).toArray
section
variable {p : Nat} {g M : List Int} {qv : Value}
theorem scells_size (hg : g.length = 100) (hM : M.length = 100) : (scells p g qv M).size = 202 := by simp [scells, hg, hM]
theorem scells_g (j : Nat) (v : Value) (h : (gcells p g)[j]? = some v) : (scells p g qv M)[j]? = some v := by
  simp only [gcells, scells, List.getElem?_toArray] at h ⊢
  rw [List.getElem?_append_left]
  · exact h
  · exact (List.getElem?_eq_some_iff.1 h).1
theorem scells_q (hg : g.length = 100) : (scells p g qv M)[101]? = some qv := by
  simp only [scells, List.getElem?_toArray]
  rw [List.getElem?_append_right (by simp [hg])]
  simp [hg]
theorem scells_m (hg : g.length = 100) (hM : M.length = 100) {s : Nat} (hs : s < 100) : (scells p g qv M)[102 + s]? = some (.int .i64 (M.getD s 0)) := by
  simp only [scells, List.getElem?_toArray]
  rw [List.getElem?_append_right (by simp [hg]; omega)]
  simp only [List.length_cons, List.length_map, hg, show 102 + s - (100 + 1) = s + 1 by omega, List.getElem?_cons_succ]
  exact getD_map (by omega)
theorem scells_setq (hg : g.length = 100) (v : Value) : (scells p g qv M).setIfInBounds 101 v = scells p g v M := by
  simp only [scells, List.setIfInBounds_toArray]
  rw [List.set_append, if_neg (by simp [hg])]
  simp [hg]
theorem scells_setm (hg : g.length = 100) (s : Nat) (x : Int) : (scells p g qv M).setIfInBounds (102 + s) (.int .i64 x) = scells p g qv (M.set s x) := by
  simp only [scells, List.setIfInBounds_toArray]
  rw [List.set_append, if_neg (by simp [hg]; omega)]
  simp only [List.length_cons, List.length_map, hg, show 102 + s - (100 + 1) = s + 1 by omega, List.set_cons_succ, List.map_set]
end

/-- The search in block b. -/
structure SB (w : World) (b p : Nat) (g : List Int) (qv : Value) (Q M : List Int) : Prop where
  box : Box w b (scells p g qv M) 182
  own : Own .i64 154 w (b + 1) qv Q
  gl : g.length = 100
  ml : M.length = 100
section
variable {w w' : World} {b p : Nat} {g Q Q' M : List Int} {qv qv' : Value}
theorem SB.on (h : SB w b p g qv Q M) (hg : w.grownBy w' none) : SB w' b p g qv Q M := ⟨h.box.grown hg, h.own.grown hg, h.gl, h.ml⟩
theorem SB.part (h : SB w b p g qv Q M) : ∀ j v, (gcells p g)[j]? = some v → w.cell? ⟨b, 0 + j, none⟩ = some v := fun j v hv => by
  rw [Nat.zero_add, h.box.cell]; exact scells_g j v hv
theorem SB.q (h : SB w b p g qv Q M) : w.cell? ⟨b, 101, none⟩ = some qv := by rw [h.box.cell]; exact scells_q h.gl
theorem SB.m (h : SB w b p g qv Q M) {s : Nat} (hs : s < 100) : w.cell? ⟨b, 102 + s, none⟩ = some (.int .i64 (M.getD s 0)) := by rw [h.box.cell]; exact scells_m h.gl h.ml hs
theorem SB.put (h : SB w b p g qv Q M) (s : Nat) (x : Int) : SB (w.setCell ⟨b, 102 + s, none⟩ (.int .i64 x)) b p g qv Q (M.set s x) :=
  ⟨by have := box_set h.box (102 + s) (.int .i64 x); rwa [scells_setm h.gl] at this, h.own.set (Nat.lt_succ_self _) _ _, h.gl, by simp [h.ml]⟩
/-- Behind an append to the queue, and its store. -/
theorem SB.push (h : SB w b p g qv Q M) (ho : Own .i64 154 w' (b + 1) qv' Q') (hg : w.grownBy w' qv.ownBlock) : SB (w'.setCell ⟨b, 101, none⟩ qv') b p g qv' Q' M :=
  ⟨by have := box_set (h.box.kept hg (h.own.off (Nat.lt_succ_self _))) 101 qv'; rwa [scells_setq h.gl] at this, ho.set (Nat.lt_succ_self _) _ _, h.gl, h.ml⟩
theorem SB.below (h : SB w b p g qv Q M) (hg : w.grownBy w' qv.ownBlock) (v : Value) (o : Nat) : Below b w (w'.setCell ⟨b, o, none⟩ v) :=
  ((Below.refl b w).grown hg (Nat.le_of_lt h.box.lt) (fun k hk => by have := h.own.lt k hk; omega)).setCell (Nat.le_refl _) v
/-- The queue, emptied. -/
theorem Own.cut0 {k : IntKind} {E : TypeId} {w : World} {base : Nat} {a : Option Addr} {n c : Nat} {L : List Int} (h : Own k E w base (.slice a n c) L) : Own k E w base (.slice a 0 c) [] := by
  obtain ⟨⟨h1, h2⟩, h3⟩ := h
  refine ⟨⟨by simp, ?_⟩, by simp⟩
  rcases h2 with ⟨e, hn⟩ | ⟨g, cap, cur, e, hb, hg, hnc, hcm, hcs, ht⟩
  · injection e with e1 e2 e3
    subst e1; subst e3
    exact .inl ⟨rfl, rfl⟩
  · injection e with e1 e2 e3
    subst e1; subst e3
    exact .inr ⟨g, _, cur, rfl, hb, hg, Nat.zero_le _, hcm, hcs, by simp⟩
end
/-- What the marks say. -/
structure Marks (p : Nat) (X M d : List Int) : Prop where
  len : d.length = X.length
  at_ : ∀ n : Nat, n < X.length → M.getD (sq p n) 0 = at' d (n : Int) + 1
theorem Marks.set {p h : Nat} {X M d : List Int} (hm : Marks p X M d) (hp : 1 ≤ p ∧ p ≤ 8) (hh : h ≤ 8) (hL : X.length = p * h) (hM : M.length = 100) {n : Nat} (hn : n < X.length) (x : Int) : Marks p X (M.set (sq p n) (x + 1)) (d.set n x) := by
  refine ⟨by simp [hm.len], fun k hk => ?_⟩
  have hb := sq_lt hp hh (show n < p * h by omega)
  have e2 := at_set (d := d) (n := (n : Int)) (m := (k : Int)) (v := x) (by omega) (by rw [hm.len]; omega) (by omega)
  rw [Int.toNat_natCast] at e2
  rw [e2, List.getD_eq_getElem?_getD, List.getElem?_set]
  by_cases e : sq p n = sq p k
  · have := sq_inj hp e
    subst this
    rw [if_pos rfl, if_pos (by omega), if_pos rfl]; rfl
  · rw [if_neg e, ← List.getD_eq_getElem?_getD, if_neg (fun e' => e (by rw [show k = n by omega])), hm.at_ k hk]
/-- The cells' squares. -/
def sqs (p : Nat) (q : List Int) : List Int := q.map (fun n : Int => ((sq p n.toNat : Nat) : Int))
theorem sqs_add (p : Nat) (q : List Int) (n : Nat) : sqs p (q ++ [(n : Int)]) = sqs p q ++ [((sq p n : Nat) : Int)] := by simp [sqs]
theorem sqs_at {p : Nat} {q : List Int} {i : Nat} (hi : i < q.length) : (sqs p q).getD i 0 = ((sq p (q.getD i 0).toNat : Nat) : Int) := by simp [sqs, hi]
theorem search_info : (Tryz.prog.info? 182).map (fun i => (i.zero, i.size)) = some (some (.agg (scells 0 (List.replicate 100 0) (.slice none 0 0) (List.replicate 100 0))), 202) := by kernel_rfl
/-- The marks, cleared. -/
theorem SB.clears {w : World} {b p : Nat} {g Q M : List Int} {qv : Value} (h : SB w b p g qv Q M) : SB (w.setCells b 102 (List.replicate 100 (.int .i64 0))) b p g qv Q (List.replicate 100 0) ∧ w.grownBy (w.setCells b 102 (List.replicate 100 (.int .i64 0))) (some b) := by
  have step : ∀ (k s : Nat) (w : World) (M : List Int), SB w b p g qv Q M → s + k = 100 → SB (w.setCells b (102 + s) (List.replicate k (.int .i64 0))) b p g qv Q (M.take s ++ List.replicate k 0) ∧ w.grownBy (w.setCells b (102 + s) (List.replicate k (.int .i64 0))) (some b) := by
    intro k
    induction k with
    | zero =>
      intro s w M h hs
      refine ⟨?_, World.grownBy.refl _ _⟩
      have : M.take s ++ List.replicate 0 0 = M := by simp only [List.replicate_zero, List.append_nil]; exact List.take_of_length_le (by rw [h.ml]; omega)
      rw [this]; exact h
    | succ k ih =>
      intro s w M h hs
      have h1 := h.put s 0
      obtain ⟨h2, h3⟩ := ih (s + 1) _ _ h1 (by omega)
      rw [List.replicate_succ]
      refine ⟨?_, ?_⟩
      · have e : M.take s ++ (0 :: List.replicate k 0) = (M.set s 0).take (s + 1) ++ List.replicate k 0 := by
          have : s < M.length := by rw [h.ml]; omega
          apply List.ext_getElem?
          intro i
          simp only [List.getElem?_append, List.length_take, List.length_set, List.getElem?_take, List.getElem?_set]
          have hm : min s M.length = s := by omega
          have hm2 : min (s + 1) M.length = s + 1 := by omega
          rw [hm, hm2]
          by_cases c1 : i < s
          · have h1' : i < s + 1 := by omega
            have h2' : ¬ s = i := by omega
            simp [c1, h1', h2']
          · by_cases c2 : i = s
            · subst c2
              simp [this]
            · have h1' : ¬ i < s + 1 := by omega
              rw [show i - s = (i - (s + 1)) + 1 by omega]; simp [c1, h1']
        rw [List.replicate_succ (n := k) (a := (0 : Int)), e]
        exact h2
      · exact grown_trans (grown_set w b (102 + s) (.int .i64 0)) h3
  have := step 100 0 w M h (by omega)
  simpa using this
end Go.Proofs.YtkbgamfglofaiaaGreat.Sr

namespace Go.Proofs.YtkbgamfglofaiaaGreat.Sr
open Go.RowKit Kit Rw Ld Gr GrI Bfs

theorem fold_set (l : List Value) : ∀ (k : Nat) (z : Array Value), k + l.length ≤ z.size → (l.zipIdx k).foldl (fun cs (x : Value × Nat) => cs.setIfInBounds (0 + x.2) x.1) z = (z.toList.take k ++ l ++ z.toList.drop (k + l.length)).toArray := by
  induction l with
  | nil => intro k z h; simp
  | cons v l ih =>
    intro k z h
    simp only [List.length_cons] at h
    rw [List.zipIdx_cons, List.foldl_cons, ih (k + 1) _ (by simp; omega)]
    congr 1
    simp only [Array.toList_setIfInBounds, List.length_cons, Nat.zero_add]
    have hk : k < z.toList.length := by simp; omega
    rw [List.take_set, List.drop_set_of_lt (by omega), show k + 1 + l.length = k + (l.length + 1) by omega, List.take_succ_eq_append_getElem hk, List.set_append, if_neg (by simp; omega)]
    simp only [List.length_take]
    rw [show k - min k z.toList.length = 0 by omega, List.set_cons_zero]
    simp
theorem search_cells {p : Nat} {g : List Int} (hg : g.length = 100) : (gcells p g).zipIdx.foldl (fun cs x => cs.setIfInBounds x.snd x.fst) Tryz.zeroCells182 = scells p g (.slice none 0 0) (List.replicate 100 0) := by
  have hz : Tryz.zeroCells182 = scells 0 (List.replicate 100 0) (.slice none 0 0) (List.replicate 100 0) := by kernel_rfl
  have hsz : (gcells p g).size = 101 := gcells_size hg
  have hzs := scells_size (p := 0) (g := List.replicate 100 0) (qv := .slice none 0 0) (M := List.replicate 100 0) (by simp) (by simp)
  rw [hz, ← Array.foldl_toList, Array.toList_zipIdx]
  have := fold_set (gcells p g).toList 0 (scells 0 (List.replicate 100 0) (.slice none 0 0) (List.replicate 100 0)) (by rw [Array.length_toList, hsz, hzs]; omega)
  simp only [Nat.zero_add] at this
  refine Eq.trans this ?_
  simp only [Array.length_toList, hsz, List.take_zero, List.nil_append]
  simp only [gcells, scells]
  rw [List.drop_append, List.drop_of_length_le (by simp)]
  simp
theorem searchIn_any (w : World) (p : Nat) (H : Int) (v : Value) (X : List Int) (hv : Sees .i64 w v X) (hL : isLand p H X = true) :
    Calls Tryz.prog 146 #[.agg #[.int .i64 (p : Int), .int .i64 H, v]] w fun e w' => ∃ b, e = .returned (.pointer (some ⟨b, 0, none⟩)) ∧ w.heap.size ≤ b ∧ SB w' b p (grid p X) (.slice none 0 0) [] (List.replicate 100 0) ∧ w.grownBy w' none := by
  have hgr := World.grownBy_alloc w (.cells #[.int .i64 (p : Int), .int .i64 H, v] 36 (0, 0)) none
  have HG := Lib.hid hgr
  have HV := Lib.hid (hv.grown hgr)
  have HB := Lib.hid (box_new w #[.int .i64 (p : Int), .int .i64 H, v] 36)
  have HL := Lib.hid hL
  obtain ⟨c0, c1, c2⟩ := HB.out.three
  clear hv hgr hL
  go_enter Tryz.func146, Tryz.ntmps146
  go_wp2_with fail
  refine (gridOf_any _ p H _ X HV.out HL.out).mono ?_
  rintro e w2 ⟨rfl, hg⟩
  have HG2 := Lib.hid (grownN_trans HG.out hg)
  have hb := search_cells (p := p) (grid_len p X)
  have hsz : (gcells p (grid p X)).size = 101 := gcells_size (grid_len p X)
  obtain ⟨cs, hcs⟩ : ∃ cs, cs = gcells p (grid p X) := ⟨_, rfl⟩
  rw [← hcs] at hb hsz ⊢
  rw [show cs.zipIdx.size = 101 by simp [hsz]] at hb
  have HBB := Lib.hid hb
  clear hg c0 c1 c2 hcs hb
  go_wp2_with fail
  go_ret
  rw [HBB.out]
  refine ⟨w2.heap.size, rfl, HG2.out.size, ⟨box_new _ _ _, own_nil _ _, grid_len _ _, by simp⟩, grownN_trans HG2.out (World.grownBy_alloc _ _ none)⟩
end Go.Proofs.YtkbgamfglofaiaaGreat.Sr

namespace Go.Proofs.YtkbgamfglofaiaaGreat.Sr
open Go.RowKit Kit Rw Ld Gr GrI Bfs

set_option maxRecDepth 100000 in
set_option maxHeartbeats 4000000 in
theorem daysTo_any (w : World) (b p n : Nat) (g Q M : List Int) (qv : Value) (k : Int) (hS : SB w b p g qv Q M) (hp : 1 ≤ p ∧ p ≤ 8) (hn : n < 64) (hs : sq p n < 100) (hk : M.getD (sq p n) 0 = k + 1) (hkb : -1 ≤ k ∧ k ≤ 100) :
    Calls Tryz.prog 148 #[.pointer (some ⟨b, 0, none⟩), .int .i64 (n : Int)] w fun e w' => e = .returned (.int .i64 k) ∧ w.grownBy w' none := by
  have hdr := grown_drew (World.grownBy.refl w none)
  have HQ := Lib.hid (hS.on hdr)
  have HR := Lib.hid hdr
  obtain ⟨s, hss⟩ : ∃ s, s = sq p n := ⟨_, rfl⟩
  obtain ⟨cs, hcs⟩ : ∃ cs, cs = gcells p g := ⟨_, rfl⟩
  have hsz : cs.size = 101 := by rw [hcs]; exact gcells_size hS.gl
  have hm := HQ.out.m hs
  rw [hk, ← hss] at hm
  rw [← hss] at hs
  have HCS := Lib.hid hcs
  have HSS := Lib.hid hss
  have HM := Lib.hid hm
  have HP := Lib.hid hp
  obtain ⟨hk0, hk1⟩ := hkb
  have hw1 : IntKind.i64.wrap (k + 1 - 1) = k := by rw [show k + 1 - 1 = k by omega]; exact IntWalk.i64_in _ (by omega)
  have hw2 : k + 1 - 1 = k := by omega
  have hw3 : IntKind.i64.wrap k = k := IntWalk.i64_in _ (by omega)
  have hsi : (s : Int) < 100 := by omega
  clear hS hdr hcs hss hk hm hp
  go_enter Tryz.func148, Tryz.ntmps148
  go_wp2_with fail
  refine wp_region_held_drew (S := fun w' => Hid (SB w' b p g qv Q M) ∧ w'.cell? ⟨b, 102 + s, none⟩ = some (.int .i64 (k + 1))) (by kernel_rfl) ⟨HQ, HM.out⟩ (fun hHeld => ?_)
  refine wpAnyH_take (i := 0) (v := ?_) rfl (by kernel_rfl) (by kernel_rfl) (by kernel_rfl) (fun _ _ _ h => h) (Or.inl ⟨by rfl, ?_⟩) (by assumption) ?_; rotate_left; (focus (intro wS hSw; (try dsimp only at hSw); go_simp <;> with_reducible rfl)); (try simp only [Act.put, List.getElem_toArray, List.getElem_cons_succ, List.getElem_cons_zero, List.setIfInBounds_toArray, List.set_cons_zero, List.set_cons_succ])
  refine wpAnyH_take (i := 1) (v := ?_) rfl (by kernel_rfl) (by kernel_rfl) (by kernel_rfl) (fun _ _ _ h => h) (Or.inl ⟨by rfl, ?_⟩) (by assumption) ?_; rotate_left; (focus (intro wS hSw; (try dsimp only at hSw); go_simp <;> with_reducible rfl)); (try simp only [Act.put, List.getElem_toArray, List.getElem_cons_succ, List.getElem_cons_zero, List.setIfInBounds_toArray, List.set_cons_zero, List.set_cons_succ])
  refine wpAnyH_take (i := 2) (v := ?_) rfl (by kernel_rfl) (by kernel_rfl) (by kernel_rfl) (fun _ _ _ h => h) (Or.inl ⟨by rfl, ?_⟩) (by assumption) ?_; rotate_left; (focus (intro wS hSw; (try dsimp only at hSw); go_simp <;> with_reducible rfl)); (try simp only [Act.put, List.getElem_toArray, List.getElem_cons_succ, List.getElem_cons_zero, List.setIfInBounds_toArray, List.set_cons_zero, List.set_cons_succ])
  refine wpAnyH_take (i := 3) (v := ?_) rfl (by kernel_rfl) (by kernel_rfl) (by kernel_rfl) (fun _ _ _ h => h) (Or.inl ⟨by rfl, ?_⟩) (by assumption) ?_; rotate_left; (focus (intro wS hSw; (try dsimp only at hSw); go_simp <;> with_reducible rfl)); (try simp only [Act.put, List.getElem_toArray, List.getElem_cons_succ, List.getElem_cons_zero, List.setIfInBounds_toArray, List.set_cons_zero, List.set_cons_succ])
  refine wpAnyH_take (i := 4) (v := .agg cs) rfl (by kernel_rfl) (by kernel_rfl) (by kernel_rfl) (fun _ _ _ h => h) (Or.inl ⟨by rfl, ?_⟩) (by assumption) ?_
  · intro wS hSw; (try dsimp only at hSw); exact exec_load_part 150 _ rfl b 0 rfl cs _ (by rw [HCS.out]; exact hSw.1.out.part) Tryz.underlying150 rfl (grid_size hsz)
  (try simp only [Act.put, List.getElem_toArray, List.getElem_cons_succ, List.getElem_cons_zero, List.setIfInBounds_toArray, List.set_cons_zero, List.set_cons_succ])
  refine wpAnyH_take (i := 5) (v := ?_) rfl (by kernel_rfl) (by kernel_rfl) (by kernel_rfl) (fun _ _ _ h => h) (Or.inl ⟨by rfl, ?_⟩) (by assumption) ?_; rotate_left; (focus (intro wS hSw; (try dsimp only at hSw); go_simp <;> with_reducible rfl)); (try simp only [Act.put, List.getElem_toArray, List.getElem_cons_succ, List.getElem_cons_zero, List.setIfInBounds_toArray, List.set_cons_zero, List.set_cons_succ])
  refine wpAnyH_take (i := 7) (v := ?_) rfl (by kernel_rfl) (by kernel_rfl) (by kernel_rfl) (fun _ _ _ h => h) (Or.inl ⟨by rfl, ?_⟩) (by assumption) ?_; rotate_left; (focus (intro wS hSw; (try dsimp only at hSw); go_simp <;> with_reducible rfl)); (try simp only [Act.put, List.getElem_toArray, List.getElem_cons_succ, List.getElem_cons_zero, List.setIfInBounds_toArray, List.set_cons_zero, List.set_cons_succ])
  refine wpAnyH_take (i := 8) (v := ?_) rfl (by kernel_rfl) (by kernel_rfl) (by kernel_rfl) (fun _ _ _ h => h) (Or.inl ⟨by rfl, ?_⟩) (by assumption) ?_; rotate_left; (focus (intro wS hSw; (try dsimp only at hSw); go_simp <;> with_reducible rfl)); (try simp only [Act.put, List.getElem_toArray, List.getElem_cons_succ, List.getElem_cons_zero, List.setIfInBounds_toArray, List.set_cons_zero, List.set_cons_succ])
  refine wpAnyH_ready (rs := [6]) (by kernel_rfl) (by simp) ?_; refine AllReadyH.cons rfl (fun K hK => ?_) AllReadyH.nil; go_simp; (go_at_call 142; refine (squareOf_any _ p n cs HP.out hn (by rw [HCS.out]; rfl)).mono ?_; rintro e w5 ⟨rfl, hg5⟩; rw [← HSS.out]; have HQ5 := Lib.hid (HQ.out.on hg5); have HR5 := Lib.hid (grownN_trans HR.out hg5); have HM5 := Lib.hid (hg5.cell HM.out (by simp)); clear hg5)
  refine hK.out _ _ ?_ (fun hHeld => ?_)
  · exact ⟨HQ5, HM5.out⟩
  clear hK K
  (try simp only [Act.put, List.getElem_toArray, List.getElem_cons_succ, List.getElem_cons_zero, List.setIfInBounds_toArray, List.set_cons_zero, List.set_cons_succ])
  refine wpAnyH_take (i := 9) (v := ?_) rfl (by kernel_rfl) (by kernel_rfl) (by kernel_rfl) (fun _ _ _ h => h) (Or.inl ⟨by rfl, ?_⟩) (by assumption) ?_; rotate_left; (focus (intro wS hSw; (try dsimp only at hSw); go_simp <;> with_reducible rfl)); (try simp only [Act.put, List.getElem_toArray, List.getElem_cons_succ, List.getElem_cons_zero, List.setIfInBounds_toArray, List.set_cons_zero, List.set_cons_succ])
  refine wpAnyH_take (i := 10) (v := ?_) rfl (by kernel_rfl) (by kernel_rfl) (by kernel_rfl) (fun _ _ _ h => h) (Or.inl ⟨by rfl, ?_⟩) (by assumption) ?_; rotate_left; (focus (intro wS hSw; (try dsimp only at hSw); go_simp <;> with_reducible rfl)); (try simp only [Act.put, List.getElem_toArray, List.getElem_cons_succ, List.getElem_cons_zero, List.setIfInBounds_toArray, List.set_cons_zero, List.set_cons_succ])
  refine wpAnyH_take (i := 11) (v := ?_) rfl (by kernel_rfl) (by kernel_rfl) (by kernel_rfl) (fun _ _ _ h => h) (Or.inl ⟨by rfl, ?_⟩) (by assumption) ?_; rotate_left; (focus (intro wS hSw; (try dsimp only at hSw); go_simp <;> with_reducible rfl)); (try simp only [Act.put, List.getElem_toArray, List.getElem_cons_succ, List.getElem_cons_zero, List.setIfInBounds_toArray, List.set_cons_zero, List.set_cons_succ])
  refine wpAnyH_take (i := 12) (v := ?_) rfl (by kernel_rfl) (by kernel_rfl) (by kernel_rfl) (fun _ _ _ h => h) (Or.inl ⟨by rfl, ?_⟩) (by assumption) ?_; rotate_left; (focus (intro wS hSw; (try dsimp only at hSw); go_simp <;> with_reducible rfl)); (try simp only [Act.put, List.getElem_toArray, List.getElem_cons_succ, List.getElem_cons_zero, List.setIfInBounds_toArray, List.set_cons_zero, List.set_cons_succ])
  refine wpAnyH_done (by kernel_rfl) ?_ _
  (try simp only [Act.put, List.getElem_toArray, List.getElem_cons_succ, List.getElem_cons_zero, List.setIfInBounds_toArray, List.set_cons_zero, List.set_cons_succ])
  go_wp2
  go_ret
  exact ⟨rfl, HR5.out⟩
end Go.Proofs.YtkbgamfglofaiaaGreat.Sr
