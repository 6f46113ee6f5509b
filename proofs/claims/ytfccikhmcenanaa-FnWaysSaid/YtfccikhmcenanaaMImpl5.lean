/- The program's search in memory: its grid, its queue, its marks; plain facts. Contracts of the program's searchIn and daysTo. Contract of the program's daysTo. Contract of the program's spread: from one cell of the queue to those near it. Contract of the program's begin: the marks say the days, up to a bound. Contract of the program's nearer: the least of the cells near one that are a day nearer. Contracts of the program's Days and Farthest. Contracts of the program's Reach and WayTo. Contract of the program's WayTo. Contract of the program's IsWay. -/
import Derived.Test.YtfccikhmcenanaaMImpl4
import Derived.Test.YtfccikhmcenanaaMFacts
import Derived.Lib.SliceRun
import Derived.Deep.RegionHeld3
import Derived.StillTailTactics
namespace Go.Proofs.Ytfccikhmcenanaa.Sr
open Go.RowKit Kit Rw Ld Gr GrI Bfs

def scells (p : Nat) (g : List Int) (qv : Value) (M : List Int) : Array Value := ((Value.int .i64 (p : Int) :: g.map (Value.int .u8)) ++ qv :: M.map (Value.int .i64)).toArray
section
variable {p : Nat} {g M : List Int} {qv : Value}
theorem scells_size (hg : g.length = 100) (hM : M.length = 100) : (scells p g qv M).size = 202 := by simp [scells, hg, hM]
theorem scells_g (j : Nat) (v : Value) (h : (gcells p g)[j]? = some v) : (scells p g qv M)[j]? = some v := by
  simp only [gcells, scells, List.getElem?_toArray] at h ⊢
  rw [List.getElem?_append_left]
  · exact h
  · exact (List.getElem?_eq_some_iff.1 h).1
theorem scells_q (hg : g.length = 100) : (scells p g qv M)[101]? = some qv := by
  simp only [scells, List.getElem?_toArray]
  rw [List.getElem?_append_right (by simp [hg])]
  simp [hg]
theorem scells_m (hg : g.length = 100) (hM : M.length = 100) {s : Nat} (hs : s < 100) : (scells p g qv M)[102 + s]? = some (.int .i64 (M.getD s 0)) := by
  simp only [scells, List.getElem?_toArray]
  rw [List.getElem?_append_right (by simp [hg]; omega)]
  simp only [List.length_cons, List.length_map, hg, show 102 + s - (100 + 1) = s + 1 by omega, List.getElem?_cons_succ]
  exact getD_map (by omega)
theorem scells_setq (hg : g.length = 100) (v : Value) : (scells p g qv M).setIfInBounds 101 v = scells p g v M := by
  simp only [scells, List.setIfInBounds_toArray]
  rw [List.set_append, if_neg (by simp [hg])]
  simp [hg]
theorem scells_setm (hg : g.length = 100) (s : Nat) (x : Int) : (scells p g qv M).setIfInBounds (102 + s) (.int .i64 x) = scells p g qv (M.set s x) := by
  simp only [scells, List.setIfInBounds_toArray]
  rw [List.set_append, if_neg (by simp [hg]; omega)]
  simp only [List.length_cons, List.length_map, hg, show 102 + s - (100 + 1) = s + 1 by omega, List.set_cons_succ, List.map_set]
end

/-- The search in block b. -/
structure SB (w : World) (b p : Nat) (g : List Int) (qv : Value) (Q M : List Int) : Prop where
  box : Box w b (scells p g qv M) 80
  own : Own .i64 63 w (b + 1) qv Q
  gl : g.length = 100
  ml : M.length = 100
section
variable {w w' : World} {b p : Nat} {g Q Q' M : List Int} {qv qv' : Value}
theorem SB.on (h : SB w b p g qv Q M) (hg : w.grownBy w' none) : SB w' b p g qv Q M := ⟨h.box.grown hg, h.own.grown hg, h.gl, h.ml⟩
theorem SB.part (h : SB w b p g qv Q M) : ∀ j v, (gcells p g)[j]? = some v → w.cell? ⟨b, 0 + j, none⟩ = some v := fun j v hv => by
  rw [Nat.zero_add, h.box.cell]; exact scells_g j v hv
theorem SB.q (h : SB w b p g qv Q M) : w.cell? ⟨b, 101, none⟩ = some qv := by rw [h.box.cell]; exact scells_q h.gl
theorem SB.m (h : SB w b p g qv Q M) {s : Nat} (hs : s < 100) : w.cell? ⟨b, 102 + s, none⟩ = some (.int .i64 (M.getD s 0)) := by rw [h.box.cell]; exact scells_m h.gl h.ml hs
theorem SB.put (h : SB w b p g qv Q M) (s : Nat) (x : Int) : SB (w.setCell ⟨b, 102 + s, none⟩ (.int .i64 x)) b p g qv Q (M.set s x) :=
  ⟨by have := box_set h.box (102 + s) (.int .i64 x); rwa [scells_setm h.gl] at this, h.own.set (Nat.lt_succ_self _) _ _, h.gl, by simp [h.ml]⟩
/-- Behind an append to the queue, and its store. -/
theorem SB.push (h : SB w b p g qv Q M) (ho : Own .i64 63 w' (b + 1) qv' Q') (hg : w.grownBy w' qv.ownBlock) : SB (w'.setCell ⟨b, 101, none⟩ qv') b p g qv' Q' M :=
  ⟨by have := box_set (h.box.kept hg (h.own.off (Nat.lt_succ_self _))) 101 qv'; rwa [scells_setq h.gl] at this, ho.set (Nat.lt_succ_self _) _ _, h.gl, h.ml⟩
theorem SB.below (h : SB w b p g qv Q M) (hg : w.grownBy w' qv.ownBlock) (v : Value) (o : Nat) : Below b w (w'.setCell ⟨b, o, none⟩ v) :=
  ((Below.refl b w).grown hg (Nat.le_of_lt h.box.lt) (fun k hk => by have := h.own.lt k hk; omega)).setCell (Nat.le_refl _) v
/-- The queue, emptied. -/
theorem Own.cut0 {k : IntKind} {E : TypeId} {w : World} {base : Nat} {a : Option Addr} {n c : Nat} {L : List Int} (h : Own k E w base (.slice a n c) L) : Own k E w base (.slice a 0 c) [] := by
  obtain ⟨⟨h1, h2⟩, h3⟩ := h
  refine ⟨⟨by simp, ?_⟩, by simp⟩
  rcases h2 with ⟨e, hn⟩ | ⟨g, cap, cur, e, hb, hg, hnc, hcm, hcs, ht⟩
  · injection e with e1 e2 e3
    subst e1; subst e3
    exact .inl ⟨rfl, rfl⟩
  · injection e with e1 e2 e3
    subst e1; subst e3
    exact .inr ⟨g, _, cur, rfl, hb, hg, Nat.zero_le _, hcm, hcs, by simp⟩
end
/-- What the marks say. -/
structure Marks (p : Nat) (X M d : List Int) : Prop where
  len : d.length = X.length
  at_ : ∀ n : Nat, n < X.length → M.getD (sq p n) 0 = at' d (n : Int) + 1
theorem Marks.set {p h : Nat} {X M d : List Int} (hm : Marks p X M d) (hp : 1 ≤ p ∧ p ≤ 8) (hh : h ≤ 8) (hL : X.length = p * h) (hM : M.length = 100) {n : Nat} (hn : n < X.length) (x : Int) : Marks p X (M.set (sq p n) (x + 1)) (d.set n x) := by
  refine ⟨by simp [hm.len], fun k hk => ?_⟩
  have hb := sq_lt hp hh (show n < p * h by omega)
  have e2 := at_set (d := d) (n := (n : Int)) (m := (k : Int)) (v := x) (by omega) (by rw [hm.len]; omega) (by omega)
  rw [Int.toNat_natCast] at e2
  rw [e2, List.getD_eq_getElem?_getD, List.getElem?_set]
  by_cases e : sq p n = sq p k
  · have := sq_inj hp e
    subst this
    rw [if_pos rfl, if_pos (by omega), if_pos rfl]; rfl
  · rw [if_neg e, ← List.getD_eq_getElem?_getD, if_neg (fun e' => e (by rw [show k = n by omega])), hm.at_ k hk]
/-- The cells' squares. -/
def sqs (p : Nat) (q : List Int) : List Int := q.map (fun n : Int => ((sq p n.toNat : Nat) : Int))
theorem sqs_add (p : Nat) (q : List Int) (n : Nat) : sqs p (q ++ [(n : Int)]) = sqs p q ++ [((sq p n : Nat) : Int)] := by simp [sqs]
theorem sqs_at {p : Nat} {q : List Int} {i : Nat} (hi : i < q.length) : (sqs p q).getD i 0 = ((sq p (q.getD i 0).toNat : Nat) : Int) := by simp [sqs, hi]
theorem search_info : (Try.prog.info? 80).map (fun i => (i.zero, i.size)) = some (some (.agg (scells 0 (List.replicate 100 0) (.slice none 0 0) (List.replicate 100 0))), 202) := by kernel_rfl
/-- The marks, cleared. -/
theorem SB.clears {w : World} {b p : Nat} {g Q M : List Int} {qv : Value} (h : SB w b p g qv Q M) : SB (w.setCells b 102 (List.replicate 100 (.int .i64 0))) b p g qv Q (List.replicate 100 0) ∧ w.grownBy (w.setCells b 102 (List.replicate 100 (.int .i64 0))) (some b) := by
  have step : ∀ (k s : Nat) (w : World) (M : List Int), SB w b p g qv Q M → s + k = 100 → SB (w.setCells b (102 + s) (List.replicate k (.int .i64 0))) b p g qv Q (M.take s ++ List.replicate k 0) ∧ w.grownBy (w.setCells b (102 + s) (List.replicate k (.int .i64 0))) (some b) := by
    intro k
    induction k with
    | zero =>
      intro s w M h hs
      refine ⟨?_, World.grownBy.refl _ _⟩
      have : M.take s ++ List.replicate 0 0 = M := by simp only [List.replicate_zero, List.append_nil]; exact List.take_of_length_le (by rw [h.ml]; omega)
      rw [this]; exact h
    | succ k ih =>
      intro s w M h hs
      have h1 := h.put s 0
      obtain ⟨h2, h3⟩ := ih (s + 1) _ _ h1 (by omega)
      rw [List.replicate_succ]
      refine ⟨?_, ?_⟩
      · have e : M.take s ++ (0 :: List.replicate k 0) = (M.set s 0).take (s + 1) ++ List.replicate k 0 := by
          have : s < M.length := by rw [h.ml]; omega
          apply List.ext_getElem?
          intro i
          simp only [List.getElem?_append, List.length_take, List.length_set, List.getElem?_take, List.getElem?_set]
          have hm : min s M.length = s := by omega
          have hm2 : min (s + 1) M.length = s + 1 := by omega
          rw [hm, hm2]
          by_cases c1 : i < s
          · have h1' : i < s + 1 := by omega
            have h2' : ¬ s = i := by omega
            simp [c1, h1', h2']
          · by_cases c2 : i = s
            · subst c2
              simp [this]
            · have h1' : ¬ i < s + 1 := by omega
              rw [show i - s = (i - (s + 1)) + 1 by omega]; simp [c1, h1']
        rw [List.replicate_succ (n := k) (a := (0 : Int)), e]
        exact h2
      · exact grown_trans (grown_set w b (102 + s) (.int .i64 0)) h3
  have := step 100 0 w M h (by omega)
  simpa using this
end Go.Proofs.Ytfccikhmcenanaa.Sr

namespace Go.Proofs.Ytfccikhmcenanaa.Sr
open Go.RowKit Kit Rw Ld Gr GrI Bfs

theorem fold_set (l : List Value) : ∀ (k : Nat) (z : Array Value), k + l.length ≤ z.size → (l.zipIdx k).foldl (fun cs (x : Value × Nat) => cs.setIfInBounds (0 + x.2) x.1) z = (z.toList.take k ++ l ++ z.toList.drop (k + l.length)).toArray := by
  induction l with
  | nil => intro k z h; simp
  | cons v l ih =>
    intro k z h
    simp only [List.length_cons] at h
    rw [List.zipIdx_cons, List.foldl_cons, ih (k + 1) _ (by simp; omega)]
    congr 1
    simp only [Array.toList_setIfInBounds, List.length_cons, Nat.zero_add]
    have hk : k < z.toList.length := by simp; omega
    rw [List.take_set, List.drop_set_of_lt (by omega), show k + 1 + l.length = k + (l.length + 1) by omega, List.take_succ_eq_append_getElem hk, List.set_append, if_neg (by simp; omega)]
    simp only [List.length_take]
    rw [show k - min k z.toList.length = 0 by omega, List.set_cons_zero]
    simp
theorem search_cells {p : Nat} {g : List Int} (hg : g.length = 100) : (gcells p g).zipIdx.foldl (fun cs x => cs.setIfInBounds x.snd x.fst) Try.zeroCells80 = scells p g (.slice none 0 0) (List.replicate 100 0) := by
  have hz : Try.zeroCells80 = scells 0 (List.replicate 100 0) (.slice none 0 0) (List.replicate 100 0) := by kernel_rfl
  have hsz : (gcells p g).size = 101 := gcells_size hg
  have hzs := scells_size (p := 0) (g := List.replicate 100 0) (qv := .slice none 0 0) (M := List.replicate 100 0) (by simp) (by simp)
  rw [hz, ← Array.foldl_toList, Array.toList_zipIdx]
  have := fold_set (gcells p g).toList 0 (scells 0 (List.replicate 100 0) (.slice none 0 0) (List.replicate 100 0)) (by rw [Array.length_toList, hsz, hzs]; omega)
  simp only [Nat.zero_add] at this
  refine Eq.trans this ?_
  simp only [Array.length_toList, hsz, List.take_zero, List.nil_append]
  simp only [gcells, scells]
  rw [List.drop_append, List.drop_of_length_le (by simp)]
  simp
theorem searchIn_any (w : World) (p : Nat) (H : Int) (v : Value) (X : List Int) (hv : Sees .i64 w v X) (hL : isLand p H X = true) :
    Calls Try.prog 68 #[.agg #[.int .i64 (p : Int), .int .i64 H, v]] w fun e w' => ∃ b, e = .returned (.pointer (some ⟨b, 0, none⟩)) ∧ w.heap.size ≤ b ∧ SB w' b p (grid p X) (.slice none 0 0) [] (List.replicate 100 0) ∧ w.grownBy w' none := by
  have hgr := World.grownBy_alloc w (.cells #[.int .i64 (p : Int), .int .i64 H, v] 26 (0, 0)) none
  have HG := Lib.hid hgr
  have HV := Lib.hid (hv.grown hgr)
  have HB := Lib.hid (box_new w #[.int .i64 (p : Int), .int .i64 H, v] 26)
  have HL := Lib.hid hL
  obtain ⟨c0, c1, c2⟩ := HB.out.three
  clear hv hgr hL
  go_enter Try.func68, Try.ntmps68
  go_wp2_with fail
  refine (gridOf_any _ p H _ X HV.out HL.out).mono ?_
  rintro e w2 ⟨rfl, hg⟩
  have HG2 := Lib.hid (grownN_trans HG.out hg)
  have hb := search_cells (p := p) (grid_len p X)
  have hsz : (gcells p (grid p X)).size = 101 := gcells_size (grid_len p X)
  obtain ⟨cs, hcs⟩ : ∃ cs, cs = gcells p (grid p X) := ⟨_, rfl⟩
  rw [← hcs] at hb hsz ⊢
  rw [show cs.zipIdx.size = 101 by simp [hsz]] at hb
  have HBB := Lib.hid hb
  clear hg c0 c1 c2 hcs hb
  go_wp2_with fail
  go_ret
  rw [HBB.out]
  refine ⟨w2.heap.size, rfl, HG2.out.size, ⟨box_new _ _ _, own_nil _ _, grid_len _ _, by simp⟩, grownN_trans HG2.out (World.grownBy_alloc _ _ none)⟩
end Go.Proofs.Ytfccikhmcenanaa.Sr

namespace Go.Proofs.Ytfccikhmcenanaa.Sr
open Go.RowKit Kit Rw Ld Gr GrI Bfs

set_option maxRecDepth 100000 in
set_option maxHeartbeats 4000000 in
theorem daysTo_any (w : World) (b p n : Nat) (g Q M : List Int) (qv : Value) (k : Int) (hS : SB w b p g qv Q M) (hp : 1 ≤ p ∧ p ≤ 8) (hn : n < 64) (hs : sq p n < 100) (hk : M.getD (sq p n) 0 = k + 1) (hkb : -1 ≤ k ∧ k ≤ 100) :
    Calls Try.prog 70 #[.pointer (some ⟨b, 0, none⟩), .int .i64 (n : Int)] w fun e w' => e = .returned (.int .i64 k) ∧ w.grownBy w' none := by
  have hdr := grown_drew (World.grownBy.refl w none)
  have HQ := Lib.hid (hS.on hdr)
  have HR := Lib.hid hdr
  obtain ⟨s, hss⟩ : ∃ s, s = sq p n := ⟨_, rfl⟩
  obtain ⟨cs, hcs⟩ : ∃ cs, cs = gcells p g := ⟨_, rfl⟩
  have hsz : cs.size = 101 := by rw [hcs]; exact gcells_size hS.gl
  have hm := HQ.out.m hs
  rw [hk, ← hss] at hm
  rw [← hss] at hs
  have HCS := Lib.hid hcs
  have HSS := Lib.hid hss
  have HM := Lib.hid hm
  have HP := Lib.hid hp
  obtain ⟨hk0, hk1⟩ := hkb
  have hw1 : IntKind.i64.wrap (k + 1 - 1) = k := by rw [show k + 1 - 1 = k by omega]; exact IntWalk.i64_in _ (by omega)
  have hw2 : k + 1 - 1 = k := by omega
  have hw3 : IntKind.i64.wrap k = k := IntWalk.i64_in _ (by omega)
  have hsi : (s : Int) < 100 := by omega
  clear hS hdr hcs hss hk hm hp
  go_enter Try.func70, Try.ntmps70
  go_wp2_with fail
  refine wp_region_held_drew (S := fun w' => Hid (SB w' b p g qv Q M) ∧ w'.cell? ⟨b, 102 + s, none⟩ = some (.int .i64 (k + 1))) (by kernel_rfl) ⟨HQ, HM.out⟩ (fun hHeld => ?_)
  refine wpAnyH_take (i := 0) (v := ?_) rfl (by kernel_rfl) (by kernel_rfl) (by kernel_rfl) (fun _ _ _ h => h) (Or.inl ⟨by rfl, ?_⟩) (by assumption) ?_; rotate_left; focus (intro wS hSw; (try dsimp only at hSw); go_simp <;> with_reducible rfl); (try simp only [Act.put, List.getElem_toArray, List.getElem_cons_succ, List.getElem_cons_zero, List.setIfInBounds_toArray, List.set_cons_zero, List.set_cons_succ])
  refine wpAnyH_take (i := 1) (v := ?_) rfl (by kernel_rfl) (by kernel_rfl) (by kernel_rfl) (fun _ _ _ h => h) (Or.inl ⟨by rfl, ?_⟩) (by assumption) ?_; rotate_left; focus (intro wS hSw; (try dsimp only at hSw); go_simp <;> with_reducible rfl); (try simp only [Act.put, List.getElem_toArray, List.getElem_cons_succ, List.getElem_cons_zero, List.setIfInBounds_toArray, List.set_cons_zero, List.set_cons_succ])
  refine wpAnyH_take (i := 2) (v := ?_) rfl (by kernel_rfl) (by kernel_rfl) (by kernel_rfl) (fun _ _ _ h => h) (Or.inl ⟨by rfl, ?_⟩) (by assumption) ?_; rotate_left; focus (intro wS hSw; (try dsimp only at hSw); go_simp <;> with_reducible rfl); (try simp only [Act.put, List.getElem_toArray, List.getElem_cons_succ, List.getElem_cons_zero, List.setIfInBounds_toArray, List.set_cons_zero, List.set_cons_succ])
  refine wpAnyH_take (i := 3) (v := ?_) rfl (by kernel_rfl) (by kernel_rfl) (by kernel_rfl) (fun _ _ _ h => h) (Or.inl ⟨by rfl, ?_⟩) (by assumption) ?_; rotate_left; focus (intro wS hSw; (try dsimp only at hSw); go_simp <;> with_reducible rfl); (try simp only [Act.put, List.getElem_toArray, List.getElem_cons_succ, List.getElem_cons_zero, List.setIfInBounds_toArray, List.set_cons_zero, List.set_cons_succ])
  refine wpAnyH_take (i := 4) (v := .agg cs) rfl (by kernel_rfl) (by kernel_rfl) (by kernel_rfl) (fun _ _ _ h => h) (Or.inl ⟨by rfl, ?_⟩) (by assumption) ?_
  · intro wS hSw; (try dsimp only at hSw); exact exec_load_part 59 _ rfl b 0 rfl cs _ (by rw [HCS.out]; exact hSw.1.out.part) Try.underlying59 rfl (grid_size hsz)
  (try simp only [Act.put, List.getElem_toArray, List.getElem_cons_succ, List.getElem_cons_zero, List.setIfInBounds_toArray, List.set_cons_zero, List.set_cons_succ])
  refine wpAnyH_take (i := 5) (v := ?_) rfl (by kernel_rfl) (by kernel_rfl) (by kernel_rfl) (fun _ _ _ h => h) (Or.inl ⟨by rfl, ?_⟩) (by assumption) ?_; rotate_left; focus (intro wS hSw; (try dsimp only at hSw); go_simp <;> with_reducible rfl); (try simp only [Act.put, List.getElem_toArray, List.getElem_cons_succ, List.getElem_cons_zero, List.setIfInBounds_toArray, List.set_cons_zero, List.set_cons_succ])
  refine wpAnyH_take (i := 7) (v := ?_) rfl (by kernel_rfl) (by kernel_rfl) (by kernel_rfl) (fun _ _ _ h => h) (Or.inl ⟨by rfl, ?_⟩) (by assumption) ?_; rotate_left; focus (intro wS hSw; (try dsimp only at hSw); go_simp <;> with_reducible rfl); (try simp only [Act.put, List.getElem_toArray, List.getElem_cons_succ, List.getElem_cons_zero, List.setIfInBounds_toArray, List.set_cons_zero, List.set_cons_succ])
  refine wpAnyH_take (i := 8) (v := ?_) rfl (by kernel_rfl) (by kernel_rfl) (by kernel_rfl) (fun _ _ _ h => h) (Or.inl ⟨by rfl, ?_⟩) (by assumption) ?_; rotate_left; focus (intro wS hSw; (try dsimp only at hSw); go_simp <;> with_reducible rfl); (try simp only [Act.put, List.getElem_toArray, List.getElem_cons_succ, List.getElem_cons_zero, List.setIfInBounds_toArray, List.set_cons_zero, List.set_cons_succ])
  refine wpAnyH_ready (rs := [6]) (by kernel_rfl) (by simp) ?_; refine AllReadyH.cons rfl (fun K hK => ?_) AllReadyH.nil; go_simp; (go_at_call 65; refine (squareOf_any _ p n cs HP.out hn (by rw [HCS.out]; rfl)).mono ?_; rintro e w5 ⟨rfl, hg5⟩; rw [← HSS.out]; have HQ5 := Lib.hid (HQ.out.on hg5); have HR5 := Lib.hid (grownN_trans HR.out hg5); have HM5 := Lib.hid (hg5.cell HM.out (by simp)); clear hg5)
  refine hK.out _ _ ?_ (fun hHeld => ?_)
  · exact ⟨HQ5, HM5.out⟩
  clear hK K
  (try simp only [Act.put, List.getElem_toArray, List.getElem_cons_succ, List.getElem_cons_zero, List.setIfInBounds_toArray, List.set_cons_zero, List.set_cons_succ])
  refine wpAnyH_take (i := 9) (v := ?_) rfl (by kernel_rfl) (by kernel_rfl) (by kernel_rfl) (fun _ _ _ h => h) (Or.inl ⟨by rfl, ?_⟩) (by assumption) ?_; rotate_left; focus (intro wS hSw; (try dsimp only at hSw); go_simp <;> with_reducible rfl); (try simp only [Act.put, List.getElem_toArray, List.getElem_cons_succ, List.getElem_cons_zero, List.setIfInBounds_toArray, List.set_cons_zero, List.set_cons_succ])
  refine wpAnyH_take (i := 10) (v := ?_) rfl (by kernel_rfl) (by kernel_rfl) (by kernel_rfl) (fun _ _ _ h => h) (Or.inl ⟨by rfl, ?_⟩) (by assumption) ?_; rotate_left; focus (intro wS hSw; (try dsimp only at hSw); go_simp <;> with_reducible rfl); (try simp only [Act.put, List.getElem_toArray, List.getElem_cons_succ, List.getElem_cons_zero, List.setIfInBounds_toArray, List.set_cons_zero, List.set_cons_succ])
  refine wpAnyH_take (i := 11) (v := ?_) rfl (by kernel_rfl) (by kernel_rfl) (by kernel_rfl) (fun _ _ _ h => h) (Or.inl ⟨by rfl, ?_⟩) (by assumption) ?_; rotate_left; focus (intro wS hSw; (try dsimp only at hSw); go_simp <;> with_reducible rfl); (try simp only [Act.put, List.getElem_toArray, List.getElem_cons_succ, List.getElem_cons_zero, List.setIfInBounds_toArray, List.set_cons_zero, List.set_cons_succ])
  refine wpAnyH_take (i := 12) (v := ?_) rfl (by kernel_rfl) (by kernel_rfl) (by kernel_rfl) (fun _ _ _ h => h) (Or.inl ⟨by rfl, ?_⟩) (by assumption) ?_; rotate_left; focus (intro wS hSw; (try dsimp only at hSw); go_simp <;> with_reducible rfl); (try simp only [Act.put, List.getElem_toArray, List.getElem_cons_succ, List.getElem_cons_zero, List.setIfInBounds_toArray, List.set_cons_zero, List.set_cons_succ])
  refine wpAnyH_done (by kernel_rfl) ?_ _
  (try simp only [Act.put, List.getElem_toArray, List.getElem_cons_succ, List.getElem_cons_zero, List.setIfInBounds_toArray, List.set_cons_zero, List.set_cons_succ])
  go_wp2
  go_ret
  exact ⟨rfl, HR5.out⟩
end Go.Proofs.Ytfccikhmcenanaa.Sr

namespace Go.Proofs.Ytfccikhmcenanaa.Sr
open Go.RowKit Kit Rw Ld Gr GrI Bfs

/-- Where spread stands: the search, what is near, what has not been written. -/
structure SN (w wr : World) (b p : Nat) (g : List Int) (qv : Value) (Q M : List Int) (u : Value) (N : List Nat) : Prop where
  sb : SB wr b p g qv Q M
  row : Own .i64 63 wr (b + 1) u (ints N)
  apart : u.ownBlock = none ∨ u.ownBlock ≠ qv.ownBlock
  below : Below b w wr
section
variable {w wr wy : World} {b p : Nat} {g Q Q' M : List Int} {qv qv' u : Value} {N : List Nat}
theorem SN.on (h : SN w wr b p g qv Q M u N) (hg : wr.grownBy wy none) : SN w wy b p g qv Q M u N :=
  ⟨h.sb.on hg, h.row.grown hg, h.apart, h.below.grown hg (Nat.le_of_lt h.sb.box.lt) (fun _ h => by cases h)⟩
theorem SN.put (h : SN w wr b p g qv Q M u N) (s : Nat) (x : Int) : SN w (wr.setCell ⟨b, 102 + s, none⟩ (.int .i64 x)) b p g qv Q (M.set s x) u N :=
  ⟨h.sb.put s x, h.row.set (Nat.lt_succ_self _) _ _, h.apart, h.below.setCell (Nat.le_refl _) _⟩
theorem SN.push (h : SN w wr b p g qv Q M u N) (ho : Own .i64 63 wy (b + 1) qv' Q') (hg : wr.grownBy wy qv.ownBlock) (hl : qv'.ownBlock = qv.ownBlock ∨ ∃ c, qv'.ownBlock = some c ∧ wr.heap.size ≤ c) : SN w (wy.setCell ⟨b, 101, none⟩ qv') b p g qv' Q' M u N := by
  refine ⟨h.sb.push ho hg, (h.row.kept hg h.apart).set (Nat.lt_succ_self _) _ _, ?_, h.below.trans (h.sb.below hg _ _)⟩
  rcases hl with hl | ⟨c, hl, hle⟩
  · rw [hl]; exact h.apart
  · rw [hl]
    cases hu : u.ownBlock with
    | none => exact .inl rfl
    | some e => have := h.row.lt e hu; exact .inr (fun e' => by injection e' with e'; omega)
end

set_option maxRecDepth 100000 in
set_option maxHeartbeats 4000000 in
theorem spread_any (w : World) (b p h : Nat) (X : List Int) (a D : Int) (i cn : Nat) (d q M : List Int) (qv : Value) (hS : SB w b p (grid p X) qv (sqs p q) M) (hM : Marks p X M d) (hI : Inv p X a i d q) (hi : i < q.length) (hL : isLand p h X = true) (hcn : q.getD i 0 = (cn : Int)) (hD : at' d cn + 1 ≤ D) (hC : ∀ n ∈ q, at' d n ≤ D) :
    Calls Try.prog 83 #[.pointer (some ⟨b, 0, none⟩), .int .i64 ((sq p cn : Nat) : Int)] w fun e w' => e = .returned (.tuple #[]) ∧ ∃ qv' d' q' M', SB w' b p (grid p X) qv' (sqs p q') M' ∧ Marks p X M' d' ∧ Inv p X a (i + 1) d' q' ∧ (∀ n ∈ q', at' d' n ≤ D) ∧ Below b w w' := by
  obtain ⟨hp, hH, hLen, _⟩ := isLand_of hL
  have hA := area hp hH
  have hxl : X.length = p * h := by exact_mod_cast hLen
  have hcl := hI.inq _ (mem_getD hi)
  rw [hcn] at hcl
  have HP : Hid ((1 ≤ p ∧ p ≤ 8) ∧ h ≤ 8 ∧ X.length = p * h ∧ cn < X.length ∧ X.length ≤ 64) := ⟨by omega, by omega, hxl, by omega, by omega⟩
  have HL := Lib.hid hL
  have HSQ := Lib.hid (sq_lt HP.out.1 HP.out.2.1 (show cn < p * h by have := HP.out; omega))
  obtain ⟨cs, hcs⟩ : ∃ cs, cs = gcells p (grid p X) := ⟨_, rfl⟩
  have hsz : cs.size = 101 := by rw [hcs]; exact gcells_size (grid_len _ _)
  have HCS := Lib.hid hcs
  have HS := Lib.hid hS
  have HM0 := Lib.hid hM
  have HI0 := Lib.hid hI
  have HQ0 : Hid (i < q.length ∧ q.getD i 0 = (cn : Int)) := ⟨hi, hcn⟩
  have HD0 := Lib.hid hD
  have HC0 := Lib.hid hC
  obtain ⟨i0, hi0, hz0, hz1, hz2⟩ := info_parts info_sq
  obtain ⟨s, hss⟩ : ∃ s, s = sq p cn := ⟨_, rfl⟩
  rw [← hss]
  have HSS := Lib.hid hss
  clear hp hH hLen hA hxl hcl hcs hS hM hI hi hL hcn hD hC hss
  go_enter Try.func83, Try.ntmps83
  go_wp2_with (refine wpList_load_part rfl 59 _ rfl b 0 rfl cs _ (by rw [HCS.out]; exact HS.out.part) Try.underlying59 rfl (grid_size hsz) ?_)
  refine (gnear_any w p s cs (grid p X) HCS.out (grid_len _ _) (by rw [HSS.out]; exact HSQ.out.1) (by rw [HSS.out]; exact HSQ.out.2)).mono ?_
  rintro e w1 ⟨u, rfl, ho, hg⟩
  obtain ⟨ua, un, uc, hu, HUN⟩ := ho.sees.shape
  subst hu
  have hle := HS.out.box.lt
  have HN0 : Hid (SN w w1 b p (grid p X) qv (sqs p q) M (.slice ua un uc) (nsq (grid p X) (sq p cn))) :=
    ⟨HS.out.on hg, by have := ho.lower (show b + 1 ≤ w.heap.size by omega); rwa [HSS.out] at this, (ho.apart HS.out.own (Nat.le_refl _)).1, (Below.refl b w).grown hg (Nat.le_of_lt hle) (fun _ h => by cases h)⟩
  have hun4 : un ≤ 4 := by have := HUN.out; have := nsq_len (grid p X) s; simp [ints] at *; omega
  have HUN2 : Hid ((nsq (grid p X) (sq p cn)).length = un) := by have := HUN.out; show _ = _; rw [← HSS.out]; simpa [ints] using this
  have HNR : Hid ((nsq (grid p X) (sq p cn)).map (fun t => ((cl p t : Nat) : Int)) = near p cn X) := nsq_near HP.out.1 HP.out.2.1 HP.out.2.2.1 HP.out.2.2.2.1
  clear ho hg hle HUN
  go_wp2_with fail
  go_loopw [13] (fun s13 wz => ∃ (k : Nat) (d2 q2 M2 : List Int) (qv2 : Value), k ≤ un ∧ s13 = .int .i64 k ∧ Hid (Inv p X a i d2 q2) ∧ Hid (Marks p X M2 d2) ∧ Hid (SN w wz b p (grid p X) qv2 (sqs p q2) M2 (.slice ua un uc) (nsq (grid p X) (sq p cn))) ∧ Hid (i < q2.length ∧ q2.getD i 0 = (cn : Int)) ∧ Hid (∀ j, j < k → 0 ≤ at' d2 ((near p cn X).getD j 0) ∧ at' d2 ((near p cn X).getD j 0) ≤ at' d2 cn + 1) ∧ Hid (∀ n ∈ q2, at' d2 n ≤ D) ∧ Hid (at' d2 cn + 1 ≤ D)) (fun s13 _ => un - (intOf s13).toNat)
  case atStart => exact ⟨0, d, q, M, qv, Nat.zero_le _, rfl, HI0, HM0, HN0, HQ0, (fun j hj => absurd hj (Nat.not_lt_zero _)), HC0, HD0⟩
  case round =>
    obtain ⟨k, d2, q2, M2, qv2, hk, rfl, HI4, HM4, HN4, HQ4, HE4, HC4, HD4⟩ := hrel
    clear HI0 HM0 HN0 HQ0 HC0 HD0 HS
    by_cases hkn : k < un
    · have hkN : k < (nsq (grid p X) (sq p cn)).length := by rw [HUN2.out]; exact hkn
      obtain ⟨t, ht⟩ : ∃ t, t = (nsq (grid p X) (sq p cn))[k] := ⟨_, rfl⟩
      have hin := nsq_mem HP.out.1 HP.out.2.1 HP.out.2.2.1 HP.out.2.2.2.1 (t := t) (by rw [ht]; exact List.getElem_mem hkN)
      have htb := sq_cl HP.out.1 hin
      simp only [inb, decide_eq_true_eq] at hin
      obtain ⟨r, hr⟩ : ∃ r, r = cl p t := ⟨_, rfl⟩
      rw [← hr] at htb hin
      have hrX : r < X.length := hin.2.2.2
      have ht2 := sq_lt HP.out.1 HP.out.2.1 (show r < p * h by rw [← HP.out.2.2.1]; exact hrX)
      rw [htb] at ht2
      have ht100 : t < 100 := by omega
      have hnk : (near p cn X).getD k 0 = (r : Int) := by
        rw [← HNR.out]; simp [hkN, ← ht, hr]
      have hmem : (r : Int) ∈ near p cn X := by rw [← hnk]; exact mem_getD (by rw [← HNR.out]; simpa using hkN)
      obtain ⟨ub, uo, rfl, hcj⟩ := HN4.out.row.sees.at_row (j := k) (by simp [ints]; exact hkN)
      have e1 : (ints (nsq (grid p X) (sq p cn))).getD k 0 = (t : Int) := by simp [ints, ht, hkN]
      rw [e1] at hcj
      have hs100 : s < 100 := by have := HSQ.out; rw [← HSS.out] at this; omega
      have hmt := HN4.out.sb.m ht100
      have hms := HN4.out.sb.m hs100
      have hzt : M2.getD t 0 = at' d2 (r : Int) + 1 := by rw [← htb]; exact HM4.out.at_ r hrX
      have hzs : M2.getD s 0 = at' d2 (cn : Int) + 1 := by rw [HSS.out]; exact HM4.out.at_ cn HP.out.2.2.2.1
      rw [hzt] at hmt
      rw [hzs] at hms
      obtain ⟨hiq, hqc⟩ := HQ4.out
      have hcb : 0 ≤ at' d2 cn ∧ at' d2 cn ≤ 64 := by
        have h1 := (HI4.out.inq (q2.getD i 0) (mem_getD hiq)).2.2
        have h2 := HI4.out.bnd i hiq
        have h3 := HI4.out.short
        rw [hqc] at h1 h2
        have := HP.out
        omega
      obtain ⟨hcb0, hcb1⟩ := hcb
      obtain ⟨z, hz⟩ : ∃ z, z = at' d2 (r : Int) + 1 := ⟨_, rfl⟩
      obtain ⟨y, hy⟩ : ∃ y, y = at' d2 (cn : Int) + 1 := ⟨_, rfl⟩
      rw [← hz] at hmt
      rw [← hy] at hms
      have hy1 : 1 ≤ y ∧ y ≤ 65 := by omega
      obtain ⟨hy1, hy65⟩ := hy1
      have hq64 : q2.length ≤ 64 := by have := HI4.out.short; have := HP.out; omega
      have hti : (t : Int) < 100 := by omega
      have hsi : (s : Int) < 100 := by omega
      have HT : Hid (sq p r = t ∧ r < X.length ∧ (near p cn X).getD k 0 = (r : Int) ∧ (r : Int) ∈ near p cn X) := ⟨htb, hrX, hnk, hmem⟩
      have HZ := Lib.hid hz
      have HY := Lib.hid hy
      have HQL := Lib.hid hq64
      have hqcell := HN4.out.sb.q
      have hfr := HN4.out.sb.box.free (102 + t)
      clear hkN ht hin htb hr hrX ht2 hnk hmem e1 hzt hzs hiq hqc hcb0 hcb1 hz hy hq64
      by_cases h0 : z = 0
      · subst h0
        have hw1 : IntKind.i64.wrap (y + 1) = y + 1 := IntWalk.i64_in _ (by omega)
        go_wp2_with fail
        refine wp_region_still_tail 12 (by kernel_rfl) (by kernel_rfl) ?_
        simp only [List.take_succ_cons, List.take_zero, List.drop_succ_cons, List.drop_zero]
        repeat still_step
        refine wpStill_nil ?_
        clear hw1
        have hgd0 := grown_drew (World.grownBy.refl (wr.setCell ⟨b, 102 + t, none⟩ (.int .i64 (y + 1))) none)
        have HNP := Lib.hid ((HN4.out.put t (y + 1)).on hgd0)
        have hcj2 : (wr.setCell ⟨b, 102 + t, none⟩ (.int .i64 (y + 1))).drew.cell? ⟨ub, uo + k, none⟩ = some (.int .i64 (t : Int)) := by
          have h1 := HN4.out.row.lt ub rfl
          exact hgd0.cell ((grown_set wr b (102 + t) (.int .i64 (y + 1))).cell hcj (by simp; omega)) (by simp)
        have hqcell2 := HNP.out.sb.q
        have hbase : b + 1 ≤ (wr.setCell ⟨b, 102 + t, none⟩ (.int .i64 (y + 1))).drew.heap.size := HNP.out.sb.box.lt
        have hqz : (wr.setCell ⟨b, 102 + t, none⟩ (.int .i64 (y + 1))).drew.heap.size = wr.heap.size := by simp [World.setCell, World.drew]
        clear hqcell hms hgd0 hcj
        go_wp2_with (at_builtin; go_loud (refine wpList_append_one_at _ rfl _ _ 61 rfl (b + 1) 63 i0 (.int .i64 0) 8 Try.underlying61 hi0 hz0 hz1 hz2 rfl .i64 _ (sqs p q2) rfl HNP.out.sb.own (t : Int) (by rw [hqz]; rfl) (i64_mk (by omega)) (by simp [sqs]; have := HQL.out; omega) (by decide) hbase ?_); intro v3 w3 hown3 hgrow3 hpl3; obtain ⟨va3, vn3, vc3, hv3, HV3⟩ := hown3.sees.shape; subst hv3; have hb3 := HNP.out.sb.box.kept hgrow3 (HNP.out.sb.own.off (Nat.lt_succ_self _)); have c3 := (hb3.cell 101).trans (scells_q (HNP.out.sb.gl)); have f3 := hb3.free 101; have HPU := Lib.hid (HNP.out.push hown3 hgrow3 hpl3); clear hown3 hgrow3 hpl3 hb3)
        go_roundw
        case rel =>
          have hd0 : at' d2 (r : Int) < 0 := by have := HZ.out; omega
          have hI := HI4.out.meet HL.out HQ4.out.1 (n := (r : Int)) (by rw [HQ4.out.2]; exact HT.out.2.2.2) hd0
          have hM := HM4.out.set HP.out.1 HP.out.2.1 HP.out.2.2.1 HN4.out.sb.ml HT.out.2.1 (at' d2 (cn : Int) + 1)
          rw [HT.out.1, ← HY.out] at hM
          rw [HQ4.out.2, Int.toNat_natCast, ← HY.out] at hI
          have hdl : d2.length = X.length := HI4.out.len
          have hrl := HT.out.2.1
          have hset : ∀ z : Int, 0 ≤ z → at' (d2.set r y) z = if z = (r : Int) then y else at' d2 z := fun z hz => by
            have := at_set (d := d2) (n := (r : Int)) (m := z) (v := y) (by omega) (by omega) hz
            rwa [Int.toNat_natCast] at this
          have hcne : (cn : Int) ≠ r := fun e => by rw [← e] at hd0; have := HY.out; omega
          have hcv : at' (d2.set r y) cn = at' d2 cn := by rw [hset cn (by omega), if_neg hcne]
          have hpu := HPU.out
          rw [show sqs p q2 ++ [(t : Int)] = sqs p (q2 ++ [(r : Int)]) by rw [sqs_add, HT.out.1]] at hpu
          refine ⟨k + 1, d2.set r y, q2 ++ [(r : Int)], M2.set t (y + 1), _, by omega, by go_num, hI, hM, hpu, ⟨by simp; have := HQ4.out.1; omega, by rw [getD_append_l HQ4.out.1]; exact HQ4.out.2⟩, fun j hj => ?_, fun n hn => ?_, by rw [hcv]; exact HD4.out⟩
          · rw [hcv]
            by_cases e : j = k
            · subst e
              rw [HT.out.2.2.1, hset r (by omega), if_pos rfl]
              have := HY.out
              omega
            · have h1 := HE4.out j (by omega)
              have hjl : j < (near p cn X).length := by rw [← HNR.out, List.length_map, HUN2.out]; omega
              have hz := near_in HL.out (by omega) (by have := HP.out.2.2.2.1; omega) (mem_getD (L := near p cn X) (j := j) hjl)
              rw [hset _ hz.1, if_neg (fun e => by rw [e] at h1; omega)]
              exact h1
          · rcases List.mem_append.1 hn with hn | hn
            · have h0 := (HI4.out.inq n hn)
              rw [hset n h0.1, if_neg (fun e => by rw [e] at h0; omega)]
              exact HC4.out n hn
            · simp at hn; subst hn
              rw [hset r (by omega), if_pos rfl]
              have := HD4.out; have := HY.out; omega
        case measure => simp [intOf]; omega
      · have hzb : (z == 0) = false := by simpa using h0
        go_wp2
        go_roundw
        case rel =>
          refine ⟨k + 1, d2, q2, M2, qv2, by omega, by go_num, HI4, HM4, HN4, HQ4, fun j hj => ?_, HC4, HD4⟩
          by_cases e : j = k
          · subst e
            rw [HT.out.2.2.1]
            have hrl := HT.out.2.1
            have h1 := HI4.out.low r (by omega) (by omega)
            have h2 : 0 ≤ at' d2 (r : Int) := by have := HZ.out; omega
            refine ⟨h2, ?_⟩
            obtain ⟨kk, hkk, hkv⟩ := mem_ix (HI4.out.known r (by omega) (by omega) h2)
            have := HI4.out.top HQ4.out.1 kk hkk
            rw [hkv, HQ4.out.2] at this
            exact this
          · exact HE4.out j (by omega)
        case measure => simp [intOf]; omega
    · have hkk : k = un := by omega
      have hnx := HI4.out.next HQ4.out.1 (fun n hn => by
        rw [HQ4.out.2] at hn ⊢
        obtain ⟨j, hj, e⟩ := mem_ix hn
        have := HE4.out j (by rw [← HNR.out, List.length_map, HUN2.out] at hj; omega)
        rwa [e] at this)
      have HX := Lib.hid hnx
      clear hnx
      go_wp2
      first | go_ret | go_end0 | refine bodyPost_ret (results_none rfl _ _ _) rfl ?_
      exact ⟨rfl, qv2, d2, q2, M2, HN4.out.sb, HM4.out, HX.out, HC4.out, HN4.out.below⟩
end Go.Proofs.Ytfccikhmcenanaa.Sr

namespace Go.Proofs.Ytfccikhmcenanaa.Sr
open Go.RowKit Kit Rw Ld Gr GrI Bfs

theorem int_info : (Try.prog.info? 3).map (fun i => (i.zero, i.size)) = some (some (.int .i64 0), 1) := by kernel_rfl
theorem marks_none {p : Nat} {X : List Int} : Marks p X (List.replicate 100 0) (List.replicate X.length (-1)) := by
  refine ⟨by simp, fun n hn => ?_⟩
  have e1 : at' (List.replicate X.length (-1 : Int)) (n : Int) = -1 := by unfold at'; rw [List.getD_eq_getElem?_getD, List.getElem?_replicate, if_pos (by omega)]; rfl
  rw [e1, List.getD_eq_getElem?_getD, List.getElem?_replicate]
  split <;> rfl

set_option maxRecDepth 100000 in
set_option maxHeartbeats 1000000 in
theorem begin_any (w : World) (b p h f : Nat) (X : List Int) (D : Int) (Q M : List Int) (qv : Value) (hS : SB w b p (grid p X) qv Q M) (hL : isLand p h X = true) (hf : f < X.length) (hD : 0 ≤ D) :
    Calls Try.prog 69 #[.pointer (some ⟨b, 0, none⟩), .int .i64 (f : Int), .int .i64 D] w fun e w' => e = .returned (.tuple #[]) ∧ ∃ qv' Q' M', SB w' b p (grid p X) qv' Q' M' ∧ Marks p X M' (cut D (distL p X f)) ∧ Below b w w' := by
  obtain ⟨hp, hH, hLen, _⟩ := isLand_of hL
  have hA := area hp hH
  have hxl : X.length = p * h := by exact_mod_cast hLen
  have HP : Hid ((1 ≤ p ∧ p ≤ 8) ∧ h ≤ 8 ∧ X.length = p * h ∧ f < X.length ∧ X.length ≤ 64) := ⟨by omega, by omega, hxl, hf, by omega⟩
  have HL := Lib.hid hL
  have HSQ := Lib.hid (sq_lt HP.out.1 HP.out.2.1 (show f < p * h by omega))
  obtain ⟨cs, hcs⟩ : ∃ cs, cs = gcells p (grid p X) := ⟨_, rfl⟩
  have hsz : cs.size = 101 := by rw [hcs]; exact gcells_size (grid_len _ _)
  have HCS := Lib.hid hcs
  have HD := Lib.hid hD
  obtain ⟨i0, hi0, hz0, hz1, hz2⟩ := info_parts info_sq
  obtain ⟨s, hss⟩ : ∃ s, s = sq p f := ⟨_, rfl⟩
  have HSS := Lib.hid hss
  have hs100 : s < 100 := by rw [hss]; have := HSQ.out; omega
  have hsi : (s : Int) < 100 := by omega
  have hf64 : f < 64 := by omega
  obtain ⟨hS1, hk1⟩ := hS.clears
  have hcl : ∀ ty, (Builtin.clear_ #[24] ty #[.slice (some ⟨b, 102, none⟩) 100 100]).run Try.prog w = .ok (.tuple #[]) (w.setCells b 102 (List.replicate 100 (.int .i64 0))) :=
    fun ty => Lib.run_clear_slice w 24 3 ty (.int .i64 0) Try.underlying24 (zero_of_info int_info).1 rfl rfl b 102 100 100 (by omega) (fun j hj => by rw [hS.m hj]; rfl) (fun j hj => hS.box.free (102 + j))
  have hb1 : Below b w (w.setCells b 102 (List.replicate 100 (.int .i64 0))) := (Below.refl b w).grown hk1 (Nat.le_of_lt hS.box.lt) (fun k hk => by injection hk with hk; omega)
  obtain ⟨w1, hw1⟩ : ∃ w1, w1 = w.setCells b 102 (List.replicate 100 (.int .i64 0)) := ⟨_, rfl⟩
  rw [← hw1] at hcl hS1 hb1
  have HS1 := Lib.hid hS1
  have HB1 := Lib.hid hb1
  clear hp hH hLen hA hxl hcs hS hL hf hD hss hS1 hk1 hb1 hw1
  go_enter Try.func69, Try.ntmps69
  go_upto_region 1 with (fail)
  clear hcl
  go_wp2_with (refine wpList_load_part rfl 59 _ rfl b 0 rfl cs _ (by rw [HCS.out]; exact HS1.out.part) Try.underlying59 rfl (grid_size hsz) ?_)
  refine (squareOf_any w1 p f cs HP.out.1 hf64 (by rw [HCS.out]; rfl)).mono ?_
  rintro e w2 ⟨rfl, hg⟩
  rw [← HSS.out]
  have HS2 := Lib.hid (HS1.out.on hg)
  have HB2 := Lib.hid (HB1.out.grown hg (Nat.le_of_lt HS1.out.box.lt) (fun _ h => by cases h))
  have hms := HS2.out.m hs100
  have hfr := HS2.out.box.free (102 + s)
  clear hg
  go_upto_region 3 with (fail)
  have HS3 := Lib.hid (HS2.out.put s 1)
  have HB3 := Lib.hid (HB2.out.setCell (p := ⟨b, 102 + s, none⟩) (Nat.le_refl _) (.int .i64 1))
  clear hms hfr
  generalize w2.setCell ⟨b, 102 + s, none⟩ (.int .i64 1) = w3 at *
  obtain ⟨qa, qn, qc, hqv, HQN⟩ := HS3.out.own.sees.shape
  subst hqv
  have hqcell := HS3.out.q
  have HO0 := Lib.hid (Own.cut0 HS3.out.own)
  have hbase : b + 1 ≤ w3.heap.size := HS3.out.box.lt
  have HOB : Hid ((Value.slice qa 0 qc).ownBlock = (Value.slice qa qn qc).ownBlock) := by show _ = _; cases qa <;> rfl

  go_wp2_with (at_builtin; go_loud (refine wpList_append_one_at _ rfl _ _ 61 rfl (b + 1) 63 i0 (.int .i64 0) 8 Try.underlying61 hi0 hz0 hz1 hz2 rfl .i64 _ [] rfl HO0.out (s : Int) rfl (i64_mk (by omega)) (by simp) (by decide) hbase ?_); intro v3 w4 hown3 hgrow3 hpl3; obtain ⟨va3, vn3, vc3, hv3, HV3⟩ := hown3.sees.shape; subst hv3; have hgrow4 : w3.grownBy w4 (Value.slice qa qn qc).ownBlock := (by rw [← HOB.out]; exact hgrow3); have hb3 := HS3.out.box.kept hgrow4 (HS3.out.own.off (Nat.lt_succ_self _)); have c3 := (hb3.cell 101).trans (scells_q HS3.out.gl); have f3 := hb3.free 101; have HPU := Lib.hid (HS3.out.push hown3 hgrow4); have HB4 := Lib.hid (HB3.out.trans (HS3.out.below hgrow4 (.slice va3 vn3 vc3) 101)); clear hown3 hgrow3 hgrow4 hpl3 hb3)
  have HQ5 : Hid (Inv p X (f : Int) 0 ((List.replicate X.length (-1)).set f 0) [(f : Int)] ∧ Marks p X ((List.replicate 100 0).set s 1) ((List.replicate X.length (-1)).set f 0) ∧ (∀ n ∈ [(f : Int)], at' ((List.replicate X.length (-1)).set f 0) n ≤ D)) := by
    have hi := Inv.start (W := (p : Int)) (X := X) (a := (f : Int)) (by omega) (by have := HP.out.2.2.2.1; omega)
    rw [Int.toNat_natCast] at hi
    have hm := (marks_none (p := p) (X := X)).set HP.out.1 HP.out.2.1 HP.out.2.2.1 (by simp) HP.out.2.2.2.1 0
    rw [← HSS.out] at hm
    refine ⟨hi, hm, fun n hn => ?_⟩
    simp only [List.mem_singleton] at hn
    subst hn
    rw [hi.src]; exact HD.out
  have hpu := HPU.out
  rw [show [] ++ [(s : Int)] = sqs p [(f : Int)] by simp [sqs, HSS.out]] at hpu
  have HPU := Lib.hid hpu
  clear hpu hqcell c3 f3 HO0 HOB HS1 HS2 HS3 HB1 HB2 HB3
  go_wp2_with fail
  go_loopw [7] (fun s7 wz => ∃ (i : Nat) (d q M : List Int) (qv : Value), s7 = .int .i64 i ∧ Hid (Inv p X (f : Int) i d q) ∧ Hid (Marks p X M d) ∧ Hid (SB wz b p (grid p X) qv (sqs p q) M) ∧ Hid (∀ n ∈ q, at' d n ≤ D) ∧ Hid (Below b w wz)) (fun s7 _ => X.length - (intOf s7).toNat)
  case atStart => exact ⟨0, _, _, _, _, rfl, HQ5.out.1, HQ5.out.2.1, HPU, HQ5.out.2.2, HB4⟩
  case round =>
    obtain ⟨i, d, q, M1, qv, rfl, HI, HM, HS, HC, HB⟩ := hrel
    clear HQ5 HPU HB4
    obtain ⟨qa, qn, qc, hqv, HQN⟩ := HS.out.own.sees.shape
    subst hqv
    have hqcell := HS.out.q
    have hqn : q.length = qn := by have := HQN.out; simpa [sqs] using this
    have hil := HI.out.ile
    have hil2 := HI.out.short
    by_cases hlt : i < q.length
    · have hlt2 : i < qn := by omega
      have hin := HI.out.inq _ (mem_getD hlt)
      obtain ⟨cn, hcn⟩ : ∃ cn : Nat, q.getD i 0 = cn := ⟨(q.getD i 0).toNat, by omega⟩
      rw [hcn] at hin
      obtain ⟨qb, qo, rfl, hcj⟩ := HS.out.own.sees.at_row (j := i) (by simp [sqs]; exact hlt)
      rw [sqs_at hlt, hcn, Int.toNat_natCast] at hcj
      obtain ⟨t, ht⟩ : ∃ t, t = sq p cn := ⟨_, rfl⟩
      rw [← ht] at hcj
      have htb := sq_lt HP.out.1 HP.out.2.1 (show cn < p * h by have := HP.out.2.2.1; omega)
      rw [← ht] at htb
      have ht100 : t < 100 := by omega
      have hti : (t : Int) < 100 := by omega
      have hmt := HS.out.m ht100
      have hz : M1.getD t 0 = at' d (cn : Int) + 1 := by rw [ht]; exact HM.out.at_ cn (by omega)
      rw [hz] at hmt
      obtain ⟨z, hzz⟩ : ∃ z, z = at' d (cn : Int) + 1 := ⟨_, rfl⟩
      rw [← hzz] at hmt
      have HZ := Lib.hid hzz
      have HT := Lib.hid ht
      have HLT := Lib.hid hlt
      have HCN := Lib.hid hcn
      have HX64 := Lib.hid (Nat.le_trans hil2 HP.out.2.2.2.2)
      have hi64 : i ≤ 64 := by have := HP.out.2.2.2.2; omega
      have hix : i < X.length := by omega
      clear hin ht htb hz hzz hcn hil hil2 hqn hlt
      by_cases hg : D < z
      · have HST : Hid (d = cut D (distL p X f)) := HI.out.stop HL.out HLT.out HC.out (by rw [HCN.out]; have := HZ.out; omega)
        go_wp2
        first | go_ret | go_end0 | refine bodyPost_ret (results_none rfl _ _ _) rfl ?_
        exact ⟨rfl, _, _, M1, HS.out, by rw [← HST.out]; exact HM.out, HB.out⟩
      · go_wp2_with fail
        rw [HT.out]
        refine (spread_any wr b p h X f D i cn d q M1 _ HS.out HM.out HI.out HLT.out HL.out HCN.out (by have := HZ.out; omega) HC.out).mono ?_
        rintro e w5 ⟨rfl, qv', d', q', M', hS', hM', hI', hC', hB'⟩
        have HS' := Lib.hid hS'
        have HM' := Lib.hid hM'
        have HI' := Lib.hid hI'
        have HC' := Lib.hid hC'
        have HB' := Lib.hid (HB.out.trans hB')
        clear hS' hM' hI' hC' hB'
        go_wp2_with fail
        go_roundw
        case rel => exact ⟨i + 1, d', q', M', qv', by go_num, HI', HM', HS', HC', HB'⟩
        case measure => simp [intOf]; omega
    · have hlt2 : ¬ i < qn := by omega
      have HST : Hid (d = cut D (distL p X f)) := HI.out.all hlt HC.out HD.out
      go_wp2
      first | go_ret | go_end0 | refine bodyPost_ret (results_none rfl _ _ _) rfl ?_
      exact ⟨rfl, _, _, M1, HS.out, by rw [← HST.out]; exact HM.out, HB.out⟩
end Go.Proofs.Ytfccikhmcenanaa.Sr

namespace Go.Proofs.Ytfccikhmcenanaa.Sr
open Go.RowKit Kit Rw Ld Gr GrI Bfs Wf


theorem find_first {L : List Int} {P : Int → Bool} {k : Nat} (hk : k < L.length) (h : ∀ j, j < k → P (L.getD j 0) = false) (hP : P (L.getD k 0) = true) : L.find? P = some (L.getD k 0) := by
  rw [List.find?_eq_some_iff_getElem]
  have e : L.getD k 0 = L[k] := by simp [hk]
  refine ⟨hP, k, hk, e.symm, fun j hj => ?_⟩
  have := h j hj
  have e2 : L.getD j 0 = L[j] := by simp [show j < L.length by omega]
  rw [e2] at this
  simp [this]
theorem find_none {L : List Int} {P : Int → Bool} (h : ∀ j, j < L.length → P (L.getD j 0) = false) : L.find? P = none := by
  rw [List.find?_eq_none]
  intro x hx
  obtain ⟨j, hj, rfl⟩ := List.getElem_of_mem hx
  have := h j hj
  have e2 : L.getD j 0 = L[j] := by simp [hj]
  rw [e2] at this
  simp [this]

/-- Where nearer stands. -/
structure SF (w wr : World) (b p : Nat) (g : List Int) (qv : Value) (Q M : List Int) (u : Value) (N : List Nat) : Prop where
  sb : SB wr b p g qv Q M
  row : Sees .i64 wr u (ints N)
  grown : w.grownBy wr none
theorem SF.on {w wr wy : World} {b p : Nat} {g Q M : List Int} {qv u : Value} {N : List Nat} (h : SF w wr b p g qv Q M u N) (hg : wr.grownBy wy none) : SF w wy b p g qv Q M u N :=
  ⟨h.sb.on hg, h.row.grown hg, grownN_trans h.grown hg⟩

set_option maxRecDepth 100000 in
set_option maxHeartbeats 1000000 in
theorem nearer_any (w : World) (b p h n : Nat) (X d Q M : List Int) (qv : Value) (hS : SB w b p (grid p X) qv Q M) (hM : Marks p X M d) (hd : ∀ m : Int, 0 ≤ m → m < X.length → -1 ≤ at' d m ∧ at' d m ≤ 64) (hL : isLand p h X = true) (hn : n < X.length) :
    Calls Try.prog 71 #[.pointer (some ⟨b, 0, none⟩), .int .i64 (n : Int)] w fun e w' => e = .returned (.int .i64 (nearerOf p X d n)) ∧ w.grownBy w' none := by
  obtain ⟨hp, hH, hLen, _⟩ := isLand_of hL
  have hA := area hp hH
  have hxl : X.length = p * h := by exact_mod_cast hLen
  have HP : Hid ((1 ≤ p ∧ p ≤ 8) ∧ h ≤ 8 ∧ X.length = p * h ∧ n < X.length ∧ X.length ≤ 64) := ⟨by omega, by omega, hxl, hn, by omega⟩
  have HL := Lib.hid hL
  have HSQ := Lib.hid (sq_lt HP.out.1 HP.out.2.1 (show n < p * h by omega))
  obtain ⟨cs, hcs⟩ : ∃ cs, cs = gcells p (grid p X) := ⟨_, rfl⟩
  have hsz : cs.size = 101 := by rw [hcs]; exact gcells_size (grid_len _ _)
  have HCS := Lib.hid hcs
  have HD := Lib.hid hd
  have HM := Lib.hid hM
  have hn64 : n < 64 := by omega
  have hdr := grown_drew (World.grownBy.refl w none)
  have HQ := Lib.hid (hS.on hdr)
  have HR := Lib.hid hdr
  clear hp hH hLen hA hxl hcs hS hL hM hd hn hdr
  go_enter Try.func71, Try.ntmps71
  go_wp2_with fail
  refine wp_region_held_drew (S := fun w' => Hid (SB w' b p (grid p X) qv Q M)) (by kernel_rfl) HQ (fun hHeld => ?_)
  refine wpAnyH_take (i := 0) (v := ?_) rfl (by kernel_rfl) (by kernel_rfl) (by kernel_rfl) (fun _ _ _ h => h) (Or.inl ⟨by rfl, ?_⟩) (by assumption) ?_; rotate_left; focus (intro wS hSw; (try dsimp only at hSw); go_simp <;> with_reducible rfl); (try simp only [Act.put, List.getElem_toArray, List.getElem_cons_succ, List.getElem_cons_zero, List.setIfInBounds_toArray, List.set_cons_zero, List.set_cons_succ])
  refine wpAnyH_take (i := 1) (v := ?_) rfl (by kernel_rfl) (by kernel_rfl) (by kernel_rfl) (fun _ _ _ h => h) (Or.inl ⟨by rfl, ?_⟩) (by assumption) ?_; rotate_left; focus (intro wS hSw; (try dsimp only at hSw); go_simp <;> with_reducible rfl); (try simp only [Act.put, List.getElem_toArray, List.getElem_cons_succ, List.getElem_cons_zero, List.setIfInBounds_toArray, List.set_cons_zero, List.set_cons_succ])
  refine wpAnyH_take (i := 2) (v := ?_) rfl (by kernel_rfl) (by kernel_rfl) (by kernel_rfl) (fun _ _ _ h => h) (Or.inl ⟨by rfl, ?_⟩) (by assumption) ?_; rotate_left; focus (intro wS hSw; (try dsimp only at hSw); go_simp <;> with_reducible rfl); (try simp only [Act.put, List.getElem_toArray, List.getElem_cons_succ, List.getElem_cons_zero, List.setIfInBounds_toArray, List.set_cons_zero, List.set_cons_succ])
  refine wpAnyH_take (i := 3) (v := .agg cs) rfl (by kernel_rfl) (by kernel_rfl) (by kernel_rfl) (fun _ _ _ h => h) (Or.inl ⟨by rfl, ?_⟩) (by assumption) ?_
  · intro wS hSw; (try dsimp only at hSw); exact exec_load_part 59 _ rfl b 0 rfl cs _ (by rw [HCS.out]; exact hSw.out.part) Try.underlying59 rfl (grid_size hsz)
  (try simp only [Act.put, List.getElem_toArray, List.getElem_cons_succ, List.getElem_cons_zero, List.setIfInBounds_toArray, List.set_cons_zero, List.set_cons_succ])
  refine wpAnyH_take (i := 4) (v := ?_) rfl (by kernel_rfl) (by kernel_rfl) (by kernel_rfl) (fun _ _ _ h => h) (Or.inl ⟨by rfl, ?_⟩) (by assumption) ?_; rotate_left; focus (intro wS hSw; (try dsimp only at hSw); go_simp <;> with_reducible rfl); (try simp only [Act.put, List.getElem_toArray, List.getElem_cons_succ, List.getElem_cons_zero, List.setIfInBounds_toArray, List.set_cons_zero, List.set_cons_succ])
  refine wpAnyH_take (i := 5) (v := ?_) rfl (by kernel_rfl) (by kernel_rfl) (by kernel_rfl) (fun _ _ _ h => h) (Or.inl ⟨by rfl, ?_⟩) (by assumption) ?_; rotate_left; focus (intro wS hSw; (try dsimp only at hSw); go_simp <;> with_reducible rfl); (try simp only [Act.put, List.getElem_toArray, List.getElem_cons_succ, List.getElem_cons_zero, List.setIfInBounds_toArray, List.set_cons_zero, List.set_cons_succ])
  refine wpAnyH_take (i := 6) (v := ?_) rfl (by kernel_rfl) (by kernel_rfl) (by kernel_rfl) (fun _ _ _ h => h) (Or.inl ⟨by rfl, ?_⟩) (by assumption) ?_; rotate_left; focus (intro wS hSw; (try dsimp only at hSw); go_simp <;> with_reducible rfl); (try simp only [Act.put, List.getElem_toArray, List.getElem_cons_succ, List.getElem_cons_zero, List.setIfInBounds_toArray, List.set_cons_zero, List.set_cons_succ])
  refine wpAnyH_take (i := 7) (v := .agg cs) rfl (by kernel_rfl) (by kernel_rfl) (by kernel_rfl) (fun _ _ _ h => h) (Or.inl ⟨by rfl, ?_⟩) (by assumption) ?_
  · intro wS hSw; (try dsimp only at hSw); exact exec_load_part 59 _ rfl b 0 rfl cs _ (by rw [HCS.out]; exact hSw.out.part) Try.underlying59 rfl (grid_size hsz)
  (try simp only [Act.put, List.getElem_toArray, List.getElem_cons_succ, List.getElem_cons_zero, List.setIfInBounds_toArray, List.set_cons_zero, List.set_cons_succ])
  refine wpAnyH_take (i := 8) (v := ?_) rfl (by kernel_rfl) (by kernel_rfl) (by kernel_rfl) (fun _ _ _ h => h) (Or.inl ⟨by rfl, ?_⟩) (by assumption) ?_; rotate_left; focus (intro wS hSw; (try dsimp only at hSw); go_simp <;> with_reducible rfl); (try simp only [Act.put, List.getElem_toArray, List.getElem_cons_succ, List.getElem_cons_zero, List.setIfInBounds_toArray, List.set_cons_zero, List.set_cons_succ])
  refine wpAnyH_take (i := 12) (v := ?_) rfl (by kernel_rfl) (by kernel_rfl) (by kernel_rfl) (fun _ _ _ h => h) (Or.inl ⟨by rfl, ?_⟩) (by assumption) ?_; rotate_left; focus (intro wS hSw; (try dsimp only at hSw); go_simp <;> with_reducible rfl); (try simp only [Act.put, List.getElem_toArray, List.getElem_cons_succ, List.getElem_cons_zero, List.setIfInBounds_toArray, List.set_cons_zero, List.set_cons_succ])
  refine wpAnyH_ready (rs := [9]) (by kernel_rfl) (by simp) ?_; refine AllReadyH.cons rfl (fun K hK => ?_) AllReadyH.nil; go_simp; (go_at_call 65; refine (squareOf_any _ p n cs HP.out.1 hn64 (by rw [HCS.out]; rfl)).mono ?_; rintro e w5 ⟨rfl, hg5⟩; have HQ5 := Lib.hid (HQ.out.on hg5); have HR5 := Lib.hid (grownN_trans HR.out hg5); clear hg5)
  refine hK.out _ _ ?_ (fun hHeld => ?_)
  · exact HQ5
  clear hK K
  (try simp only [Act.put, List.getElem_toArray, List.getElem_cons_succ, List.getElem_cons_zero, List.setIfInBounds_toArray, List.set_cons_zero, List.set_cons_succ])
  refine wpAnyH_ready (rs := [10]) (by kernel_rfl) (by simp) ?_; refine AllReadyH.cons rfl (fun K hK => ?_) AllReadyH.nil; go_simp; (go_at_call 64; refine (gnear_any _ p (sq p n) cs (grid p X) HCS.out (grid_len _ _) HSQ.out.1 HSQ.out.2).mono ?_; rintro e w6 ⟨u, rfl, ho6, hg6⟩; obtain ⟨ua, un, uc, hu, HUN⟩ := ho6.sees.shape; subst hu; have HF6 : Hid (SF w w6 b p (grid p X) qv Q M (.slice ua un uc) (nsq (grid p X) (sq p n))) := ⟨HQ5.out.on hg6, ho6.sees, grownN_trans HR5.out hg6⟩; clear hg6 ho6)
  refine hK.out _ _ ?_ (fun hHeld => ?_)
  · exact Lib.hid HF6.out.sb
  clear hK K
  (try simp only [Act.put, List.getElem_toArray, List.getElem_cons_succ, List.getElem_cons_zero, List.setIfInBounds_toArray, List.set_cons_zero, List.set_cons_succ])
  refine wpAnyH_take (i := 11) (v := ?_) rfl (by kernel_rfl) (by kernel_rfl) (by kernel_rfl) (fun _ _ _ h => h) (Or.inl ⟨by rfl, ?_⟩) (by assumption) ?_; rotate_left; focus (intro wS hSw; (try dsimp only at hSw); go_simp <;> with_reducible rfl); (try simp only [Act.put, List.getElem_toArray, List.getElem_cons_succ, List.getElem_cons_zero, List.setIfInBounds_toArray, List.set_cons_zero, List.set_cons_succ])
  refine wpAnyH_done (by kernel_rfl) ?_ _
  (try simp only [Act.put, List.getElem_toArray, List.getElem_cons_succ, List.getElem_cons_zero, List.setIfInBounds_toArray, List.set_cons_zero, List.set_cons_succ])
  have HUN2 : Hid ((nsq (grid p X) (sq p n)).length = un) := by have := HUN.out; show _ = _; simpa [ints] using this
  have hun4 : un ≤ 4 := by have := HUN2.out; have := nsq_len (grid p X) (sq p n); omega
  have HNR : Hid ((nsq (grid p X) (sq p n)).map (fun t => ((cl p t : Nat) : Int)) = near p n X) := nsq_near HP.out.1 HP.out.2.1 HP.out.2.2.1 HP.out.2.2.2.1
  clear HQ HR HQ5 HR5 HUN hHeld
  go_wp2_with fail
  go_loopw [20] (fun s wz => ∃ k : Nat, k ≤ un ∧ s = .int .i64 k ∧ Hid (SF w wz b p (grid p X) qv Q M (.slice ua un uc) (nsq (grid p X) (sq p n))) ∧ Hid (∀ j, j < k → (at' d ((near p n X).getD j 0) == at' d n - 1) = false)) (fun s _ => un - (intOf s).toNat)
  case atStart => exact ⟨0, Nat.zero_le _, rfl, HF6, fun j hj => absurd hj (Nat.not_lt_zero _)⟩
  case round =>
    obtain ⟨k, hk, rfl, HF, HE⟩ := hrel
    clear HF6
    by_cases hkn : k < un
    · have hkN : k < (nsq (grid p X) (sq p n)).length := by rw [HUN2.out]; exact hkn
      obtain ⟨t, ht⟩ : ∃ t, t = (nsq (grid p X) (sq p n))[k] := ⟨_, rfl⟩
      have hin := nsq_mem HP.out.1 HP.out.2.1 HP.out.2.2.1 HP.out.2.2.2.1 (t := t) (by rw [ht]; exact List.getElem_mem hkN)
      have htb := sq_cl HP.out.1 hin
      simp only [inb, decide_eq_true_eq] at hin
      obtain ⟨r, hr⟩ : ∃ r, r = cl p t := ⟨_, rfl⟩
      rw [← hr] at htb hin
      have hrX : r < X.length := hin.2.2.2
      have ht2 := sq_lt HP.out.1 HP.out.2.1 (show r < p * h by rw [← HP.out.2.2.1]; exact hrX)
      rw [htb] at ht2
      have hnk : (near p n X).getD k 0 = (r : Int) := by rw [← HNR.out]; simp [hkN, ← ht, hr]
      obtain ⟨ub, uo, rfl, hcj⟩ := HF.out.row.at_row (j := k) (by simp [ints]; exact hkN)
      have e1 : (ints (nsq (grid p X) (sq p n))).getD k 0 = (t : Int) := by simp [ints, ht, hkN]
      rw [e1] at hcj
      have HT : Hid (sq p r = t ∧ r < X.length ∧ (near p n X).getD k 0 = (r : Int) ∧ 10 ≤ t ∧ 1 ≤ t % 10 ∧ t < 100 ∧ r < 64) := ⟨htb, hrX, hnk, hin.1, hin.2.1, by omega, by have := HP.out.2.2.2.2; omega⟩
      have HR := Lib.hid hr
      obtain ⟨y, hy⟩ : ∃ y, y = at' d (r : Int) := ⟨_, rfl⟩
      obtain ⟨z, hz⟩ : ∃ z, z = at' d (n : Int) := ⟨_, rfl⟩
      have hyb := HD.out r (by omega) (by omega)
      have hzb := HD.out n (by omega) (by have := HP.out.2.2.2.1; omega)
      rw [← hy] at hyb
      rw [← hz] at hzb
      obtain ⟨hy0, hy1⟩ := hyb
      obtain ⟨hz0, hz1⟩ := hzb
      have HY := Lib.hid hy
      have HZ := Lib.hid hz
      clear hkN ht hin htb hrX ht2 hnk e1 hr hy hz
      go_wp2_with (refine wpList_load_part rfl 59 _ rfl b 0 rfl cs _ (by rw [HCS.out]; exact HF.out.sb.part) Try.underlying59 rfl (grid_size hsz) ?_)
      refine (cellOf_any wr p t cs HP.out.1 HT.out.2.2.2.2.2.1 HT.out.2.2.2.1 HT.out.2.2.2.2.1 (by rw [HCS.out]; rfl)).mono ?_
      rintro e w7 ⟨rfl, hg7⟩
      rw [← HR.out]
      have HF7 := Lib.hid (HF.out.on hg7)
      clear hg7 hcj
      go_wp2_with fail
      refine (daysTo_any w7 b p r (grid p X) Q M qv y HF7.out.sb HP.out.1 HT.out.2.2.2.2.2.2 (by rw [HT.out.1]; exact HT.out.2.2.2.2.2.1) (by rw [HM.out.at_ r HT.out.2.1, HY.out]) ⟨hy0, by omega⟩).mono ?_
      rintro e w8 ⟨rfl, hg8⟩
      have HF8 := Lib.hid (HF7.out.on hg8)
      clear hg8
      go_wp2_with fail
      refine (daysTo_any w8 b p n (grid p X) Q M qv z HF8.out.sb HP.out.1 hn64 (by have := HSQ.out; omega) (by rw [HM.out.at_ n HP.out.2.2.2.1, HZ.out]) ⟨hz0, by omega⟩).mono ?_
      rintro e w9 ⟨rfl, hg9⟩
      have HF9 := Lib.hid (HF8.out.on hg9)
      clear hg9
      by_cases hyz : y = z - 1
      · have hb : (y == z - 1) = true := by simpa using hyz
        have HV : Hid (nearerOf p X d n = (r : Int)) := by
          show _ = _
          unfold nearerOf
          rw [find_first (k := k) (by rw [← HNR.out, List.length_map, HUN2.out]; exact hkn) HE.out (by rw [HT.out.2.2.1, ← HY.out, ← HZ.out]; exact hb), HT.out.2.2.1]
          rfl
        go_wp2
        go_ret
        exact ⟨ret_i64 HV.out.symm, HF9.out.grown⟩
      · have hb : (y == z - 1) = false := by simpa using hyz
        go_wp2
        go_roundw
        case rel =>
          refine ⟨k + 1, by omega, by go_num, HF9, fun j hj => ?_⟩
          by_cases e : j = k
          · subst e; rw [HT.out.2.2.1, ← HY.out, ← HZ.out]; exact hb
          · exact HE.out j (by omega)
        case measure => simp [intOf]; omega
    · have HV : Hid (nearerOf p X d n = (n : Int)) := by
        show _ = _
        unfold nearerOf
        rw [find_none (fun j hj => HE.out j (by rw [← HNR.out, List.length_map, HUN2.out] at hj; omega))]
        rfl
      go_wp2
      go_ret
      exact ⟨ret_i64 HV.out.symm, HF.out.grown⟩
end Go.Proofs.Ytfccikhmcenanaa.Sr

namespace Go.Proofs.Ytfccikhmcenanaa.WayI
open Go.RowKit Kit Rw Ld Gr GrI Bfs Wf Sr LandI

/-- Where a function of chapter 5 stands: the land in its box, nothing old written. -/
structure WB (w wr : World) (W H : Int) (v : Value) (X : List Int) : Prop where
  box : Box wr w.heap.size #[.int .i64 W, .int .i64 H, v] 26
  row : Sees .i64 wr v X
  grown : w.grownBy wr none
  lt : v.ownBlock = none ∨ ∃ b, v.ownBlock = some b ∧ b < w.heap.size ∨ X = []
/-- What begin leaves, up to more days than there can be. -/
theorem cut64 {p h f : Nat} {X : List Int} (hL : isLand p h X = true) (hf : f < X.length) (h64 : X.length ≤ 64) : cut 64 (distL p X f) = distL p X f :=
  cut_all (fun n n0 n1 => by
    have hd := dist_is hL (a := (f : Int)) (by omega) (by omega)
    rw [hd.len] at n1
    have := dist_lt hL (a := (f : Int)) (by omega) (by omega) n0 n1
    omega)
theorem dist_bnd {p h f : Nat} {X : List Int} (hL : isLand p h X = true) (hf : f < X.length) (h64 : X.length ≤ 64) : ∀ m : Int, 0 ≤ m → m < X.length → -1 ≤ at' (distL p X f) m ∧ at' (distL p X f) m ≤ 64 := fun m m0 m1 => by
  have hd := dist_is hL (a := (f : Int)) (by omega) (by omega)
  have := dist_lt hL (a := (f : Int)) (by omega) (by omega) m0 m1
  have := hd.low m m0 m1
  omega
theorem sq_100 {p h n : Nat} {X : List Int} (hL : isLand p h X = true) (hn : n < X.length) : (1 ≤ p ∧ p ≤ 8) ∧ sq p n < 100 := by
  obtain ⟨hW, hH, hLen, _⟩ := isLand_of hL
  have hxl : X.length = p * h := by exact_mod_cast hLen
  have := sq_lt (p := p) (h := h) (n := n) (by omega) (by omega) (by omega)
  exact ⟨by omega, by omega⟩

theorem search_on {w wx wy : World} {bb : Nat} (hg : w.grownBy wx none) (hle : w.heap.size ≤ bb) (hb : Below bb wx wy) : w.grownBy wy none :=
  below_grown ((grown_below hg _ (Nat.le_refl _)).trans (Below.mono hb hle))

set_option maxRecDepth 100000 in
set_option maxHeartbeats 1000000 in
theorem days_any (w : World) (W H a b : Int) (v : Value) (X : List Int) (hv : Sees .i64 w v X) :
    Calls Try.prog 30 #[.agg #[.int .i64 W, .int .i64 H, v], .int .i64 a, .int .i64 b] w fun e w' => e = .returned (.int .i64 (daysOf W H X a b)) ∧ w.grownBy w' none := by
  obtain ⟨hb0, hv0, hg0⟩ := wb_new (W := W) (H := H) hv
  obtain ⟨c0, c1, c2⟩ := hb0.three
  have HB0 := Lib.hid hb0
  have HV0 := Lib.hid hv0
  have HG0 := Lib.hid hg0
  obtain ⟨va, vn, vc, hvv, HVN⟩ := hv.shape
  subst hvv
  have hs := isOpen_any _ W H a _ X hv0
  clear hv hb0 hv0 hg0
  by_cases hA : isOpen W H X a = true
  · rw [hA] at hs
    have HS := Lib.hid hs
    have HA := Lib.hid hA
    clear hs hA
    go_enter Try.func30, Try.ntmps30
    go_wp2_with fail
    refine HS.out.mono ?_
    rintro e w2 ⟨rfl, hg⟩
    have HB2 := Lib.hid (HB0.out.grown hg)
    have HV2 := Lib.hid (HV0.out.grown hg)
    have HG2 := Lib.hid (grownN_trans HG0.out hg)
    clear hg c0 c1 c2
    obtain ⟨c0, c1, c2⟩ := HB2.out.three
    have hs := isOpen_any w2 W H b _ X HV2.out
    by_cases hB : isOpen W H X b = true
    · rw [hB] at hs
      have HS := Lib.hid hs
      have HBO := Lib.hid hB
      clear hs hB
      go_wp2_with fail
      refine HS.out.mono ?_
      rintro e w3 ⟨rfl, hg⟩
      have HB3 := Lib.hid (HB2.out.grown hg)
      have HV3 := Lib.hid (HV2.out.grown hg)
      have HG3 := Lib.hid (grownN_trans HG2.out hg)
      have HE : Hid (daysOf W H X a b = at' (distL W X a) b) := by show _ = _; unfold daysOf; rw [if_pos ⟨HA.out, HBO.out⟩]
      obtain ⟨p, h, n, rfl, rfl, rfl, hn, hL, h64, _⟩ := open_nat HA.out
      obtain ⟨p', h', m, hp', hh', rfl, hm, _, _, _⟩ := open_nat HBO.out
      have HL : Hid (isLand p h X = true ∧ n < X.length ∧ m < X.length ∧ X.length ≤ 64) := ⟨hL, hn, hm, h64⟩
      clear hg c0 c1 c2 hL hn hm h64 hp' hh'
      obtain ⟨c0, c1, c2⟩ := HB3.out.three
      go_wp2_with fail
      refine (searchIn_any w3 p h _ X HV3.out HL.out.1).mono ?_
      rintro e w4 ⟨bb, rfl, hle, hS, hg⟩
      have HG4 := Lib.hid (grownN_trans HG3.out hg)
      have HS4 := Lib.hid hS
      have HLE : Hid (w.heap.size ≤ bb) := Nat.le_trans HG3.out.size hle
      clear hle hS hg c0 c1 c2
      go_wp2_with fail
      refine (begin_any w4 bb p h n X 64 [] _ _ HS4.out HL.out.1 HL.out.2.1 (by omega)).mono ?_
      rintro e w5 ⟨rfl, qv, Q, M, hS, hM, hb⟩
      rw [cut64 HL.out.1 HL.out.2.1 HL.out.2.2.2] at hM
      have HS5 := Lib.hid hS
      have HM5 := Lib.hid hM
      have HG5 := Lib.hid (search_on HG4.out HLE.out hb)
      clear hS hM hb
      have hk := dist_bnd HL.out.1 HL.out.2.1 HL.out.2.2.2 m (by omega) (by have := HL.out.2.2.1; omega)
      have HK := Lib.hid hk
      clear hk
      go_wp2_with fail
      refine (daysTo_any w5 bb p m _ Q M qv _ HS5.out (sq_100 HL.out.1 HL.out.2.2.1).1 (by have := HL.out; omega) (sq_100 HL.out.1 HL.out.2.2.1).2 (HM5.out.at_ m HL.out.2.2.1) (by have := HK.out; omega)).mono ?_
      rintro e w6 ⟨rfl, hg⟩
      go_wp2
      go_ret
      exact ⟨ret_i64 HE.out.symm, grownN_trans HG5.out hg⟩
    · have hB2 : isOpen W H X b = false := by simpa using hB
      rw [hB2] at hs
      have HS := Lib.hid hs
      have HE : Hid (daysOf W H X a b = -1) := by show _ = _; unfold daysOf; rw [if_neg (fun h => hB h.2)]
      clear hs hB hB2
      go_wp2_with fail
      refine HS.out.mono ?_
      rintro e w3 ⟨rfl, hg⟩
      have HG3 := Lib.hid (grownN_trans HG2.out hg)
      clear hg
      go_wp2
      go_ret
      exact ⟨ret_i64 HE.out.symm, HG3.out⟩
  · have hA2 : isOpen W H X a = false := by simpa using hA
    rw [hA2] at hs
    have HS := Lib.hid hs
    have HE : Hid (daysOf W H X a b = -1) := by show _ = _; unfold daysOf; rw [if_neg (fun h => hA h.1)]
    clear hs hA hA2
    go_enter Try.func30, Try.ntmps30
    go_wp2_with fail
    refine HS.out.mono ?_
    rintro e w2 ⟨rfl, hg⟩
    have HG2 := Lib.hid (grownN_trans HG0.out hg)
    clear hg
    go_wp2
    go_ret
    exact ⟨ret_i64 HE.out.symm, HG2.out⟩

set_option maxRecDepth 100000 in
set_option maxHeartbeats 1000000 in
theorem farthest_any (w : World) (W H a : Int) (v : Value) (X : List Int) (hv : Sees .i64 w v X) :
    Calls Try.prog 38 #[.agg #[.int .i64 W, .int .i64 H, v], .int .i64 a] w fun e w' => e = .returned (.int .i64 (farOf W H X a)) ∧ w.grownBy w' none := by
  obtain ⟨hb0, hv0, hg0⟩ := wb_new (W := W) (H := H) hv
  obtain ⟨c0, c1, c2⟩ := hb0.three
  have HB0 := Lib.hid hb0
  have HV0 := Lib.hid hv0
  have HG0 := Lib.hid hg0
  have hs := isOpen_any _ W H a _ X hv0
  obtain ⟨va, vn, vc, hvv, HVN⟩ := hv.shape
  subst hvv
  have hvl : va = none ∨ X = [] ∨ ∃ vb vo, va = some ⟨vb, vo, none⟩ ∧ vb < w.heap.size := by
    by_cases hx : X = []
    · exact .inr (.inl hx)
    · obtain ⟨vb, vo, e, hc⟩ := hv.at_row (j := 0) (List.length_pos_iff.2 hx)
      exact .inr (.inr ⟨vb, vo, e, World.block_lt_of_cell? w _ hc⟩)
  have HVL := Lib.hid hvl
  have HV := Lib.hid hv
  clear hv hb0 hv0 hg0 hvl
  by_cases hA : isOpen W H X a = true
  · rw [hA] at hs
    have HS := Lib.hid hs
    have HA := Lib.hid hA
    clear hs hA
    go_enter Try.func38, Try.ntmps38
    go_wp2_with fail
    refine HS.out.mono ?_
    rintro e w2 ⟨rfl, hg⟩
    have HB2 := Lib.hid (HB0.out.grown hg)
    have HV2 := Lib.hid (HV0.out.grown hg)
    have HG2 := Lib.hid (grownN_trans HG0.out hg)
    obtain ⟨p, h, n, rfl, rfl, rfl, hn, hL, h64, _⟩ := open_nat HA.out
    have HL : Hid (isLand p h X = true ∧ n < X.length ∧ X.length ≤ 64) := ⟨hL, hn, h64⟩
    clear hg c0 c1 c2 hL hn h64
    obtain ⟨c0, c1, c2⟩ := HB2.out.three
    go_wp2_with fail
    refine (searchIn_any w2 p h _ X HV2.out HL.out.1).mono ?_
    rintro e w4 ⟨bb, rfl, hle, hS, hg⟩
    have HG4 := Lib.hid (grownN_trans HG2.out hg)
    have HS4 := Lib.hid hS
    have HB4 := Lib.hid (HB2.out.grown hg)
    have HLE : Hid (w.heap.size + 1 ≤ bb) := Nat.le_trans (by have := HB2.out.lt; omega) hle
    clear hle hS hg c0 c1 c2
    go_wp2_with fail
    refine (begin_any w4 bb p h n X 64 [] _ _ HS4.out HL.out.1 HL.out.2.1 (by omega)).mono ?_
    rintro e w5 ⟨rfl, qv, Q, M, hS, hM, hb⟩
    rw [cut64 HL.out.1 HL.out.2.1 HL.out.2.2] at hM
    have HS5 := Lib.hid hS
    have HM5 := Lib.hid hM
    have HG5 := Lib.hid (search_on HG4.out (Nat.le_of_succ_le HLE.out) hb)
    have HB5 : Hid (Box w5 w.heap.size #[.int .i64 (p : Int), .int .i64 (h : Int), .slice va vn vc] 26) := (hb.block _ (by have := HLE.out; omega)).trans HB4.out
    clear hS hM hb
    obtain ⟨c0, c1, c2⟩ := HB5.out.three
    have hvn64 : vn ≤ 64 := by rw [← HVN.out]; exact HL.out.2.2
    go_wp2_with fail
    go_loopw [6, 21] (fun s6 s21 wz => ∃ (k r : Nat), k ≤ vn ∧ s21 = .int .i64 k ∧ s6 = .int .i64 r ∧ r < vn ∧ Hid (SB wz bb p (grid p X) qv Q M ∧ w5.grownBy wz none) ∧ Hid ((r = n ∨ r < k) ∧ at' (distL p X n) (n : Int) ≤ at' (distL p X n) (r : Int) ∧ (∀ i : Nat, i < k → at' (distL p X n) (i : Int) ≤ at' (distL p X n) (r : Int)) ∧ (∀ i : Nat, i < k → i < r → at' (distL p X n) (i : Int) < at' (distL p X n) (r : Int)))) (fun _ s21 _ => vn - (intOf s21).toNat)
    case atStart => exact ⟨0, n, Nat.zero_le _, rfl, rfl, by rw [← HVN.out]; exact HL.out.2.1, ⟨HS5.out, World.grownBy.refl _ _⟩, ⟨.inl rfl, Int.le_refl _, fun i hi => absurd hi (Nat.not_lt_zero _), fun i hi => absurd hi (Nat.not_lt_zero _)⟩⟩
    case round =>
      obtain ⟨k, r, hk, rfl, rfl, hr, HZ, HF⟩ := hrel
      by_cases hlt : k < vn
      · have HKX : Hid (k < X.length ∧ r < X.length) := by rw [HVN.out]; exact ⟨hlt, hr⟩
        have hk1 := dist_bnd HL.out.1 HL.out.2.1 HL.out.2.2 (k : Int) (by omega) (by have := HKX.out; omega)
        have hr1 := dist_bnd HL.out.1 HL.out.2.1 HL.out.2.2 (r : Int) (by omega) (by have := HKX.out; omega)
        obtain ⟨y, hy⟩ : ∃ y, y = at' (distL p X n) (k : Int) := ⟨_, rfl⟩
        obtain ⟨z, hz⟩ : ∃ z, z = at' (distL p X n) (r : Int) := ⟨_, rfl⟩
        rw [← hy] at hk1
        rw [← hz] at hr1
        have HY := Lib.hid hy
        have HZZ := Lib.hid hz
        have HK1 := Lib.hid hk1
        have HR1 := Lib.hid hr1
        clear hy hz hk1 hr1
        go_wp2_with fail
        refine (daysTo_any wr bb p k _ Q M qv y HZ.out.1 (sq_100 HL.out.1 HKX.out.1).1 (by omega) (sq_100 HL.out.1 HKX.out.1).2 (by rw [HM5.out.at_ k HKX.out.1, HY.out]) (by have := HK1.out; omega)).mono ?_
        rintro e w6 ⟨rfl, hg6⟩
        have HZ6 : Hid (SB w6 bb p (grid p X) qv Q M ∧ w5.grownBy w6 none) := ⟨HZ.out.1.on hg6, grownN_trans HZ.out.2 hg6⟩
        clear hg6
        go_wp2_with fail
        refine (daysTo_any w6 bb p r _ Q M qv z HZ6.out.1 (sq_100 HL.out.1 HKX.out.2).1 (by omega) (sq_100 HL.out.1 HKX.out.2).2 (by rw [HM5.out.at_ r HKX.out.2, HZZ.out]) (by have := HR1.out; omega)).mono ?_
        rintro e w7 ⟨rfl, hg7⟩
        have HZ7 : Hid (SB w7 bb p (grid p X) qv Q M ∧ w5.grownBy w7 none) := ⟨HZ6.out.1.on hg7, grownN_trans HZ6.out.2 hg7⟩
        clear hg7
        by_cases hyz : z < y
        · go_wp2
          go_roundw
          case rel =>
            refine ⟨k + 1, k, by omega, by go_num, rfl, hlt, HZ7, .inr (by omega), ?_, fun i hi => ?_, fun i hi hik => ?_⟩
            · have := HF.out.2.1; rw [← HY.out]; rw [← HZZ.out] at this; omega
            · by_cases e : i = k
              · subst e; exact Int.le_refl _
              · have := HF.out.2.2.1 i (by omega); rw [← HY.out]; rw [← HZZ.out] at this; omega
            · have := HF.out.2.2.1 i (by omega); rw [← HY.out]; rw [← HZZ.out] at this; omega
          case measure => simp [intOf]; omega
        · go_wp2
          go_roundw
          case rel =>
            refine ⟨k + 1, r, by omega, by go_num, rfl, hr, HZ7, ?_, HF.out.2.1, fun i hi => ?_, fun i hi hir => ?_⟩
            · rcases HF.out.1 with h | h
              · exact .inl h
              · exact .inr (by omega)
            · by_cases e : i = k
              · subst e; rw [← HY.out, ← HZZ.out]; omega
              · exact HF.out.2.2.1 i (by omega)
            · by_cases e : i = k
              · subst e
                rcases HF.out.1 with h | h
                · subst h
                  have hd := dist_is HL.out.1 (a := (r : Int)) (by omega) (by have := HL.out.2.1; omega)
                  by_cases c : 0 ≤ at' (distL p X r) (i : Int)
                  · obtain ⟨m, _, _, m2, _, m4⟩ := hd.pre (i : Int) (by omega) (by have := HKX.out.1; omega) (by omega) c
                    have := hd.src
                    have h1 := HY.out
                    have h2 := HZZ.out
                    omega
                  · have := hd.src; omega
                · omega
              · exact HF.out.2.2.2 i (by omega) hir
          case measure => simp [intOf]; omega
      · have hkk : k = vn := by omega
        have HE : Hid (farOf p h X n = (r : Int)) := farOf_eq HA.out (by
          have hd := dist_is HL.out.1 (a := (n : Int)) (by omega) (by have := HL.out.2.1; omega)
          have hl := hd.len
          rw [← HVN.out] at hr hkk
          refine ⟨by omega, by omega, fun i i0 i1 => ?_, fun i i0 i1 => ?_⟩
          · have := HF.out.2.2.1 i.toNat (by omega); rwa [show ((i.toNat : Nat) : Int) = i by omega] at this
          · have := HF.out.2.2.2 i.toNat (by omega) (by omega); rwa [show ((i.toNat : Nat) : Int) = i by omega] at this)
        go_wp2
        go_ret
        exact ⟨ret_i64 HE.out.symm, grownN_trans HG5.out HZ.out.2⟩
  · have hA2 : isOpen W H X a = false := by simpa using hA
    rw [hA2] at hs
    have HS := Lib.hid hs
    have HE : Hid (farOf W H X a = -1) := by show _ = _; unfold farOf; rw [if_neg hA]
    clear hs hA hA2
    go_enter Try.func38, Try.ntmps38
    go_wp2_with fail
    refine HS.out.mono ?_
    rintro e w2 ⟨rfl, hg⟩
    have HG2 := Lib.hid (grownN_trans HG0.out hg)
    clear hg
    go_wp2
    go_ret
    exact ⟨ret_i64 HE.out.symm, HG2.out⟩
end Go.Proofs.Ytfccikhmcenanaa.WayI

namespace Go.Proofs.Ytfccikhmcenanaa.WayI
open Go.RowKit Kit Rw Ld Gr GrI Bfs Wf Sr LandI

theorem own_under {k : IntKind} {E : TypeId} {w w' : World} {base B : Nat} {v : Value} {L : List Int} (h : Own k E w base v L) (hb : Below B w w') (hlt : ∀ c, v.ownBlock = some c → c < B) : Own k E w' base v L := by
  obtain ⟨⟨h1, h2⟩, h3⟩ := h
  refine ⟨⟨h1, ?_⟩, h3⟩
  rcases h2 with h2 | ⟨g, cap, cur, e, hg, hh, r⟩
  · exact .inl h2
  · subst e
    exact .inr ⟨g, cap, cur, rfl, hg, (hb.block g (hlt g rfl)).trans hh, r⟩
/-- A search, and a list that grows beside it. -/
structure SL (w wr : World) (bb p : Nat) (g : List Int) (qv : Value) (Q M : List Int) (v : Value) (L : List Int) : Prop where
  sb : SB wr bb p g qv Q M
  own : Own .i64 3 wr (w.heap.size + 1) v L
  off : v.ownBlock ≠ some bb
  apart : qv.ownBlock = none ∨ qv.ownBlock ≠ v.ownBlock
  grown : w.grownBy wr none
  box : ∀ cs, Box wr w.heap.size cs 26 → True
section
variable {w wr wy : World} {bb p : Nat} {g Q M L L' : List Int} {qv v v' : Value}
theorem SL.on (h : SL w wr bb p g qv Q M v L) (hg : wr.grownBy wy none) : SL w wy bb p g qv Q M v L := ⟨h.sb.on hg, h.own.grown hg, h.off, h.apart, grownN_trans h.grown hg, fun _ _ => trivial⟩
theorem SL.more (h : SL w wr bb p g qv Q M v L) (ho : Own .i64 3 wy (w.heap.size + 1) v' L') (hg : wr.grownBy wy v.ownBlock) (hl : v'.ownBlock = v.ownBlock ∨ ∃ c, v'.ownBlock = some c ∧ wr.heap.size ≤ c) : SL w wy bb p g qv Q M v' L' := by
  refine ⟨⟨h.sb.box.kept hg h.off, h.sb.own.kept hg h.apart, h.sb.gl, h.sb.ml⟩, ho, ?_, ?_, grown_new h.grown hg (fun c hc => by have := h.own.lt c hc; omega), fun _ _ => trivial⟩
  · rcases hl with hl | ⟨c, hl, hle⟩
    · rw [hl]; exact h.off
    · rw [hl]; have := h.sb.box.lt; intro e; injection e with e; omega
  · rcases hl with hl | ⟨c, hl, hle⟩
    · rw [hl]; exact h.apart
    · rw [hl]
      cases hq : qv.ownBlock with
      | none => exact .inl rfl
      | some e => have := h.sb.own.lt e hq; exact .inr (fun e' => by injection e' with e'; omega)
end
theorem nearerOf_in {p h n : Nat} {X d : List Int} (hL : isLand p h X = true) (hn : n < X.length) : ∃ m : Nat, nearerOf p X d n = m ∧ m < X.length := by
  unfold nearerOf
  cases hf : (near p n X).find? (fun m => at' d m == at' d n - 1) with
  | none => exact ⟨n, rfl, hn⟩
  | some m =>
    have := near_in hL (by omega) (by omega) (List.mem_of_find?_eq_some hf)
    exact ⟨m.toNat, by simp; omega, by omega⟩
theorem wayAt_in {p h : Nat} {X d : List Int} (hL : isLand p h X = true) : ∀ (k : Nat) (n : Nat), n < X.length → ∃ m : Nat, wayAt p X d k n = m ∧ m < X.length
  | 0, n, hn => ⟨n, rfl, hn⟩
  | k + 1, n, hn => by
    obtain ⟨m, e, hm⟩ := wayAt_in hL k n hn
    obtain ⟨m', e', hm'⟩ := nearerOf_in (d := d) hL hm
    exact ⟨m', by simp only [wayAt]; rw [e, e'], hm'⟩
theorem cut_in {D : Int} {d : List Int} {i : Nat} (hi : i < d.length) (hl : -1 ≤ at' d (i : Int)) : (0 ≤ at' (cut D d) (i : Int)) ↔ inReach d D i = true := by
  rw [cut_at (by omega) (by omega)]
  unfold inReach
  rw [decide_eq_true_eq]
  split <;> omega

set_option maxRecDepth 100000 in
set_option maxHeartbeats 1000000 in
theorem reach_any (w : World) (W H a D : Int) (v : Value) (X : List Int) (hv : Sees .i64 w v X) :
    Calls Try.prog 35 #[.agg #[.int .i64 W, .int .i64 H, v], .int .i64 a, .int .i64 D] w fun e w' => ∃ u, e = .returned u ∧ Own .i64 3 w' w.heap.size u (reachOf W H X a D) ∧ w.grownBy w' none := by
  have hgr := grownN_trans (World.grownBy_alloc w (.cells #[.int .i64 W, .int .i64 H, v] 26 (0, 0)) none) (World.grownBy_alloc (w.alloc (.cells #[.int .i64 W, .int .i64 H, v] 26 (0, 0))) (.cells #[] 3 (0, 0)) none)
  have HG0 := Lib.hid hgr
  have HV0 := Lib.hid (hv.grown hgr)
  have HB0 := Lib.hid ((box_new w #[.int .i64 W, .int .i64 H, v] 26).grown (World.grownBy_alloc _ (.cells #[] 3 (0, 0)) none))
  have ho := own_empty (k := .i64) (E := 3) (w.alloc (.cells #[.int .i64 W, .int .i64 H, v] 26 (0, 0)))
  simp only [World.size_alloc] at ho
  have HO0 := Lib.hid ho
  have HS0 : Hid (((w.alloc (.cells #[.int .i64 W, .int .i64 H, v] 26 (0, 0))).alloc (.cells #[] 3 (0, 0))).heap.size = w.heap.size + 2) := by show _ = _; simp
  obtain ⟨va, vn, vc, hvv, HVN⟩ := hv.shape
  subst hvv
  obtain ⟨c0, c1, c2⟩ := HB0.out.three
  clear hv hgr ho
  obtain ⟨i0, hi, hz0, hz1, hz2⟩ := info_parts Inf.info_i64
  go_enter Try.func35, Try.ntmps35
  go_upto_region 2 with (fail)
  generalize (w.alloc (.cells #[.int .i64 W, .int .i64 H, .slice va vn vc] 26 (0, 0))).alloc (.cells #[] 3 (0, 0)) = w1 at *
  have hs := isOpen_any w1 W H a _ X HV0.out
  by_cases hA : isOpen W H X a = true
  · rw [hA] at hs
    have HS := Lib.hid hs
    have HA := Lib.hid hA
    clear hs hA
    by_cases hD : D < 0
    · have HE : Hid (reachOf W H X a D = []) := by
        show _ = _
        unfold reachOf reachTo
        rw [if_pos HA.out, List.filter_eq_nil_iff.2 (fun i _ => by unfold inReach; rw [decide_eq_true_eq]; omega)]
        rfl
      go_wp2_with fail
      refine HS.out.mono ?_
      rintro e w2 ⟨rfl, hg⟩
      have HG2 := Lib.hid (grownN_trans HG0.out hg)
      have HO2 := Lib.hid (HO0.out.grown hg)
      clear hg
      go_wp2
      go_ret
      exact ⟨_, rfl, by rw [HE.out]; exact HO2.out.lower (Nat.le_succ _), HG2.out⟩
    go_wp2_with fail
    refine HS.out.mono ?_
    rintro e w2 ⟨rfl, hg⟩
    have HB2 := Lib.hid (HB0.out.grown hg)
    have HV2 := Lib.hid (HV0.out.grown hg)
    have HG2 := Lib.hid (grownN_trans HG0.out hg)
    have HO2 := Lib.hid (HO0.out.grown hg)
    have HZ2 : Hid (w.heap.size + 2 ≤ w2.heap.size) := by have := hg.size; rw [HS0.out] at this; exact this
    obtain ⟨p, h, n, rfl, rfl, rfl, hn, hL, h64, _⟩ := open_nat HA.out
    have HL : Hid (isLand p h X = true ∧ n < X.length ∧ X.length ≤ 64 ∧ 0 ≤ D) := ⟨hL, hn, h64, by omega⟩
    clear hg c0 c1 c2 hL hn h64
    obtain ⟨c0, c1, c2⟩ := HB2.out.three
    go_wp2_with fail
    refine (searchIn_any w2 p h _ X HV2.out HL.out.1).mono ?_
    rintro e w4 ⟨bb, rfl, hle, hS, hg⟩
    have HG4 := Lib.hid (grownN_trans HG2.out hg)
    have HS4 := Lib.hid hS
    have HB4 := Lib.hid (HB2.out.grown hg)
    have HO4 := Lib.hid (HO2.out.grown hg)
    have HLE : Hid (w.heap.size + 2 ≤ bb) := Nat.le_trans HZ2.out hle
    clear hle hS hg c0 c1 c2
    go_wp2_with fail
    refine (begin_any w4 bb p h n X D [] _ _ HS4.out HL.out.1 HL.out.2.1 HL.out.2.2.2).mono ?_
    rintro e w5 ⟨rfl, qv, Q, M, hS, hM, hb⟩
    have HM5 := Lib.hid hM
    have HB5 : Hid (Box w5 w.heap.size #[.int .i64 (p : Int), .int .i64 (h : Int), .slice va vn vc] 26) := (hb.block _ (by have := HLE.out; omega)).trans HB4.out
    have hle := HLE.out
    have HSL : Hid (SL w w5 bb p (grid p X) qv Q M (.slice (some ⟨w.heap.size + 1, 0, none⟩) 0 0) (reachTo (distL p X n) D 0)) := by
      refine ⟨hS, ?_, by simp [Value.ownBlock]; omega, ?_, search_on HG4.out (by omega) hb, fun _ _ => trivial⟩
      · exact own_under HO4.out hb (fun c hc => by simp only [Value.ownBlock, Option.some.injEq] at hc; omega)
      · cases hq : qv.ownBlock with
        | none => exact .inl rfl
        | some e => have := hS.own.lt e hq; exact .inr (by simp [Value.ownBlock]; omega)
    clear hS hM hb hle
    obtain ⟨c0, c1, c2⟩ := HB5.out.three
    have hvn64 : vn ≤ 64 := by rw [← HVN.out]; exact HL.out.2.2.1
    go_wp2_with fail
    go_loopw [7, 29] (fun s7 s29 wz => ∃ k : Nat, k ≤ vn ∧ s29 = .int .i64 k ∧ Hid (SL w wz bb p (grid p X) qv Q M s7 (reachTo (distL p X n) D k))) (fun _ s29 _ => vn - (intOf s29).toNat)
    case atStart => exact ⟨0, Nat.zero_le _, rfl, HSL⟩
    case round =>
      obtain ⟨k, hk, rfl, HT⟩ := hrel
      by_cases hlt : k < vn
      · have HKX : Hid (k < X.length) := by rw [HVN.out]; exact hlt
        have hk1 := dist_bnd HL.out.1 HL.out.2.1 HL.out.2.2.1 (k : Int) (by omega) (by have := HKX.out; omega)
        have hdl := (dist_is HL.out.1 (a := (n : Int)) (by omega) (by have := HL.out.2.1; omega)).len
        have hci := cut_in (D := D) (d := distL p X n) (i := k) (by rw [hdl]; exact HKX.out) hk1.1
        have hcb : -1 ≤ at' (cut D (distL p X n)) (k : Int) ∧ at' (cut D (distL p X n)) (k : Int) ≤ 64 := by rw [cut_at (by omega) (by rw [hdl]; have := HKX.out; omega)]; split <;> omega
        obtain ⟨y, hy⟩ : ∃ y, y = at' (cut D (distL p X n)) (k : Int) := ⟨_, rfl⟩
        rw [← hy] at hci hcb
        have HY := Lib.hid hy
        have HCB := Lib.hid hcb
        have HCI := Lib.hid hci
        have HAD := Lib.hid (reachTo_add (distL p X n) D k)
        have hrl := reachTo_len (distL p X n) D k
        have HRL := Lib.hid hrl
        clear hy hk1 hdl hci hcb hrl
        go_wp2_with fail
        refine (daysTo_any wr bb p k _ Q M qv y HT.out.sb (sq_100 HL.out.1 HKX.out).1 (by omega) (sq_100 HL.out.1 HKX.out).2 (by rw [HM5.out.at_ k HKX.out, HY.out]) (by have := HCB.out; omega)).mono ?_
        rintro e w6 ⟨rfl, hg6⟩
        have HT6 := Lib.hid (HT.out.on hg6)
        clear hg6
        by_cases hyz : 0 ≤ y
        · have HAD2 : Hid (reachTo (distL p X n) D (k + 1) = reachTo (distL p X n) D k ++ [(k : Int)]) := by show _ = _; rw [HAD.out, if_pos (HCI.out.1 hyz)]
          have hbase : w.heap.size + 1 ≤ w6.heap.size := by have := HT6.out.sb.box.lt; have := HLE.out; omega
          go_wp2_with (at_builtin; go_loud (refine wpList_append_one_at _ rfl _ _ 24 rfl (w.heap.size + 1) 3 i0 (.int .i64 0) 8 Try.underlying24 hi hz0 hz1 hz2 rfl .i64 _ (reachTo (distL p X n) D k) rfl HT6.out.own (k : Int) rfl (i64_mk (by omega)) (by have := HRL.out; omega) (by decide) hbase ?_); intro v3 w8 hown3 hgrow3 hpl3; have HT8 := Lib.hid (HT6.out.more (L' := reachTo (distL p X n) D (k + 1)) (by rw [HAD2.out]; exact hown3) hgrow3 hpl3); clear hown3 hgrow3 hpl3)
          go_roundw
          case rel => exact ⟨k + 1, by omega, by go_num, HT8⟩
          case measure => simp [intOf]; omega
        · have HAD2 : Hid (reachTo (distL p X n) D (k + 1) = reachTo (distL p X n) D k) := by show _ = _; rw [HAD.out, if_neg (fun h => hyz (HCI.out.2 h))]; simp
          go_wp2
          go_roundw
          case rel => exact ⟨k + 1, by omega, by go_num, by rw [HAD2.out]; exact HT6⟩
          case measure => simp [intOf]; omega
      · have hkk : k = X.length := by rw [HVN.out]; omega
        have HE : Hid (reachOf p h X n D = reachTo (distL p X n) D k) := by show _ = _; unfold reachOf; rw [if_pos HA.out, hkk]
        go_wp2
        go_ret
        exact ⟨_, rfl, by rw [HE.out]; exact HT.out.own.lower (Nat.le_succ _), HT.out.grown⟩
  · have hA2 : isOpen W H X a = false := by simpa using hA
    rw [hA2] at hs
    have HS := Lib.hid hs
    have HE : Hid (reachOf W H X a D = []) := by show _ = _; unfold reachOf; rw [if_neg hA]
    clear hs hA hA2
    go_wp2_with fail
    refine HS.out.mono ?_
    rintro e w2 ⟨rfl, hg⟩
    have HG2 := Lib.hid (grownN_trans HG0.out hg)
    have HO2 := Lib.hid (HO0.out.grown hg)
    clear hg
    go_wp2
    go_ret
    exact ⟨_, rfl, by rw [HE.out]; exact HO2.out.lower (Nat.le_succ _), HG2.out⟩
end Go.Proofs.Ytfccikhmcenanaa.WayI

namespace Go.Proofs.Ytfccikhmcenanaa.WayI
open Go.RowKit Kit Rw Ld Gr GrI Bfs Wf Sr LandI

set_option maxRecDepth 100000 in
set_option maxHeartbeats 1000000 in
theorem wayTo_any (w : World) (W H a b : Int) (v : Value) (X : List Int) (hv : Sees .i64 w v X) :
    Calls Try.prog 31 #[.agg #[.int .i64 W, .int .i64 H, v], .int .i64 a, .int .i64 b] w fun e w' => ∃ u, e = .returned u ∧ Own .i64 3 w' w.heap.size u (wayOf W H X a b) ∧ w.grownBy w' none := by
  have hgr := grownN_trans (World.grownBy_alloc w (.cells #[.int .i64 W, .int .i64 H, v] 26 (0, 0)) none) (World.grownBy_alloc (w.alloc (.cells #[.int .i64 W, .int .i64 H, v] 26 (0, 0))) (.cells #[] 3 (0, 0)) none)
  have HG0 := Lib.hid hgr
  have HV0 := Lib.hid (hv.grown hgr)
  have HB0 := Lib.hid ((box_new w #[.int .i64 W, .int .i64 H, v] 26).grown (World.grownBy_alloc _ (.cells #[] 3 (0, 0)) none))
  have ho := own_empty (k := .i64) (E := 3) (w.alloc (.cells #[.int .i64 W, .int .i64 H, v] 26 (0, 0)))
  simp only [World.size_alloc] at ho
  have HO0 := Lib.hid ho
  have HS0 : Hid (((w.alloc (.cells #[.int .i64 W, .int .i64 H, v] 26 (0, 0))).alloc (.cells #[] 3 (0, 0))).heap.size = w.heap.size + 2) := by show _ = _; simp
  obtain ⟨va, vn, vc, hvv, HVN⟩ := hv.shape
  subst hvv
  obtain ⟨c0, c1, c2⟩ := HB0.out.three
  clear hv hgr ho
  obtain ⟨i0, hi, hz0, hz1, hz2⟩ := info_parts Inf.info_i64
  go_enter Try.func31, Try.ntmps31
  go_upto_region 2 with (fail)
  generalize (w.alloc (.cells #[.int .i64 W, .int .i64 H, .slice va vn vc] 26 (0, 0))).alloc (.cells #[] 3 (0, 0)) = w1 at *
  have hs := isOpen_any w1 W H a _ X HV0.out
  by_cases hA : isOpen W H X a = true
  · rw [hA] at hs
    have HS := Lib.hid hs
    have HA := Lib.hid hA
    clear hs hA
    go_wp2_with fail
    refine HS.out.mono ?_
    rintro e w2 ⟨rfl, hg⟩
    have HB2 := Lib.hid (HB0.out.grown hg)
    have HV2 := Lib.hid (HV0.out.grown hg)
    have HG2 := Lib.hid (grownN_trans HG0.out hg)
    have HO2 := Lib.hid (HO0.out.grown hg)
    have HZ2 : Hid (w.heap.size + 2 ≤ w2.heap.size) := by have := hg.size; rw [HS0.out] at this; exact this
    clear hg c0 c1 c2
    obtain ⟨c0, c1, c2⟩ := HB2.out.three
    have hs := isOpen_any w2 W H b _ X HV2.out
    by_cases hB : isOpen W H X b = true
    rotate_left
    · have hB2 : isOpen W H X b = false := by simpa using hB
      rw [hB2] at hs
      have HS := Lib.hid hs
      have HE : Hid (wayOf W H X a b = []) := by show _ = _; unfold wayOf; rw [if_neg (fun h => hB h.2)]
      clear hs hB hB2
      go_wp2_with fail
      refine HS.out.mono ?_
      rintro e w3 ⟨rfl, hg⟩
      have HG3 := Lib.hid (grownN_trans HG2.out hg)
      have HO3 := Lib.hid (HO2.out.grown hg)
      clear hg
      go_wp2
      go_ret
      exact ⟨_, rfl, by rw [HE.out]; exact HO3.out.lower (Nat.le_succ _), HG3.out⟩
    rw [hB] at hs
    have HS := Lib.hid hs
    have HBO := Lib.hid hB
    clear hs hB
    go_wp2_with fail
    refine HS.out.mono ?_
    rintro e w3 ⟨rfl, hg⟩
    have HB2 := Lib.hid (HB2.out.grown hg)
    have HV2 := Lib.hid (HV2.out.grown hg)
    have HG2 := Lib.hid (grownN_trans HG2.out hg)
    have HO2 := Lib.hid (HO2.out.grown hg)
    have HZ2 : Hid (w.heap.size + 2 ≤ w3.heap.size) := Nat.le_trans HZ2.out hg.size
    have HE : Hid (wayOf W H X a b = wayFrom W X (distL W X b) (at' (distL W X b) a + 1).toNat a) := by show _ = _; unfold wayOf; rw [if_pos ⟨HA.out, HBO.out⟩]
    obtain ⟨p, h, n, rfl, rfl, rfl, hn, hL, h64, _⟩ := open_nat HA.out
    obtain ⟨p', h', m, hp', hh', rfl, hm, _, _, _⟩ := open_nat HBO.out
    have HL : Hid (isLand p h X = true ∧ n < X.length ∧ X.length ≤ 64 ∧ m < X.length) := ⟨hL, hn, h64, hm⟩
    clear hg c0 c1 c2 hL hn h64 hm hp' hh'
    obtain ⟨c0, c1, c2⟩ := HB2.out.three
    go_wp2_with fail
    refine (searchIn_any w3 p h _ X HV2.out HL.out.1).mono ?_
    rintro e w4 ⟨bb, rfl, hle, hS, hg⟩
    have HG4 := Lib.hid (grownN_trans HG2.out hg)
    have HS4 := Lib.hid hS
    have HB4 := Lib.hid (HB2.out.grown hg)
    have HO4 := Lib.hid (HO2.out.grown hg)
    have HLE : Hid (w.heap.size + 2 ≤ bb) := Nat.le_trans HZ2.out hle
    clear hle hS hg c0 c1 c2
    go_wp2_with fail
    refine (begin_any w4 bb p h m X 64 [] _ _ HS4.out HL.out.1 HL.out.2.2.2 (by omega)).mono ?_
    rintro e w5 ⟨rfl, qv, Q, M, hS, hM, hb⟩
    rw [cut64 HL.out.1 HL.out.2.2.2 HL.out.2.2.1] at hM
    have HM5 := Lib.hid hM
    have HB5 : Hid (Box w5 w.heap.size #[.int .i64 (p : Int), .int .i64 (h : Int), .slice va vn vc] 26) := (hb.block _ (by have := HLE.out; omega)).trans HB4.out
    have hle := HLE.out
    have HSL : Hid (SL w w5 bb p (grid p X) qv Q M (.slice (some ⟨w.heap.size + 1, 0, none⟩) 0 0) (wayFrom p X (distL p X m) 0 n)) := by
      refine ⟨hS, ?_, by simp [Value.ownBlock]; omega, ?_, search_on HG4.out (by omega) hb, fun _ _ => trivial⟩
      · exact own_under HO4.out hb (fun c hc => by simp only [Value.ownBlock, Option.some.injEq] at hc; omega)
      · cases hq : qv.ownBlock with
        | none => exact .inl rfl
        | some e => have := hS.own.lt e hq; exact .inr (by simp [Value.ownBlock]; omega)
    clear hS hM hb hle
    obtain ⟨c0, c1, c2⟩ := HB5.out.three
    have hdb := dist_bnd HL.out.1 HL.out.2.2.2 HL.out.2.2.1
    have HDB := Lib.hid hdb
    have hk0 := hdb (n : Int) (by omega) (by have := HL.out.2.1; omega)
    obtain ⟨dn, hdn⟩ : ∃ dn, dn = at' (distL p X m) (n : Int) := ⟨_, rfl⟩
    rw [← hdn] at hk0
    have HDN := Lib.hid hdn
    obtain ⟨hk0, hk1⟩ := hk0
    clear hdb hdn
    obtain ⟨kk, hkk⟩ : ∃ kk : Nat, dn + 1 = kk := ⟨(dn + 1).toNat, by omega⟩
    have HKK := Lib.hid hkk
    have hkk65 : kk ≤ 65 := by omega
    go_wp2_with fail
    refine (daysTo_any w5 bb p n _ Q M qv dn HSL.out.sb (sq_100 HL.out.1 HL.out.2.1).1 (by have := HL.out; omega) (sq_100 HL.out.1 HL.out.2.1).2 (by rw [HM5.out.at_ n HL.out.2.1, HDN.out]) (by omega)).mono ?_
    rintro e w6 ⟨rfl, hg6⟩
    have HSL := Lib.hid (HSL.out.on hg6)
    clear hg6
    obtain rfl : dn = (kk : Int) - 1 := by omega
    clear hkk
    go_wp2_with fail
    go_loopw [7, 9, 32] (fun s7 s9 s32 wz => ∃ (k r : Nat), k ≤ kk ∧ s32 = .int .i64 k ∧ s9 = .int .i64 r ∧ r < X.length ∧ Hid (wayAt p X (distL p X m) k n = (r : Int)) ∧ Hid (SL w wz bb p (grid p X) qv Q M s7 (wayFrom p X (distL p X m) k n))) (fun _ _ s32 _ => kk - (intOf s32).toNat)
    case atStart => exact ⟨0, n, Nat.zero_le _, rfl, rfl, HL.out.2.1, rfl, HSL⟩
    case round =>
      obtain ⟨k, r, hk, rfl, rfl, hr, HR, HT⟩ := hrel
      by_cases hlt : k < kk
      · have hbase : w.heap.size + 1 ≤ wr.heap.size := by have := HT.out.sb.box.lt; have := HLE.out; omega
        have HAD : Hid (wayFrom p X (distL p X m) (k + 1) n = wayFrom p X (distL p X m) k n ++ [(r : Int)]) := by show _ = _; rw [wayFrom_add, HR.out]
        obtain ⟨r2, hr2, hr2l⟩ := nearerOf_in (d := distL p X m) HL.out.1 hr
        have HR2 := Lib.hid hr2
        have hwl := wayFrom_len p X (distL p X m) k n
        have HWL := Lib.hid hwl
        have hx64 := HL.out.2.2.1
        clear hr2 hwl
        go_wp2_with (at_builtin; go_loud (refine wpList_append_one_at _ rfl _ _ 24 rfl (w.heap.size + 1) 3 i0 (.int .i64 0) 8 Try.underlying24 hi hz0 hz1 hz2 rfl .i64 _ (wayFrom p X (distL p X m) k n) rfl HT.out.own (r : Int) rfl (i64_mk (by omega)) (by rw [HWL.out]; omega) (by decide) hbase ?_); intro v3 w8 hown3 hgrow3 hpl3; have HT8 := Lib.hid (HT.out.more (L' := wayFrom p X (distL p X m) (k + 1) n) (by rw [HAD.out]; exact hown3) hgrow3 hpl3); clear hown3 hgrow3 hpl3)
        refine (nearer_any w8 bb p h r X _ Q M qv HT8.out.sb HM5.out HDB.out HL.out.1 hr).mono ?_
        rintro e w9 ⟨rfl, hg9⟩
        have HT9 := Lib.hid (HT8.out.on hg9)
        clear hg9
        rw [HR2.out]
        go_wp2_with fail
        go_roundw
        case rel => exact ⟨k + 1, r2, by omega, by go_num, rfl, hr2l, by show _ = _; simp only [wayAt]; rw [HR.out, HR2.out], HT9⟩
        case measure => simp [intOf]; omega
      · have hkk : k = kk := by omega
        have HE2 : Hid (wayOf p h X n m = wayFrom p X (distL p X m) k n) := by
          show _ = _
          rw [HE.out, hkk, ← HDN.out]; congr 1; omega
        go_wp2
        go_ret
        exact ⟨_, rfl, by rw [HE2.out]; exact HT.out.own.lower (Nat.le_succ _), HT.out.grown⟩
  · have hA2 : isOpen W H X a = false := by simpa using hA
    rw [hA2] at hs
    have HS := Lib.hid hs
    have HE : Hid (wayOf W H X a b = []) := by show _ = _; unfold wayOf; rw [if_neg (fun h => hA h.1)]
    clear hs hA hA2
    go_wp2_with fail
    refine HS.out.mono ?_
    rintro e w2 ⟨rfl, hg⟩
    have HG2 := Lib.hid (grownN_trans HG0.out hg)
    have HO2 := Lib.hid (HO0.out.grown hg)
    clear hg
    go_wp2
    go_ret
    exact ⟨_, rfl, by rw [HE.out]; exact HO2.out.lower (Nat.le_succ _), HG2.out⟩
end Go.Proofs.Ytfccikhmcenanaa.WayI

namespace Go.Proofs.Ytfccikhmcenanaa.WayI
open Go.RowKit Kit Rw Ld Gr GrI Bfs Wf Sr LandI

/-- One day far is near. -/
theorem dist_one {p h : Nat} {X : List Int} (hL : isLand p h X = true) {a : Int} (h0 : 0 ≤ a) (h1 : a < X.length) {n : Int} (n0 : 0 ≤ n) (n1 : n < X.length) : at' (distL p X a) n = 1 ↔ n ∈ near p a X := by
  have hd := dist_is hL h0 h1
  obtain ⟨hW, _⟩ := isLand_of hL
  constructor
  · intro e
    by_cases hna : n = a
    · subst hna; rw [hd.src] at e; omega
    · obtain ⟨m, m0, m1, m2, m3, m4⟩ := hd.pre n n0 n1 hna (by omega)
      by_cases hma : m = a
      · subst hma; exact m3
      · obtain ⟨q, q0, q1, q2, _, q4⟩ := hd.pre m m0 m1 hma m2
        omega
  · intro hm
    have hs := hd.src
    have := hd.nxt a h0 h1 (by omega) n hm
    by_cases c : at' (distL p X a) n = 0
    · by_cases hna : n = a
      · subst hna; exact absurd hm (near_self hW.1)
      · obtain ⟨q, q0, q1, q2, _, q4⟩ := hd.pre n n0 n1 hna (by omega)
        omega
    · omega
theorem cut_one {p h : Nat} {X : List Int} (hL : isLand p h X = true) {a : Int} (h0 : 0 ≤ a) (h1 : a < X.length) {n : Int} (n0 : 0 ≤ n) (n1 : n < X.length) : at' (cut 1 (distL p X a)) n = 1 ↔ n ∈ near p a X := by
  have hd := dist_is hL h0 h1
  rw [cut_at n0 (by rw [hd.len]; exact n1), ← dist_one hL h0 h1 n0 n1]
  split <;> omega

set_option maxRecDepth 100000 in
set_option maxHeartbeats 1000000 in
theorem isWay_any (w : World) (W H : Int) (v u : Value) (X L : List Int) (hv : Sees .i64 w v X) (hu : Sees .i64 w u L) :
    Calls Try.prog 32 #[.agg #[.int .i64 W, .int .i64 H, v], u] w fun e w' => e = .returned (.bool (isWayOf W H X L)) ∧ w.grownBy w' none := by
  obtain ⟨hb0, hv0, hg0⟩ := wb_new (W := W) (H := H) hv
  have hul := hu.len
  have hdr := grown_drew (World.grownBy.refl (w.alloc (.cells #[.int .i64 W, .int .i64 H, v] 26 (0, 0))) none)
  have HB0 := Lib.hid (hb0.grown hdr)
  have HV0 := Lib.hid (hv0.grown hdr)
  have HG0 := Lib.hid (grownN_trans hg0 hdr)
  have HU0 := Lib.hid (hu.grown (grownN_trans hg0 hdr))
  have HVW := Lib.hid hv
  have HUW := Lib.hid hu
  obtain ⟨va, vn, vc, hvv, HVN⟩ := hv.shape
  subst hvv
  obtain ⟨ua, un, uc, huu, HUN⟩ := hu.shape
  subst huu
  have hun : un ≤ 9223372036854775807 := by rw [← HUN.out]; exact hul
  have hucm : un ≤ uc := by obtain ⟨_, _, e, h1, _⟩ := hu; injection e with e1 e2 e3; rw [← HUN.out]; omega
  obtain ⟨c0, c1, c2⟩ := HB0.out.three
  have HK0 : Hid ((w.alloc (.cells #[.int .i64 W, .int .i64 H, .slice va vn vc] 26 (0, 0))).drew.cell? ⟨w.heap.size, 0, none⟩ = some (.int .i64 W) ∧ (w.alloc (.cells #[.int .i64 W, .int .i64 H, .slice va vn vc] 26 (0, 0))).drew.cell? ⟨w.heap.size, 1, none⟩ = some (.int .i64 H) ∧ (w.alloc (.cells #[.int .i64 W, .int .i64 H, .slice va vn vc] 26 (0, 0))).drew.cell? ⟨w.heap.size, 2, none⟩ = some (.slice va vn vc)) := ⟨c0, c1, c2⟩
  clear hv hb0 hv0 hg0 hdr hul hu c0 c1 c2
  go_enter Try.func32, Try.ntmps32
  by_cases hn0 : un = 0
  · subst hn0
    have HE : Hid (isWayOf W H X L = false) := by
      show _ = _
      unfold isWayOf
      rw [decide_eq_false_iff_not]
      exact fun h => by have := h.1; have := HUN.out; omega
    go_wp2_with fail
    refine wp_region_held_drew (S := fun w' => w'.cell? ⟨w.heap.size, 0, none⟩ = some (.int .i64 W) ∧ w'.cell? ⟨w.heap.size, 1, none⟩ = some (.int .i64 H) ∧ w'.cell? ⟨w.heap.size, 2, none⟩ = some (.slice va vn vc)) (by kernel_rfl) HK0.out (fun hHeld => ?_)
    refine wpAnyH_take (i := 0) (v := ?_) rfl (by kernel_rfl) (by kernel_rfl) (by kernel_rfl) (fun _ _ _ h => h) (Or.inl ⟨by rfl, ?_⟩) (by assumption) ?_; rotate_left; (focus (intro wS hSw; (try dsimp only at hSw); go_simp <;> with_reducible rfl)); (try simp only [Act.put, List.getElem_toArray, List.getElem_cons_succ, List.getElem_cons_zero, List.setIfInBounds_toArray, List.set_cons_zero, List.set_cons_succ])
    refine wpAnyH_take (i := 1) (v := ?_) rfl (by kernel_rfl) (by kernel_rfl) (by kernel_rfl) (fun _ _ _ h => h) (Or.inl ⟨by rfl, ?_⟩) (by assumption) ?_; rotate_left; (focus (intro wS hSw; (try dsimp only at hSw); go_simp <;> with_reducible rfl)); (try simp only [Act.put, List.getElem_toArray, List.getElem_cons_succ, List.getElem_cons_zero, List.setIfInBounds_toArray, List.set_cons_zero, List.set_cons_succ])
    refine wpAnyH_take (i := 2) (v := ?_) rfl (by kernel_rfl) (by kernel_rfl) (by kernel_rfl) (fun _ _ _ h => h) (Or.inl ⟨by rfl, ?_⟩) (by assumption) ?_; rotate_left; (focus (intro wS hSw; (try dsimp only at hSw); go_simp <;> with_reducible rfl)); (try simp only [Act.put, List.getElem_toArray, List.getElem_cons_succ, List.getElem_cons_zero, List.setIfInBounds_toArray, List.set_cons_zero, List.set_cons_succ])
    refine wpAnyH_take (i := 3) (v := ?_) rfl (by kernel_rfl) (by kernel_rfl) (by kernel_rfl) (fun _ _ _ h => h) (Or.inl ⟨by rfl, ?_⟩) (by assumption) ?_; rotate_left; (focus (intro wS hSw; (try dsimp only at hSw); go_simp <;> with_reducible rfl)); (try simp only [Act.put, List.getElem_toArray, List.getElem_cons_succ, List.getElem_cons_zero, List.setIfInBounds_toArray, List.set_cons_zero, List.set_cons_succ])
    refine wpAnyH_take (i := 4) (v := undef) rfl (by kernel_rfl) (by kernel_rfl) (by kernel_rfl) (fun _ _ _ h => h) (Or.inr ⟨by rfl, rfl⟩) (by assumption) ?_; (try simp only [Act.put, List.getElem_toArray, List.getElem_cons_succ, List.getElem_cons_zero, List.setIfInBounds_toArray, List.set_cons_zero, List.set_cons_succ])
    refine wpAnyH_take (i := 5) (v := undef) rfl (by kernel_rfl) (by kernel_rfl) (by kernel_rfl) (fun _ _ _ h => h) (Or.inr ⟨by rfl, rfl⟩) (by assumption) ?_; (try simp only [Act.put, List.getElem_toArray, List.getElem_cons_succ, List.getElem_cons_zero, List.setIfInBounds_toArray, List.set_cons_zero, List.set_cons_succ])
    refine wpAnyH_take (i := 6) (v := undef) rfl (by kernel_rfl) (by kernel_rfl) (by kernel_rfl) (fun _ _ _ h => h) (Or.inr ⟨by rfl, rfl⟩) (by assumption) ?_; (try simp only [Act.put, List.getElem_toArray, List.getElem_cons_succ, List.getElem_cons_zero, List.setIfInBounds_toArray, List.set_cons_zero, List.set_cons_succ])
    refine wpAnyH_take (i := 7) (v := undef) rfl (by kernel_rfl) (by kernel_rfl) (by kernel_rfl) (fun _ _ _ h => h) (Or.inr ⟨by rfl, rfl⟩) (by assumption) ?_; (try simp only [Act.put, List.getElem_toArray, List.getElem_cons_succ, List.getElem_cons_zero, List.setIfInBounds_toArray, List.set_cons_zero, List.set_cons_succ])
    refine wpAnyH_take (i := 8) (v := undef) rfl (by kernel_rfl) (by kernel_rfl) (by kernel_rfl) (fun _ _ _ h => h) (Or.inr ⟨by rfl, rfl⟩) (by assumption) ?_; (try simp only [Act.put, List.getElem_toArray, List.getElem_cons_succ, List.getElem_cons_zero, List.setIfInBounds_toArray, List.set_cons_zero, List.set_cons_succ])
    refine wpAnyH_take (i := 9) (v := undef) rfl (by kernel_rfl) (by kernel_rfl) (by kernel_rfl) (fun _ _ _ h => h) (Or.inr ⟨by rfl, rfl⟩) (by assumption) ?_; (try simp only [Act.put, List.getElem_toArray, List.getElem_cons_succ, List.getElem_cons_zero, List.setIfInBounds_toArray, List.set_cons_zero, List.set_cons_succ])
    refine wpAnyH_take (i := 10) (v := ?_) rfl (by kernel_rfl) (by kernel_rfl) (by kernel_rfl) (fun _ _ _ h => h) (Or.inl ⟨by rfl, ?_⟩) (by assumption) ?_; rotate_left; (focus (intro wS hSw; (try dsimp only at hSw); go_simp <;> with_reducible rfl)); (try simp only [Act.put, List.getElem_toArray, List.getElem_cons_succ, List.getElem_cons_zero, List.setIfInBounds_toArray, List.set_cons_zero, List.set_cons_succ])
    refine wpAnyH_done (by kernel_rfl) ?_ _
    (try simp only [Act.put, List.getElem_toArray, List.getElem_cons_succ, List.getElem_cons_zero, List.setIfInBounds_toArray, List.set_cons_zero, List.set_cons_succ])
    go_wp2
    go_ret
    exact ⟨ret_bool HE.out.symm, HG0.out⟩
  · obtain ⟨ub, uo, rfl, hc0⟩ := HU0.out.at_row (j := 0) (by rw [HUN.out]; omega)
    obtain ⟨x0, hx0⟩ : ∃ x0, x0 = L.getD 0 0 := ⟨_, rfl⟩
    rw [← hx0, Nat.add_zero] at hc0
    have HX0 := Lib.hid hx0
    have HC0 := Lib.hid hc0
    have HNZ := Lib.hid hn0
    have hnb : ((un : Int) == 0) = false := by simp; omega
    have hnp : 0 < un := by omega
    clear hx0 hc0
    have hs := isOpen_any _ W H x0 _ X HV0.out
    by_cases hO : isOpen W H X x0 = true
    rotate_left
    · have hO2 : isOpen W H X x0 = false := by simpa using hO
      have HE : Hid (isWayOf W H X L = false) := by
        show _ = _
        unfold isWayOf
        rw [decide_eq_false_iff_not]
        exact fun h => hO (by rw [HX0.out]; exact h.2.1 0 h.1)
      rw [hO2] at hs
      have HS := Lib.hid hs
      clear hs hO hO2
      go_wp2_with fail
      refine wp_region_held_drew (S := fun w' => w'.cell? ⟨w.heap.size, 0, none⟩ = some (.int .i64 W) ∧ w'.cell? ⟨w.heap.size, 1, none⟩ = some (.int .i64 H) ∧ w'.cell? ⟨w.heap.size, 2, none⟩ = some (.slice va vn vc) ∧ w'.cell? ⟨ub, uo, none⟩ = some (.int .i64 x0)) (by kernel_rfl) ⟨HK0.out.1, HK0.out.2.1, HK0.out.2.2, HC0.out⟩ (fun hHeld => ?_)
      refine wpAnyH_take (i := 0) (v := ?_) rfl (by kernel_rfl) (by kernel_rfl) (by kernel_rfl) (fun _ _ _ h => h) (Or.inl ⟨by rfl, ?_⟩) (by assumption) ?_; rotate_left; (focus (intro wS hSw; (try dsimp only at hSw); go_simp <;> with_reducible rfl)); (try simp only [Act.put, List.getElem_toArray, List.getElem_cons_succ, List.getElem_cons_zero, List.setIfInBounds_toArray, List.set_cons_zero, List.set_cons_succ])
      refine wpAnyH_take (i := 1) (v := ?_) rfl (by kernel_rfl) (by kernel_rfl) (by kernel_rfl) (fun _ _ _ h => h) (Or.inl ⟨by rfl, ?_⟩) (by assumption) ?_; rotate_left; (focus (intro wS hSw; (try dsimp only at hSw); go_simp <;> with_reducible rfl)); (try simp only [Act.put, List.getElem_toArray, List.getElem_cons_succ, List.getElem_cons_zero, List.setIfInBounds_toArray, List.set_cons_zero, List.set_cons_succ])
      refine wpAnyH_take (i := 2) (v := ?_) rfl (by kernel_rfl) (by kernel_rfl) (by kernel_rfl) (fun _ _ _ h => h) (Or.inl ⟨by rfl, ?_⟩) (by assumption) ?_; rotate_left; (focus (intro wS hSw; (try dsimp only at hSw); go_simp <;> with_reducible rfl)); (try simp only [Act.put, List.getElem_toArray, List.getElem_cons_succ, List.getElem_cons_zero, List.setIfInBounds_toArray, List.set_cons_zero, List.set_cons_succ])
      refine wpAnyH_take (i := 3) (v := ?_) rfl (by kernel_rfl) (by kernel_rfl) (by kernel_rfl) (fun _ _ _ h => h) (Or.inl ⟨by rfl, ?_⟩) (by assumption) ?_; rotate_left; (focus (intro wS hSw; (try dsimp only at hSw); go_simp <;> with_reducible rfl)); (try simp only [Act.put, List.getElem_toArray, List.getElem_cons_succ, List.getElem_cons_zero, List.setIfInBounds_toArray, List.set_cons_zero, List.set_cons_succ])
      refine wpAnyH_take (i := 4) (v := ?_) rfl (by kernel_rfl) (by kernel_rfl) (by kernel_rfl) (fun _ _ _ h => h) (Or.inl ⟨by rfl, ?_⟩) (by assumption) ?_; rotate_left; (focus (intro wS hSw; (try dsimp only at hSw); go_simp <;> with_reducible rfl)); (try simp only [Act.put, List.getElem_toArray, List.getElem_cons_succ, List.getElem_cons_zero, List.setIfInBounds_toArray, List.set_cons_zero, List.set_cons_succ])
      refine wpAnyH_take (i := 5) (v := ?_) rfl (by kernel_rfl) (by kernel_rfl) (by kernel_rfl) (fun _ _ _ h => h) (Or.inl ⟨by rfl, ?_⟩) (by assumption) ?_; rotate_left; (focus (intro wS hSw; (try dsimp only at hSw); go_simp <;> with_reducible rfl)); (try simp only [Act.put, List.getElem_toArray, List.getElem_cons_succ, List.getElem_cons_zero, List.setIfInBounds_toArray, List.set_cons_zero, List.set_cons_succ])
      refine wpAnyH_take (i := 6) (v := ?_) rfl (by kernel_rfl) (by kernel_rfl) (by kernel_rfl) (fun _ _ _ h => h) (Or.inl ⟨by rfl, ?_⟩) (by assumption) ?_; rotate_left; (focus (intro wS hSw; (try dsimp only at hSw); go_simp <;> with_reducible rfl)); (try simp only [Act.put, List.getElem_toArray, List.getElem_cons_succ, List.getElem_cons_zero, List.setIfInBounds_toArray, List.set_cons_zero, List.set_cons_succ])
      refine wpAnyH_take (i := 7) (v := ?_) rfl (by kernel_rfl) (by kernel_rfl) (by kernel_rfl) (fun _ _ _ h => h) (Or.inl ⟨by rfl, ?_⟩) (by assumption) ?_; rotate_left; (focus (intro wS hSw; (try dsimp only at hSw); go_simp <;> with_reducible rfl)); (try simp only [Act.put, List.getElem_toArray, List.getElem_cons_succ, List.getElem_cons_zero, List.setIfInBounds_toArray, List.set_cons_zero, List.set_cons_succ])
      refine wpAnyH_ready (rs := [8]) (by kernel_rfl) (by simp) ?_; refine AllReadyH.cons rfl (fun K hK => ?_) AllReadyH.nil; go_simp; (go_at_call 24; refine HS.out.mono ?_; rintro e w2 ⟨rfl, hg2⟩; have HB2 := Lib.hid (HB0.out.grown hg2); have HV2 := Lib.hid (HV0.out.grown hg2); have HU2 := Lib.hid (HU0.out.grown hg2); have HG2 := Lib.hid (grownN_trans HG0.out hg2); have HK2 := Lib.hid (And.intro (hg2.cell HK0.out.1 (by simp)) (And.intro (hg2.cell HK0.out.2.1 (by simp)) (And.intro (hg2.cell HK0.out.2.2 (by simp)) (hg2.cell HC0.out (by simp))))); clear hg2)
      refine hK.out _ _ ?_ (fun hHeld => ?_)
      · exact HK2.out
      clear hK K
      (try simp only [Act.put, List.getElem_toArray, List.getElem_cons_succ, List.getElem_cons_zero, List.setIfInBounds_toArray, List.set_cons_zero, List.set_cons_succ])
      refine wpAnyH_take (i := 9) (v := ?_) rfl (by kernel_rfl) (by kernel_rfl) (by kernel_rfl) (fun _ _ _ h => h) (Or.inl ⟨by rfl, ?_⟩) (by assumption) ?_; rotate_left; (focus (intro wS hSw; (try dsimp only at hSw); go_simp <;> with_reducible rfl)); (try simp only [Act.put, List.getElem_toArray, List.getElem_cons_succ, List.getElem_cons_zero, List.setIfInBounds_toArray, List.set_cons_zero, List.set_cons_succ])
      refine wpAnyH_take (i := 10) (v := ?_) rfl (by kernel_rfl) (by kernel_rfl) (by kernel_rfl) (fun _ _ _ h => h) (Or.inl ⟨by rfl, ?_⟩) (by assumption) ?_; rotate_left; (focus (intro wS hSw; (try dsimp only at hSw); go_simp <;> with_reducible rfl)); (try simp only [Act.put, List.getElem_toArray, List.getElem_cons_succ, List.getElem_cons_zero, List.setIfInBounds_toArray, List.set_cons_zero, List.set_cons_succ])
      refine wpAnyH_done (by kernel_rfl) ?_ _
      (try simp only [Act.put, List.getElem_toArray, List.getElem_cons_succ, List.getElem_cons_zero, List.setIfInBounds_toArray, List.set_cons_zero, List.set_cons_succ])
      go_wp2
      go_ret
      exact ⟨ret_bool HE.out.symm, HG2.out⟩
    rw [hO] at hs
    have HS := Lib.hid hs
    have HO := Lib.hid hO
    clear hs hO
    go_wp2_with fail
    refine wp_region_held_drew (S := fun w' => w'.cell? ⟨w.heap.size, 0, none⟩ = some (.int .i64 W) ∧ w'.cell? ⟨w.heap.size, 1, none⟩ = some (.int .i64 H) ∧ w'.cell? ⟨w.heap.size, 2, none⟩ = some (.slice va vn vc) ∧ w'.cell? ⟨ub, uo, none⟩ = some (.int .i64 x0)) (by kernel_rfl) ⟨HK0.out.1, HK0.out.2.1, HK0.out.2.2, HC0.out⟩ (fun hHeld => ?_)
    refine wpAnyH_take (i := 0) (v := ?_) rfl (by kernel_rfl) (by kernel_rfl) (by kernel_rfl) (fun _ _ _ h => h) (Or.inl ⟨by rfl, ?_⟩) (by assumption) ?_; rotate_left; (focus (intro wS hSw; (try dsimp only at hSw); go_simp <;> with_reducible rfl)); (try simp only [Act.put, List.getElem_toArray, List.getElem_cons_succ, List.getElem_cons_zero, List.setIfInBounds_toArray, List.set_cons_zero, List.set_cons_succ])
    refine wpAnyH_take (i := 1) (v := ?_) rfl (by kernel_rfl) (by kernel_rfl) (by kernel_rfl) (fun _ _ _ h => h) (Or.inl ⟨by rfl, ?_⟩) (by assumption) ?_; rotate_left; (focus (intro wS hSw; (try dsimp only at hSw); go_simp <;> with_reducible rfl)); (try simp only [Act.put, List.getElem_toArray, List.getElem_cons_succ, List.getElem_cons_zero, List.setIfInBounds_toArray, List.set_cons_zero, List.set_cons_succ])
    refine wpAnyH_take (i := 2) (v := ?_) rfl (by kernel_rfl) (by kernel_rfl) (by kernel_rfl) (fun _ _ _ h => h) (Or.inl ⟨by rfl, ?_⟩) (by assumption) ?_; rotate_left; (focus (intro wS hSw; (try dsimp only at hSw); go_simp <;> with_reducible rfl)); (try simp only [Act.put, List.getElem_toArray, List.getElem_cons_succ, List.getElem_cons_zero, List.setIfInBounds_toArray, List.set_cons_zero, List.set_cons_succ])
    refine wpAnyH_take (i := 3) (v := ?_) rfl (by kernel_rfl) (by kernel_rfl) (by kernel_rfl) (fun _ _ _ h => h) (Or.inl ⟨by rfl, ?_⟩) (by assumption) ?_; rotate_left; (focus (intro wS hSw; (try dsimp only at hSw); go_simp <;> with_reducible rfl)); (try simp only [Act.put, List.getElem_toArray, List.getElem_cons_succ, List.getElem_cons_zero, List.setIfInBounds_toArray, List.set_cons_zero, List.set_cons_succ])
    refine wpAnyH_take (i := 4) (v := ?_) rfl (by kernel_rfl) (by kernel_rfl) (by kernel_rfl) (fun _ _ _ h => h) (Or.inl ⟨by rfl, ?_⟩) (by assumption) ?_; rotate_left; (focus (intro wS hSw; (try dsimp only at hSw); go_simp <;> with_reducible rfl)); (try simp only [Act.put, List.getElem_toArray, List.getElem_cons_succ, List.getElem_cons_zero, List.setIfInBounds_toArray, List.set_cons_zero, List.set_cons_succ])
    refine wpAnyH_take (i := 5) (v := ?_) rfl (by kernel_rfl) (by kernel_rfl) (by kernel_rfl) (fun _ _ _ h => h) (Or.inl ⟨by rfl, ?_⟩) (by assumption) ?_; rotate_left; (focus (intro wS hSw; (try dsimp only at hSw); go_simp <;> with_reducible rfl)); (try simp only [Act.put, List.getElem_toArray, List.getElem_cons_succ, List.getElem_cons_zero, List.setIfInBounds_toArray, List.set_cons_zero, List.set_cons_succ])
    refine wpAnyH_take (i := 6) (v := ?_) rfl (by kernel_rfl) (by kernel_rfl) (by kernel_rfl) (fun _ _ _ h => h) (Or.inl ⟨by rfl, ?_⟩) (by assumption) ?_; rotate_left; (focus (intro wS hSw; (try dsimp only at hSw); go_simp <;> with_reducible rfl)); (try simp only [Act.put, List.getElem_toArray, List.getElem_cons_succ, List.getElem_cons_zero, List.setIfInBounds_toArray, List.set_cons_zero, List.set_cons_succ])
    refine wpAnyH_take (i := 7) (v := ?_) rfl (by kernel_rfl) (by kernel_rfl) (by kernel_rfl) (fun _ _ _ h => h) (Or.inl ⟨by rfl, ?_⟩) (by assumption) ?_; rotate_left; (focus (intro wS hSw; (try dsimp only at hSw); go_simp <;> with_reducible rfl)); (try simp only [Act.put, List.getElem_toArray, List.getElem_cons_succ, List.getElem_cons_zero, List.setIfInBounds_toArray, List.set_cons_zero, List.set_cons_succ])
    refine wpAnyH_ready (rs := [8]) (by kernel_rfl) (by simp) ?_; refine AllReadyH.cons rfl (fun K hK => ?_) AllReadyH.nil; go_simp; (go_at_call 24; refine HS.out.mono ?_; rintro e w2 ⟨rfl, hg2⟩; have HB2 := Lib.hid (HB0.out.grown hg2); have HV2 := Lib.hid (HV0.out.grown hg2); have HU2 := Lib.hid (HU0.out.grown hg2); have HG2 := Lib.hid (grownN_trans HG0.out hg2); have HK2 := Lib.hid (And.intro (hg2.cell HK0.out.1 (by simp)) (And.intro (hg2.cell HK0.out.2.1 (by simp)) (And.intro (hg2.cell HK0.out.2.2 (by simp)) (hg2.cell HC0.out (by simp))))); clear hg2)
    refine hK.out _ _ ?_ (fun hHeld => ?_)
    · exact HK2.out
    clear hK K
    (try simp only [Act.put, List.getElem_toArray, List.getElem_cons_succ, List.getElem_cons_zero, List.setIfInBounds_toArray, List.set_cons_zero, List.set_cons_succ])
    refine wpAnyH_take (i := 9) (v := ?_) rfl (by kernel_rfl) (by kernel_rfl) (by kernel_rfl) (fun _ _ _ h => h) (Or.inl ⟨by rfl, ?_⟩) (by assumption) ?_; rotate_left; (focus (intro wS hSw; (try dsimp only at hSw); go_simp <;> with_reducible rfl)); (try simp only [Act.put, List.getElem_toArray, List.getElem_cons_succ, List.getElem_cons_zero, List.setIfInBounds_toArray, List.set_cons_zero, List.set_cons_succ])
    refine wpAnyH_take (i := 10) (v := ?_) rfl (by kernel_rfl) (by kernel_rfl) (by kernel_rfl) (fun _ _ _ h => h) (Or.inl ⟨by rfl, ?_⟩) (by assumption) ?_; rotate_left; (focus (intro wS hSw; (try dsimp only at hSw); go_simp <;> with_reducible rfl)); (try simp only [Act.put, List.getElem_toArray, List.getElem_cons_succ, List.getElem_cons_zero, List.setIfInBounds_toArray, List.set_cons_zero, List.set_cons_succ])
    refine wpAnyH_done (by kernel_rfl) ?_ _
    (try simp only [Act.put, List.getElem_toArray, List.getElem_cons_succ, List.getElem_cons_zero, List.setIfInBounds_toArray, List.set_cons_zero, List.set_cons_succ])
    obtain ⟨p, h, f0, rfl, rfl, rfl, hn, hL, h64, _⟩ := open_nat HO.out
    have HL : Hid (isLand p h X = true ∧ f0 < X.length ∧ X.length ≤ 64) := ⟨hL, hn, h64⟩
    clear HB0 HV0 HU0 HG0 HK0 HS hn hL h64
    obtain ⟨c0, c1, c2⟩ := HB2.out.three
    go_wp2_with fail
    refine (searchIn_any w2 p h _ X HV2.out HL.out.1).mono ?_
    rintro e w4 ⟨bb, rfl, hle, hS, hg⟩
    have HG4 := Lib.hid (grownN_trans HG2.out hg)
    have HB4 := Lib.hid (HB2.out.grown hg)
    have HV4 := Lib.hid (HV2.out.grown hg)
    have HU4 := Lib.hid (HU2.out.grown hg)
    have HLE : Hid (w.heap.size + 1 ≤ bb) := Nat.le_trans (by have := HB2.out.lt; omega) hle
    have HS4 := Lib.hid hS
    clear hle hS hg c0 c1 c2
    obtain ⟨c0, c1, c2⟩ := HB4.out.three
    obtain ⟨m1, hm1⟩ : ∃ m1, un = m1 + 1 := ⟨un - 1, by omega⟩
    subst hm1
    have HW0 : Hid ((∀ i, i ≤ 0 → isOpen p h X (L.getD i 0) = true) ∧ ∀ i, i < 0 → L.getD (i + 1) 0 ∈ near p (L.getD i 0) X) := ⟨fun i hi => by rw [show i = 0 by omega, ← HX0.out]; exact HO.out, fun i hi => absurd hi (Nat.not_lt_zero _)⟩
    have hfin : (∀ i, i ≤ m1 → isOpen p h X (L.getD i 0) = true) ∧ (∀ i, i < m1 → L.getD (i + 1) 0 ∈ near p (L.getD i 0) X) → isWayOf p h X L = true := fun hh => by
      have hl := HUN.out
      exact isWayOf_yes ⟨by omega, fun i hi => hh.1 i (by omega), fun i hi => hh.2 i (by omega)⟩
    have HFIN := Lib.hid hfin
    clear hfin
    by_cases huc : uc = 1
    · have hm0 : m1 = 0 := by omega
      subst hm0
      have HE := Lib.hid (HFIN.out HW0.out)
      go_wp2_with fail
      refine wp_loop_rounds 1 ?_
      rw [rounds_succ]
      go_wp2
      go_ret
      exact ⟨ret_bool HE.out.symm, HG4.out⟩
    clear hnb hnp hn0 HC0 HK2 HU2 HV2 HB2 HG2 HNZ
    go_wp2_with fail
    clear c0 c1 c2
    go_loopw [24] (fun s24 wz => ∃ (k : Nat) (qv : Value) (Q M : List Int), k ≤ m1 ∧ s24 = .int .i64 k ∧ Hid (SB wz bb p (grid p X) qv Q M) ∧ Hid (w.grownBy wz none) ∧ Hid (Box wz w.heap.size #[.int .i64 (p : Int), .int .i64 (h : Int), .slice va vn vc] 26) ∧ Hid ((∀ i, i ≤ k → isOpen p h X (L.getD i 0) = true) ∧ ∀ i, i < k → L.getD (i + 1) 0 ∈ near p (L.getD i 0) X)) (fun s24 _ => m1 - (intOf s24).toNat)
    case atStart => exact ⟨0, _, _, _, Nat.zero_le _, rfl, HS4, HG4, HB4, HW0⟩
    case round =>
      obtain ⟨k, qv, Q, M, hk, rfl, HS, HG, HB, HW⟩ := hrel
      clear HS4 HG4 HB4 HW0 HV4 HU4
      by_cases hlt : k < m1
      · obtain ⟨p1, h1, yn, hp1, hh1, hy, hyn, _, _, _⟩ := open_nat (HW.out.1 k (Nat.le_refl _))
        obtain ⟨x, hx⟩ : ∃ x, x = L.getD (k + 1) 0 := ⟨_, rfl⟩
        have hUr := HUW.out.grown HG.out
        have cw := hUr.at' (j := k) (by rw [HUN.out]; omega)
        have cr := hUr.at' (j := k + 1) (by rw [HUN.out]; omega)
        rw [hy] at cw
        rw [← hx, show uo + (k + 1) = uo + 1 + k by omega] at cr
        have HX := Lib.hid hx
        have HY := Lib.hid hy
        have HYN := Lib.hid hyn
        have hkm : (k : Int) < (m1 : Int) := by omega
        have hkm1 : (k : Int) < (m1 : Int) + 1 := by omega
        have hkn : k < m1 + 1 := by omega
        clear hUr hx hy hyn hp1 hh1
        go_wp2_with fail
        refine (begin_any wr bb p h yn X 1 Q M qv HS.out HL.out.1 HYN.out (by omega)).mono ?_
        rintro e w5 ⟨rfl, qv', Q', M', hS, hM, hb⟩
        have HS5 := Lib.hid hS
        have HM5 := Lib.hid hM
        have HG5 := Lib.hid (search_on HG.out (Nat.le_of_succ_le HLE.out) hb)
        have HB5 : Hid (Box w5 w.heap.size #[.int .i64 (p : Int), .int .i64 (h : Int), .slice va vn vc] 26) := (hb.block _ (by have := HLE.out; omega)).trans HB.out
        clear hS hM hb cw cr
        obtain ⟨c0, c1, c2⟩ := HB5.out.three
        have hs := isOpen_any w5 p h x _ X (HVW.out.grown HG5.out)
        by_cases hO : isOpen p h X x = true
        rotate_left
        · have hO2 : isOpen p h X x = false := by simpa using hO
          have HE : Hid (isWayOf p h X L = false) := by
            show _ = _
            unfold isWayOf
            rw [decide_eq_false_iff_not]
            exact fun h => hO (by rw [HX.out]; exact h.2.1 (k + 1) (by rw [HUN.out]; omega))
          rw [hO2] at hs
          have HS := Lib.hid hs
          clear hs hO hO2
          go_wp2_with fail
          refine HS.out.mono ?_
          rintro e w6 ⟨rfl, hg6⟩
          go_wp2
          go_ret
          exact ⟨ret_bool HE.out.symm, grownN_trans HG5.out hg6⟩
        rw [hO] at hs
        have HS6 := Lib.hid hs
        have HO6 := Lib.hid hO
        clear hs hO
        go_wp2_with fail
        refine HS6.out.mono ?_
        rintro e w6 ⟨rfl, hg6⟩
        have HSB := Lib.hid (HS5.out.on hg6)
        have HGB := Lib.hid (grownN_trans HG5.out hg6)
        have HBB := Lib.hid (HB5.out.grown hg6)
        clear hg6 c0 c1 c2
        obtain ⟨p2, h2, xn, hp2, hh2, hxn, hxl, _, _, _⟩ := open_nat HO6.out
        subst hxn
        have HXL := Lib.hid hxl
        have hone := cut_one HL.out.1 (a := (yn : Int)) (by omega) (by have := HYN.out; omega) (n := (xn : Int)) (by omega) (by omega)
        have hk1 := dist_bnd HL.out.1 HYN.out HL.out.2.2 (xn : Int) (by omega) (by omega)
        have hdl := (dist_is HL.out.1 (a := (yn : Int)) (by omega) (by have := HYN.out; omega)).len
        have hcb : -1 ≤ at' (cut 1 (distL p X yn)) (xn : Int) ∧ at' (cut 1 (distL p X yn)) (xn : Int) ≤ 64 := by rw [cut_at (by omega) (by rw [hdl]; omega)]; split <;> omega
        obtain ⟨y, hy⟩ : ∃ y, y = at' (cut 1 (distL p X yn)) (xn : Int) := ⟨_, rfl⟩
        rw [← hy] at hone hcb
        have HYV := Lib.hid hy
        have HONE := Lib.hid hone
        have HCB := Lib.hid hcb
        have hxn64 : xn < 64 := by have := HL.out.2.2; omega
        clear hp2 hh2 hxl hone hk1 hdl hcb hy
        go_wp2_with fail
        refine (daysTo_any w6 bb p xn _ Q' M' qv' y HSB.out (sq_100 HL.out.1 HXL.out).1 hxn64 (sq_100 HL.out.1 HXL.out).2 (by rw [HM5.out.at_ xn HXL.out, HYV.out]) (by have := HCB.out; omega)).mono ?_
        rintro e w7 ⟨rfl, hg7⟩
        have HSB7 := Lib.hid (HSB.out.on hg7)
        have HGB7 := Lib.hid (grownN_trans HGB.out hg7)
        have HBB7 := Lib.hid (HBB.out.grown hg7)
        clear hg7
        by_cases hy1 : y = 1
        · have hyb : (y == 1) = true := by simpa using hy1
          have hyb2 : (y != 1) = false := by simpa using hy1
          go_wp2
          go_roundw
          case rel =>
            refine ⟨k + 1, qv', Q', M', by omega, by go_num, HSB7, HGB7, HBB7, fun i hi => ?_, fun i hi => ?_⟩
            · by_cases e : i = k + 1
              · rw [e, ← HX.out]; exact HO6.out
              · exact HW.out.1 i (by omega)
            · by_cases e : i = k
              · rw [e, ← HX.out, HY.out]; exact HONE.out.1 hy1
              · exact HW.out.2 i (by omega)
          case measure => simp [intOf]; omega
        · have hyb : (y == 1) = false := by simpa using hy1
          have hyb2 : (y != 1) = true := by simpa using hy1
          have HE : Hid (isWayOf p h X L = false) := by
            show _ = _
            unfold isWayOf
            rw [decide_eq_false_iff_not]
            exact fun hh => hy1 (HONE.out.2 (by have := hh.2.2 k (by rw [HUN.out]; omega); rwa [← HX.out, HY.out] at this))
          go_wp2
          go_ret
          exact ⟨ret_bool HE.out.symm, HGB7.out⟩
      · have hkk : k = m1 := by omega
        subst hkk
        have HE := Lib.hid (HFIN.out HW.out)
        go_wp2
        go_ret
        exact ⟨ret_bool HE.out.symm, HG.out⟩
end Go.Proofs.Ytfccikhmcenanaa.WayI
