/- Where one is after some steps and sights: plain facts. Contracts of where one can be and of what is seen: the model's. What the law of places leans on: plain facts. Contracts of where one can be and of what is seen: the program's. Contract of where one is after some steps and sights: the program's. Contract of the laws' 'ascends', of a list that does. Contract of the laws' 'contains': is a number one of a list. Contract of the laws' 'within', of a list that lies within another. Contract of the laws' test of the input's length. -/
import Derived.Test.YtbibkjponadipaaDoorPcc
import Derived.Test.YtbibkjponadipaaDoorCros
import Derived.Test.YtbibkjponadipaaDoorPch
import Derived.Test.YtbibkjponadipaaDoorWayS
import Derived.Test.YtbibkjponadipaaDoorApartS
import Derived.Test.YtbibkjponadipaaDoorLandS
import Derived.Deep.RegionHeld3
import Derived.IntWalk
import Derived.WalkKit
import Derived.OwnWalk
import Derived.Test.YtbibkjponadipaaDoorMBase
import Derived.Deep.QuietTactic
import Derived.BigQuiet
namespace Go.Proofs.YtbibkjponadipaaDoor.Pc
open Go.RowKit Kit Rw Rg Ld Bfs Wf Cros

noncomputable def afterTo (W H : Int) (X F : List Int) (s : Int) (M R : List Int) : Nat → List Int
  | 0 => canBe W H X F s
  | j + 1 => crossOf (afterTo W H X F s M R j) (seen W H X (M.getD j 0) (R.getD j 0))
noncomputable def after (W H : Int) (X F : List Int) (s : Int) (M R : List Int) : List Int := if M.length = R.length then afterTo W H X F s M R M.length else []
theorem afterTo_len (W H : Int) (X F : List Int) (s : Int) (M R : List Int) : ∀ j, (afterTo W H X F s M R j).length ≤ X.length
  | 0 => canBe_len _ _ _ _ _
  | j + 1 => Nat.le_trans (cross_len _ _) (afterTo_len W H X F s M R j)
theorem after_len (W H : Int) (X F : List Int) (s : Int) (M R : List Int) : (after W H X F s M R).length ≤ X.length := by
  unfold after; split
  · exact afterTo_len _ _ _ _ _ _ _ _
  · simp
theorem afterTo_no {W H : Int} {X F : List Int} {s : Int} {M R : List Int} (h : ¬ isLand W H X = true) : ∀ j, afterTo W H X F s M R j = []
  | 0 => canBe_no h
  | j + 1 => by show crossOf _ _ = _; rw [afterTo_no h j]; rfl
/-- The word of the clue: the walk first, then the sights. -/
def clueW (W H : Int) (X F : List Int) (s : Int) (M R : List Int) : Nat → Nat
  | 0 => walkW W H X F s
  | j + 1 => sightW W H X (M.getD j 0) (R.getD j 0)
theorem els_cross (p q : Nat) : crossOf (els p) (els q) = els (p &&& q) := by
  unfold crossOf els
  rw [List.filter_map, List.filter_filter]
  congr 1
  apply List.filter_congr
  intro n hn
  rw [List.mem_range] at hn
  rw [Nat.testBit_and]
  rw [Bool.eq_iff_iff]
  simp only [Function.comp_apply, Bool.and_eq_true, decide_eq_true_eq, List.mem_map, List.mem_filter, List.mem_range]
  constructor
  · rintro ⟨⟨m, ⟨hm, hq⟩, e⟩, hp⟩
    have : m = n := by omega
    subst this
    exact ⟨hp, hq⟩
  · rintro ⟨hp, hq⟩
    exact ⟨⟨n, ⟨hn, hq⟩, rfl⟩, hp⟩
theorem fold_in (op : Nat) (g : Nat → Nat) : ∀ j, foldW op g j &&& op = foldW op g j
  | 0 => Nat.and_self _
  | j + 1 => by
    show (foldW op g j &&& g j) &&& op = _
    rw [Nat.and_assoc, Nat.and_comm (g j) op, ← Nat.and_assoc, fold_in op g j]; rfl
theorem after_els {W H : Int} {X F : List Int} {s : Int} {M R : List Int} (hL : isLand W H X = true) : ∀ j, els (foldW (opW X) (clueW W H X F s M R) (j + 1)) = afterTo W H X F s M R j
  | 0 => canBe_els hL
  | j + 1 => by
    show els (foldW (opW X) (clueW W H X F s M R) (j + 1) &&& sightW W H X (M.getD j 0) (R.getD j 0)) = crossOf _ _
    rw [← after_els hL j, ← seen_els hL, els_cross, ← Nat.and_assoc, fold_in]
theorem clue_fold {W H : Int} {X F : List Int} {s : Int} {M R : List Int} (j : Nat) : (if isLand W H X = true then els (foldW (opW X) (clueW W H X F s M R) (j + 1)) else []) = afterTo W H X F s M R j := by
  by_cases hL : isLand W H X = true
  · rw [if_pos hL, after_els hL]
  · rw [if_neg hL, afterTo_no hL]
end Go.Proofs.YtbibkjponadipaaDoor.Pc

namespace Go.Proofs.YtbibkjponadipaaDoor.Pc
open Go.RowKit Kit Rw Ld Bfs Wf

theorem info_intS : (Tryd.prog.info? 3).map (fun i => (i.zero, i.size, i.bytes)) = some (some (.int .i64 0), 1, 8) := by kernel_rfl
structure PS (w wr : World) (W H : Int) (v u : Value) (L : List Int) : Prop where
  box : Box wr w.heap.size #[.int .i64 W, .int .i64 H, v] 26
  own : Own .i64 3 wr (w.heap.size + 1) u L
  grown : w.grownBy wr none
section
variable {w wr wy : World} {W H : Int} {v u u' : Value} {L L' : List Int}
theorem PS.on (h : PS w wr W H v u L) (hg : wr.grownBy wy none) : PS w wy W H v u L := ⟨h.box.grown hg, h.own.grown hg, grownN_trans h.grown hg⟩
theorem PS.more (h : PS w wr W H v u L) (ho : Own .i64 3 wy (w.heap.size + 1) u' L') (hg : wr.grownBy wy u.ownBlock) : PS w wy W H v u' L' :=
  ⟨h.box.kept hg (h.own.off (Nat.lt_succ_self _)), ho, grown_new h.grown hg (fun c hc => by have := h.own.lt c hc; omega)⟩
theorem PS.start (w : World) (W H : Int) (v : Value) : PS w ((w.alloc (.cells #[.int .i64 W, .int .i64 H, v] 26 (0, 0))).alloc (.cells #[] 3 (0, 0))) W H v (.slice (some ⟨w.heap.size + 1, 0, none⟩) 0 0) [] :=
  ⟨(box_new w #[.int .i64 W, .int .i64 H, v] 26).grown (World.grownBy_alloc _ _ _), by have := own_empty (k := .i64) (E := 3) (w.alloc (.cells #[.int .i64 W, .int .i64 H, v] 26 (0, 0))); simpa using this, grownN_trans (World.grownBy_alloc _ _ _) (World.grownBy_alloc _ _ _)⟩
theorem PS.cells (h : PS w wr W H v u L) : wr.cell? ⟨w.heap.size, 0, none⟩ = some (.int .i64 W) ∧ wr.cell? ⟨w.heap.size, 1, none⟩ = some (.int .i64 H) ∧ wr.cell? ⟨w.heap.size, 2, none⟩ = some v := ⟨h.box.cell 0, h.box.cell 1, h.box.cell 2⟩
end
theorem seenTo_next (W H : Int) (X : List Int) (m f : Int) (k : Nat) : seenTo W H X m f (k + 1) = seenTo W H X m f k ++ (if seesB W H X m f k = true then [(k : Int)] else []) := filt_next _ _
theorem canBeTo_next (W H : Int) (X F : List Int) (s : Int) (k : Nat) : canBeTo W H X F s (k + 1) = canBeTo W H X F s k ++ (if withinB W H X F s k = true then [(k : Int)] else []) := filt_next _ _
noncomputable def anyTo (W H : Int) (X F : List Int) (s : Int) (k j : Nat) : Bool := (List.range j).any fun i => decide (0 ≤ daysOf W H X (F.getD i 0) k ∧ daysOf W H X (F.getD i 0) k ≤ s)
theorem anyTo_next (W H : Int) (X F : List Int) (s : Int) (k j : Nat) : anyTo W H X F s k (j + 1) = (anyTo W H X F s k j || decide (0 ≤ daysOf W H X (F.getD j 0) k ∧ daysOf W H X (F.getD j 0) k ≤ s)) := by
  unfold anyTo; rw [List.range_succ, List.any_append]; simp
theorem anyTo_all (W H : Int) (X F : List Int) (s : Int) (k : Nat) : anyTo W H X F s k F.length = withinB W H X F s k := by
  unfold anyTo withinB
  rw [Bool.eq_iff_iff, List.any_eq_true, List.any_eq_true]
  constructor
  · rintro ⟨i, hi, h⟩
    rw [List.mem_range] at hi
    exact ⟨F.getD i 0, by rw [List.getD_eq_getElem?_getD, List.getElem?_eq_getElem hi]; exact List.getElem_mem hi, h⟩
  · rintro ⟨f, hf, h⟩
    obtain ⟨i, hi, rfl⟩ := List.getElem_of_mem hf
    exact ⟨i, List.mem_range.2 hi, by rw [List.getD_eq_getElem?_getD, List.getElem?_eq_getElem hi]; exact h⟩
theorem within_closed {W H : Int} {X F : List Int} {s : Int} {k : Nat} (h : isOpen W H X k = false) : withinB W H X F s k = false := by
  unfold withinB
  rw [List.any_eq_false]
  intro f hf
  simp only [decide_eq_true_eq]
  rintro ⟨h0, _⟩
  have := (days_at h0).2.1
  rw [h] at this
  cases this

end Go.Proofs.YtbibkjponadipaaDoor.Pc

namespace Go.Proofs.YtbibkjponadipaaDoor.Pc
open Go.RowKit Kit Rw Rg Ld Bfs Wf Cros

theorem filt_asc (f : Nat → Bool) (k : Nat) : (((List.range k).filter f).map (fun n : Nat => (n : Int))).Pairwise (· < ·) := by
  rw [List.pairwise_map]
  refine List.Pairwise.imp (fun {a b} h => by omega) ((List.pairwise_lt_range).filter f)
theorem canBe_asc (W H : Int) (X F : List Int) (s : Int) : (canBe W H X F s).Pairwise (· < ·) := by
  unfold canBe; split
  · exact filt_asc _ _
  · exact List.Pairwise.nil
theorem mem_canBe {W H : Int} {X F : List Int} {s a : Int} : a ∈ canBe W H X F s ↔ isLand W H X = true ∧ 0 ≤ s ∧ ∃ n : Nat, a = n ∧ n < X.length ∧ withinB W H X F s n = true := by
  unfold canBe
  by_cases h : isLand W H X = true ∧ 0 ≤ s
  · rw [if_pos h]
    unfold canBeTo
    simp only [List.mem_map, List.mem_filter, List.mem_range]
    constructor
    · rintro ⟨n, ⟨h1, h2⟩, rfl⟩; exact ⟨h.1, h.2, n, rfl, h1, h2⟩
    · rintro ⟨_, _, n, rfl, h1, h2⟩; exact ⟨n, ⟨h1, h2⟩, rfl⟩
  · rw [if_neg h]
    constructor
    · intro h2; cases h2
    · rintro ⟨h1, h2, _⟩; exact absurd ⟨h1, h2⟩ h
theorem mem_seen {W H : Int} {X : List Int} {m f a : Int} : a ∈ seen W H X m f ↔ isCell W H X m = true ∧ ∃ n : Nat, a = n ∧ n < X.length ∧ isOpen W H X n = true ∧ apart W H X m n = f := by
  unfold seen
  by_cases h : isCell W H X m = true
  · rw [if_pos h]
    unfold seenTo seesB
    simp only [List.mem_map, List.mem_filter, List.mem_range, Bool.and_eq_true, decide_eq_true_eq]
    constructor
    · rintro ⟨n, ⟨h1, h2, h3⟩, rfl⟩; exact ⟨h, n, rfl, h1, h2, h3⟩
    · rintro ⟨_, n, rfl, h1, h2, h3⟩; exact ⟨n, ⟨h1, h2, h3⟩, rfl⟩
  · rw [if_neg h]
    constructor
    · intro h2; cases h2
    · rintro ⟨h1, _⟩; exact absurd h1 h
theorem canBe_open {W H : Int} {X F : List Int} {s a : Int} (h : a ∈ canBe W H X F s) : isOpen W H X a = true := by
  obtain ⟨_, _, n, rfl, _, hw⟩ := mem_canBe.1 h
  cases ho : isOpen W H X n with
  | true => rfl
  | false => rw [within_closed ho] at hw; cases hw
theorem apart_nn {W H : Int} {X : List Int} {a b : Int} (ha : isCell W H X a = true) (hb : isCell W H X b = true) : 0 ≤ apart W H X a b := by
  unfold apart
  rw [if_pos ⟨ha, hb⟩]
  have h : ∀ x y : Int, 0 ≤ mx (x - y) (y - x) := fun x y => by unfold mx; split <;> omega
  have h1 := h (a % W) (b % W)
  have h2 := h (a / W) (b / W)
  omega
theorem apart_off {W H : Int} {X : List Int} {a b : Int} (ha : ¬ isCell W H X a = true) : apart W H X a b = -1 := by
  unfold apart
  rw [if_neg (fun h => ha h.1)]
/-- Of a cell where one can be: it is seen so far from a mark just when it is that far apart. -/
theorem seen_iff {W H : Int} {X F : List Int} {s a m f : Int} (h : a ∈ canBe W H X F s) : a ∈ seen W H X m f ↔ apart W H X m a = f ∧ 0 ≤ f := by
  have ho := canBe_open h
  have hc := (isOpen_of ho).1
  obtain ⟨_, _, n, rfl, hn, _⟩ := mem_canBe.1 h
  rw [mem_seen]
  constructor
  · rintro ⟨h1, k, e, h2, h3, h4⟩
    rw [e]
    refine ⟨h4, ?_⟩
    rw [← h4, ← e]
    exact apart_nn h1 hc
  · rintro ⟨h1, h2⟩
    have hm : isCell W H X m = true := by
      by_cases hm : isCell W H X m = true
      · exact hm
      · rw [apart_off hm] at h1; omega
    exact ⟨hm, n, rfl, hn, ho, h1⟩
theorem mem_afterTo {W H : Int} {X F : List Int} {s : Int} {M R : List Int} {a : Int} : ∀ j, a ∈ afterTo W H X F s M R j ↔ a ∈ canBe W H X F s ∧ ∀ i, i < j → a ∈ seen W H X (M.getD i 0) (R.getD i 0)
  | 0 => ⟨fun h => ⟨h, fun i hi => absurd hi (Nat.not_lt_zero _)⟩, fun h => h.1⟩
  | j + 1 => by
    show a ∈ crossOf _ _ ↔ _
    unfold crossOf
    rw [List.mem_filter, decide_eq_true_eq, mem_afterTo j]
    constructor
    · rintro ⟨⟨h1, h2⟩, h3⟩
      refine ⟨h1, fun i hi => ?_⟩
      by_cases hij : i = j
      · subst hij; exact h3
      · exact h2 i (by omega)
    · rintro ⟨h1, h2⟩
      exact ⟨⟨h1, fun i hi => h2 i (by omega)⟩, h2 j (by omega)⟩
theorem after_sub {W H : Int} {X F : List Int} {s : Int} {M R : List Int} : ∀ a ∈ after W H X F s M R, a ∈ canBe W H X F s := fun a h => by
  unfold after at h
  split at h
  · exact ((mem_afterTo _).1 h).1
  · cases h
/-- All marks so far are seen as they are told. -/
def allTo (W H : Int) (X M R : List Int) (a : Int) (j : Nat) : Bool := (List.range j).all fun k => decide (apart W H X (M.getD k 0) a = R.getD k 0) && decide (0 ≤ R.getD k 0)
theorem allTo_next (W H : Int) (X M R : List Int) (a : Int) (j : Nat) : allTo W H X M R a (j + 1) = (allTo W H X M R a j && (decide (apart W H X (M.getD j 0) a = R.getD j 0) && decide (0 ≤ R.getD j 0))) := by
  unfold allTo; rw [List.range_succ, List.all_append]; simp
theorem all_after {W H : Int} {X F : List Int} {s : Int} {M R : List Int} {a : Int} (hl : M.length = R.length) (h : a ∈ canBe W H X F s) : allTo W H X M R a M.length = decide (a ∈ after W H X F s M R) := by
  unfold after
  rw [if_pos hl, Bool.eq_iff_iff, decide_eq_true_eq, mem_afterTo]
  unfold allTo
  rw [List.all_eq_true]
  constructor
  · intro h1
    refine ⟨h, fun i hi => (seen_iff h).2 ?_⟩
    have := h1 i (List.mem_range.2 hi)
    simp only [Bool.and_eq_true, decide_eq_true_eq] at this
    exact this
  · rintro ⟨_, h1⟩ k hk
    have := (seen_iff h).1 (h1 k (List.mem_range.1 hk))
    simp only [Bool.and_eq_true, decide_eq_true_eq]
    exact this
theorem after_none {W H : Int} {X F : List Int} {s : Int} {M R : List Int} (h : ¬ M.length = R.length) : after W H X F s M R = [] := by unfold after; rw [if_neg h]
/-- Where one was one can be, and with a step more one can be where one could. -/
theorem canBe_from {W H : Int} {X F : List Int} {s a : Int} (hs : 0 ≤ s) (ha : a ∈ F) (ho : isOpen W H X a = true) : a ∈ canBe W H X F s := by
  obtain ⟨p, q, n, rfl, rfl, rfl, hn, hL, _, _⟩ := open_nat ho
  refine mem_canBe.2 ⟨hL, hs, n, rfl, hn, ?_⟩
  unfold withinB
  rw [List.any_eq_true]
  refine ⟨_, ha, decide_eq_true ?_⟩
  unfold daysOf
  rw [if_pos ⟨ho, ho⟩, (dist_is hL (a := (n : Int)) (by omega) (by omega)).src]
  omega
theorem canBe_more {W H : Int} {X F : List Int} {s t : Int} (hst : s ≤ t) : ∀ a ∈ canBe W H X F s, a ∈ canBe W H X F t := fun a h => by
  obtain ⟨h1, h2, n, rfl, h3, h4⟩ := mem_canBe.1 h
  refine mem_canBe.2 ⟨h1, by omega, n, rfl, h3, ?_⟩
  unfold withinB at h4 ⊢
  rw [List.any_eq_true] at h4 ⊢
  obtain ⟨f, hf, hd⟩ := h4
  have hd := of_decide_eq_true hd
  exact ⟨f, hf, decide_eq_true ⟨hd.1, by omega⟩⟩
end Go.Proofs.YtbibkjponadipaaDoor.Pc

namespace Go.Proofs.YtbibkjponadipaaDoor.Pc
open Go.RowKit Kit Rw Rg Ld Bfs Wf

/-- A clue alone, just written out. -/
theorem seesK_one (w : World) (c : TypeId × Array Value) : SeesG encK (w.alloc (.cells #[.iface c.1 (.agg c.2)] 63 (0, 0))) (.slice (some ⟨w.heap.size, 0, none⟩) 1 1) [c] := seesG_one (e := encK) w c #[.iface c.1 (.agg c.2)] rfl trivial
set_option maxRecDepth 20000 in
set_option maxHeartbeats 4000000 in
theorem iCanBe_any (w : World) (W H s : Int) (v u : Value) (X F : List Int) (hv : Sees .i64 w v X) (hu : Sees .i64 w u F) (hs : -9223372036854775808 ≤ s ∧ s ≤ 9223372036854775807) (hT : TabD w) :
    Calls Tryd.prog 6 #[.agg #[.int .i64 W, .int .i64 H, v], u, .int .i64 s] w fun e w' => ∃ r, e = .returned r ∧ Own .i64 3 w' w.heap.size r (canBe W H X F s) ∧ w.grownBy w' none := by
  obtain ⟨va, vn, vc, rfl, HVN⟩ := hv.shape
  obtain ⟨ua, un, uc, rfl, HUN⟩ := hu.shape
  have g1 := World.grownBy_alloc w (.cells #[.int .i64 W, .int .i64 H, .slice va vn vc] 26 (0, 0)) (none : Option Nat)
  have g2 := grownN_trans g1 (World.grownBy_alloc (w.alloc (.cells #[.int .i64 W, .int .i64 H, .slice va vn vc] 26 (0, 0))) (.cells #[.iface 46 (.agg #[.slice ua un uc, .int .i64 s])] 63 (0, 0)) none)
  have HB := box_new w #[.int .i64 W, .int .i64 H, .slice va vn vc] 26
  have l0 := HB.cell 0
  have l1 := HB.cell 1
  have l2 := HB.cell 2
  simp only [List.getElem?_toArray, List.getElem?_cons_succ, List.getElem?_cons_zero] at l0 l1 l2
  have hsk : SeesG encK ((w.alloc (.cells #[.int .i64 W, .int .i64 H, .slice va vn vc] 26 (0, 0))).alloc (.cells #[.iface 46 (.agg #[.slice ua un uc, .int .i64 s])] 63 (0, 0))) (.slice (some ⟨w.heap.size + 1, 0, none⟩) 1 1) [(46, #[.slice ua un uc, .int .i64 s])] := by
    have h := seesK_one (w.alloc (.cells #[.int .i64 W, .int .i64 H, .slice va vn vc] 26 (0, 0))) (46, #[.slice ua un uc, .int .i64 s])
    rw [World.size_alloc] at h
    exact h
  have HQ := Lib.hid (cellsBy_any _ W H (.slice va vn vc) _ X [(46, #[.slice ua un uc, .int .i64 s])] (fun _ => walkW W H X F s) (hv.grown g2) hsk (fun _ j hj => by
    have hj0 : j = 0 := by simp at hj; exact hj
    subst hj0
    exact .inl ⟨ua, un, uc, s, F, rfl, hu.grown g2, hs, rfl⟩) ((tab_of hT).grown g2))
  have HR : Hid ((if isLand W H X = true then els (foldW (opW X) (fun _ => walkW W H X F s) 1) else []) = canBe W H X F s) := by
    show _ = _
    by_cases hL : isLand W H X = true
    · rw [if_pos hL]; exact canBe_els hL
    · rw [if_neg hL, canBe_no hL]
  have HG2 := Lib.hid g2
  clear g1 g2 hv hu hT HB hs hsk
  go_enter Tryd.func6, Tryd.ntmps6
  go_wp2_with fail
  refine HQ.out.mono ?_
  rintro e w6 ⟨r, rfl, ho, hg⟩
  have HO := Lib.hid ho
  have HG := Lib.hid (grownN_trans HG2.out hg)
  clear ho hg l0 l1 l2
  go_wp2
  go_ret
  exact ⟨_, rfl, by rw [← HR.out]; exact HO.out.lower HG2.out.size, HG.out⟩
end Go.Proofs.YtbibkjponadipaaDoor.Pc

namespace Go.Proofs.YtbibkjponadipaaDoor.Pc
open Go.RowKit Kit Rw Rg Ld Bfs Wf Cros

theorem info_clue : (Tryd.prog.info? 63).map (fun i => (i.zero, i.size, i.bytes)) = some (some .nilIface, 1, 16) := by kernel_rfl
def clues (u : Value) (s : Int) (M R : List Int) (j : Nat) : List (TypeId × Array Value) := (46, #[u, .int .i64 s]) :: (List.range j).map (fun i => (49, #[.int .i64 (M.getD i 0), .int .i64 (R.getD i 0)]))
theorem clues_next (u : Value) (s : Int) (M R : List Int) (j : Nat) : clues u s M R (j + 1) = clues u s M R j ++ [(49, #[.int .i64 (M.getD j 0), .int .i64 (R.getD j 0)])] := by
  unfold clues
  rw [List.range_succ, List.map_append]; rfl
theorem clues_len (u : Value) (s : Int) (M R : List Int) (j : Nat) : (clues u s M R j).length = j + 1 := by simp [clues]
theorem clues_at {w : World} {W H s : Int} {X F M R : List Int} {a : Option Addr} {n c k : Nat} (hx : Sees .i64 w (.slice a n c) F) (hs : -9223372036854775808 ≤ s ∧ s ≤ 9223372036854775807) : ∀ j, j < (clues (.slice a n c) s M R k).length → ClueP w W H X ((clues (.slice a n c) s M R k).getD j (0, #[])) (clueW W H X F s M R j)
  | 0, _ => .inl ⟨a, n, c, s, F, rfl, hx, hs, rfl⟩
  | j + 1, hj => by
    rw [clues_len] at hj
    refine .inr ⟨M.getD j 0, R.getD j 0, ?_, rfl⟩
    unfold clues
    rw [List.getD_cons_succ, List.getD_eq_getElem?_getD, List.getElem?_map, List.getElem?_range (by omega)]
    rfl
theorem ownK_one (w : World) (c : TypeId × Array Value) : OwnG encK 63 (w.alloc (.cells #[.iface c.1 (.agg c.2)] 63 (0, 0))) w.heap.size (.slice (some ⟨w.heap.size, 0, none⟩) 1 1) [c] :=
  ⟨⟨rfl, .inr ⟨w.heap.size, 1, #[.iface c.1 (.agg c.2)], rfl, Nat.le_refl _, heap_alloc_new w _, by simp, by unfold maxLen; omega, by simp [encK], rfl⟩⟩, fun y _ => trivial⟩

set_option maxRecDepth 20000 in
set_option maxHeartbeats 8000000 in
theorem iAfter_any (w : World) (W H s : Int) (v u m r : Value) (X F M R : List Int) (hv : Sees .i64 w v X) (hu : Sees .i64 w u F) (hm : Sees .i64 w m M) (hr : Sees .i64 w r R) (hs : -9223372036854775808 ≤ s ∧ s ≤ 9223372036854775807) (hn : M.length ≤ 100000000) (hT : TabD w) :
    Calls Tryd.prog 7 #[.agg #[.int .i64 W, .int .i64 H, v], u, .int .i64 s, m, r] w fun e w' => ∃ t, e = .returned t ∧ Own .i64 3 w' w.heap.size t (after W H X F s M R) ∧ w.grownBy w' none := by
  obtain ⟨i0, hi, hz0, hz1, hz2⟩ := info_parts info_clue
  obtain ⟨va, vn, vc, rfl, HVN⟩ := hv.shape
  obtain ⟨ua, un, uc, rfl, HUN⟩ := hu.shape
  obtain ⟨ma, mn, mc, rfl, HMN⟩ := hm.shape
  obtain ⟨ra, rn, rc, rfl, HRN⟩ := hr.shape
  have HML : Hid (mn ≤ 100000000) := by show _ ≤ _; rw [← HMN.out]; exact hn
  have g1 := World.grownBy_alloc w (.cells #[.int .i64 W, .int .i64 H, .slice va vn vc] 26 (0, 0)) (none : Option Nat)
  have HG1 := Lib.hid g1
  have HB1 := Lib.hid (box_new w #[.int .i64 W, .int .i64 H, .slice va vn vc] 26)
  have HSZ : Hid ((w.alloc (.cells #[.int .i64 W, .int .i64 H, .slice va vn vc] 26 (0, 0))).heap.size = w.heap.size + 1) := by show _ = _; simp
  have HV := Lib.hid hv
  have HU := Lib.hid hu
  have HM := Lib.hid hm
  have HR := Lib.hid hr
  have HT := Lib.hid (tab_of hT)
  have HSS := Lib.hid hs
  have l0 := HB1.out.cell 0
  have l1 := HB1.out.cell 1
  have l2 := HB1.out.cell 2
  simp only [List.getElem?_toArray, List.getElem?_cons_succ, List.getElem?_cons_zero] at l0 l1 l2
  clear hv hu hm hr hn g1 hT hs
  go_enter Tryd.func7, Tryd.ntmps7
  by_cases hmr : mn = rn
  · subst hmr
    have HR9 : Hid (after W H X F s M R = afterTo W H X F s M R mn) := by show _ = _; unfold after; rw [if_pos (by rw [HMN.out, HRN.out]), HMN.out]
    have hbe : ((mn : Int) != (mn : Int)) = false := by simp
    have HO1 : Hid (OwnG encK 63 ((w.alloc (.cells #[.int .i64 W, .int .i64 H, .slice va vn vc] 26 (0, 0))).alloc (.cells #[.iface 46 (.agg #[.slice ua un uc, .int .i64 s])] 63 (0, 0))) (w.heap.size + 1) (.slice (some ⟨w.heap.size + 1, 0, none⟩) 1 1) (clues (.slice ua un uc) s M R 0)) := by
      have h := ownK_one (w.alloc (.cells #[.int .i64 W, .int .i64 H, .slice va vn vc] 26 (0, 0))) (46, #[.slice ua un uc, .int .i64 s])
      rw [HSZ.out] at h
      exact h
    have HG2 := Lib.hid (World.grownBy_alloc (w.alloc (.cells #[.int .i64 W, .int .i64 H, .slice va vn vc] 26 (0, 0))) (.cells #[.iface 46 (.agg #[.slice ua un uc, .int .i64 s])] 63 (0, 0)) none)
    go_wp2_with fail
    generalize (w.alloc (.cells #[.int .i64 W, .int .i64 H, .slice va vn vc] 26 (0, 0))).alloc (.cells #[.iface 46 (.agg #[.slice ua un uc, .int .i64 s])] 63 (0, 0)) = W2 at *
    generalize w.alloc (.cells #[.int .i64 W, .int .i64 H, .slice va vn vc] 26 (0, 0)) = W1 at *
    have HGX := Lib.hid (grownN_trans HG1.out HG2.out)
    clear l0 l1 l2
    go_loopw [11, 27] (fun t i wr => ∃ j : Nat, j ≤ mn ∧ i = .int .i64 j ∧ Hid (OwnG encK 63 wr (w.heap.size + 1) t (clues (.slice ua un uc) s M R j)) ∧ Hid (W1.grownBy wr none) ∧ Hid (w.heap.size + 1 ≤ wr.heap.size)) (fun _ i _ => mn - (intOf i).toNat)
    case atStart => exact ⟨0, Nat.zero_le _, rfl, HO1, HG2, by show _ ≤ _; have h1 := HG2.out.size; have h2 := HSZ.out; omega⟩
    case round =>
      rename_i _ _ wr
      obtain ⟨tt, htt⟩ : ∃ tt, tt = u11 := ⟨_, rfl⟩
      obtain ⟨j, hj, rfl, HO, HG, HZ⟩ := hrel
      rw [← htt] at HO ⊢
      clear htt
      by_cases hlt : j < mn
      · have hml := HML.out
        have hjI : (j : Int) < (mn : Int) := by omega
        have hj0 : (0 : Int) ≤ (j : Int) := by omega
        obtain ⟨a, ha⟩ : ∃ a, a = M.getD j 0 := ⟨_, rfl⟩
        obtain ⟨b, hb⟩ : ∃ b, b = R.getD j 0 := ⟨_, rfl⟩
        obtain ⟨mb, mo, rfl, _⟩ := HM.out.at_row (j := j) (by rw [HMN.out]; exact hlt)
        obtain ⟨rb, ro, rfl, _⟩ := HR.out.at_row (j := j) (by rw [HRN.out]; exact hlt)
        have c1 : wr.cell? ⟨mb, mo + j, none⟩ = some (.int .i64 a) := by rw [ha]; exact (HM.out.grown (grownN_trans HG1.out HG.out)).at' (by rw [HMN.out]; exact hlt)
        have c2 : wr.cell? ⟨rb, ro + j, none⟩ = some (.int .i64 b) := by rw [hb]; exact (HR.out.grown (grownN_trans HG1.out HG.out)).at' (by rw [HRN.out]; exact hlt)
        have HNX : Hid (clues (.slice ua un uc) s M R (j + 1) = clues (.slice ua un uc) s M R j ++ [(49, #[.int .i64 a, .int .i64 b])]) := by show _ = _; rw [clues_next, ha, hb]
        have HLN := Lib.hid (clues_len (.slice ua un uc) s M R j)
        clear ha hb
        go_wp2_with (at_builtin; go_loud (refine wpListG_append_one _ rfl _ _ 47 rfl (w.heap.size + 1) 63 i0 .nilIface 16 Tryd.underlying47 hi hz0 hz1 hz2 rfl _ (clues (.slice ua un uc) s M R j) rfl HO.out (49, #[.int .i64 a, .int .i64 b]) #[.iface 49 (.agg #[.int .i64 a, .int .i64 b])] rfl rfl trivial (by have := HLN.out; omega) (by decide) HZ.out ?_); intro v6 w6 hown6 hgrow6 _; have HO6 := Lib.hid hown6; have HG6 : Hid (W1.grownBy w6 none) := grown_new HG.out hgrow6 (fun c hc => by have h1 := (HO.out.lt c hc).1; have h2 := HSZ.out; omega); have HZ6 : Hid (w.heap.size + 1 ≤ w6.heap.size) := Nat.le_trans HZ.out hgrow6.size; clear hown6 hgrow6)
        go_roundw
        case rel => exact ⟨j + 1, by omega, by go_num, by rw [HNX.out]; exact HO6, HG6, HZ6⟩
        case measure => simp [intOf]; omega
      · have hju : mn = j := by omega
        subst hju
        have HGY := Lib.hid (grownN_trans HG1.out HG.out)
        have HBy := HB1.out.grown HG.out
        have l0 := HBy.cell 0
        have l1 := HBy.cell 1
        have l2 := HBy.cell 2
        simp only [List.getElem?_toArray, List.getElem?_cons_succ, List.getElem?_cons_zero] at l0 l1 l2
        have HQ := Lib.hid (cellsBy_any wr W H (.slice va vn vc) tt X (clues (.slice ua un uc) s M R mn) (clueW W H X F s M R) (HV.out.grown HGY.out) HO.out.sees (fun _ => clues_at (HU.out.grown HGY.out) HSS.out) (HT.out.grown HGY.out))
        rw [clues_len, clue_fold] at HQ
        clear HBy
        go_wp2_with fail
        refine HQ.out.mono ?_
        rintro e w6 ⟨t, rfl, ho, hg⟩
        have HO6 := Lib.hid ho
        have HG6 := Lib.hid (grownN_trans HGY.out hg)
        clear ho hg l0 l1 l2
        go_wp2
        go_ret
        exact ⟨t, rfl, by rw [HR9.out]; exact HO6.out.lower HGY.out.size, HG6.out⟩
  · have HR9 : Hid (after W H X F s M R = []) := by show _ = _; unfold after; rw [if_neg (by rw [HMN.out, HRN.out]; exact hmr)]
    have hbe : ((mn : Int) != (rn : Int)) = true := by simp; omega
    go_wp2
    go_ret
    have ho := own_empty (k := .i64) (E := 3) (w.alloc (.cells #[.int .i64 W, .int .i64 H, .slice va vn vc] 26 (0, 0)))
    rw [HSZ.out] at ho
    exact ⟨_, rfl, by rw [HR9.out]; exact ho.lower (Nat.le_succ _), grownN_trans HG1.out (World.grownBy_alloc _ _ _)⟩
end Go.Proofs.YtbibkjponadipaaDoor.Pc

namespace Go.Proofs.YtbibkjponadipaaDoor.Same
open Go.RowKit Kit Rw

theorem pair_lt {L : List Int} (h : L.Pairwise (· < ·)) {j : Nat} (h0 : 0 < j) (hj : j < L.length) : L.getD (j - 1) 0 < L.getD j 0 := by
  have := List.pairwise_iff_getElem.1 h (j - 1) j (by omega) hj (by omega)
  simpa [hj, show j - 1 < L.length by omega] using this
set_option maxHeartbeats 1000000 in
theorem asc_any (w : World) (u : Value) (L : List Int) (hu : Sees .i64 w u L) (hp : L.Pairwise (· < ·)) :
    Calls Tryd.prog 8 #[u] w fun e w' => e = .returned (.bool true) ∧ w.grownBy w' none := by
  have hl := hu.len
  obtain ⟨a, n, cap, rfl, HN⟩ := hu.shape
  have HU := Lib.hid hu
  have HP := Lib.hid hp
  have hl2 : n ≤ 9223372036854775807 := by rw [← HN.out]; exact hl
  clear hu hl hp
  go_enter Tryd.func8, Tryd.ntmps8
  go_wp2
  go_loopw [3] (fun i wr => ∃ j : Nat, 0 < j ∧ j ≤ n + 1 ∧ i = .int .i64 j ∧ Hid (w.grownBy wr none)) (fun i _ => n + 1 - (intOf i).toNat)
  case atStart => exact ⟨1, by omega, by omega, rfl, World.grownBy.refl _ _⟩
  case round =>
    obtain ⟨j, h0, hj, rfl, HG⟩ := hrel
    by_cases hlt : j < n
    · obtain ⟨k, hk⟩ : ∃ k, j = k + 1 := ⟨j - 1, by omega⟩
      subst hk
      have hs := HU.out.grown HG.out
      obtain ⟨b, o, rfl, hc1⟩ := hs.at_row (j := k + 1) (by rw [HN.out]; exact hlt)
      have hc0 := hs.at' (j := k) (by rw [HN.out]; omega)
      have hlt2 := pair_lt HP.out h0 (by rw [HN.out]; exact hlt)
      rw [Nat.add_sub_cancel] at hlt2
      generalize L.getD (k + 1) 0 = y at *
      generalize L.getD k 0 = x at *
      have hw : IntKind.i64.wrap (((k + 1 : Nat) : Int) - 1) = (k : Int) := by rw [IntWalk.i64_in _ (by omega)]; omega
      clear hs
      go_wp2
      go_quiet (fail)
      clear hw
      go_wp2
      go_roundw
      case rel => exact ⟨k + 2, by omega, by omega, by go_num, grown_drewN HG.out _⟩
      case measure => simp [intOf]; omega
    · go_wp2
      go_ret
      exact ⟨rfl, HG.out⟩
end Go.Proofs.YtbibkjponadipaaDoor.Same

namespace Go.Proofs.YtbibkjponadipaaDoor.Same
open Go.RowKit Kit Rw

set_option maxHeartbeats 1000000 in
theorem has_any (w : World) (u : Value) (x : Int) (L : List Int) (hu : Sees .i64 w u L) :
    Calls Tryd.prog 11 #[u, .int .i64 x] w fun e w' => e = .returned (.bool (decide (x ∈ L))) ∧ w' = w := by
  have hl := hu.len
  obtain ⟨a, n, cap, rfl, HN⟩ := hu.shape
  have HU := Lib.hid hu
  have hl2 : n ≤ 9223372036854775807 := by rw [← HN.out]; exact hl
  clear hu hl
  go_enter Tryd.func11, Tryd.ntmps11
  go_wp2
  go_loop [5] (fun i => ∃ j : Nat, j ≤ n ∧ i = .int .i64 j ∧ Hid (∀ m, m < j → L.getD m 0 ≠ x)) (fun i => n - (intOf i).toNat)
  case atStart => exact ⟨0, Nat.zero_le _, rfl, fun m hm => absurd hm (Nat.not_lt_zero _)⟩
  case round =>
    obtain ⟨j, hj, rfl, HE⟩ := hrel
    by_cases hlt : j < n
    · obtain ⟨y, hy⟩ : ∃ y, y = L.getD j 0 := ⟨_, rfl⟩
      obtain ⟨b, o, rfl, hcj⟩ := HU.out.at_row (j := j) (by rw [HN.out]; exact hlt)
      rw [← hy] at hcj
      have HY := Lib.hid hy
      clear hy
      by_cases hne : y = x
      · have hm : x ∈ L := by
          rw [← hne, HY.out]; exact mem_getD (by rw [HN.out]; exact hlt)
        have HM : Hid (decide (x ∈ L) = true) := by show _ = _; simpa using hm
        clear hm
        go_wp2
        go_ret
        exact ⟨ret_bool HM.out.symm, rfl⟩
      · go_wp2
        go_round
        case rel =>
          refine ⟨j + 1, by omega, by go_num, fun m hm => ?_⟩
          by_cases h : m = j
          · subst h; rw [← HY.out]; exact hne
          · exact HE.out m (by omega)
        case measure => simp [intOf]; omega
    · have hjn : n = j := by omega
      subst hjn
      have hm : ¬ x ∈ L := by
        intro h
        obtain ⟨j, hj, e⟩ := List.getElem_of_mem h
        exact HE.out j (by rw [← HN.out]; exact hj) (by simp [hj, e])
      have HM : Hid (decide (x ∈ L) = false) := by show _ = _; simpa using hm
      clear hm
      go_wp2
      go_ret
      exact ⟨ret_bool HM.out.symm, rfl⟩
end Go.Proofs.YtbibkjponadipaaDoor.Same

namespace Go.Proofs.YtbibkjponadipaaDoor.Same
open Go.RowKit Kit Rw

set_option maxHeartbeats 1000000 in
theorem within_any (w : World) (u v : Value) (L M : List Int) (hu : Sees .i64 w u L) (hv : Sees .i64 w v M) (hp : ∀ x ∈ L, x ∈ M) :
    Calls Tryd.prog 9 #[u, v] w fun e w' => e = .returned (.bool true) ∧ w' = w := by
  have hl := hu.len
  obtain ⟨a, n, cap, rfl, HN⟩ := hu.shape
  have HU := Lib.hid hu
  have HV := Lib.hid hv
  have HP := Lib.hid hp
  have hl2 : n ≤ 9223372036854775807 := by rw [← HN.out]; exact hl
  clear hu hl hp hv
  go_enter Tryd.func9, Tryd.ntmps9
  go_wp2
  go_loop [5] (fun i => ∃ j : Nat, j ≤ n ∧ i = .int .i64 j) (fun i => n - (intOf i).toNat)
  case atStart => exact ⟨0, Nat.zero_le _, rfl⟩
  case round =>
    obtain ⟨j, hj, rfl⟩ := hrel
    by_cases hlt : j < n
    · have hm := HP.out _ (mem_getD (L := L) (j := j) (by rw [HN.out]; exact hlt))
      obtain ⟨b, o, rfl, hcj⟩ := HU.out.at_row (j := j) (by rw [HN.out]; exact hlt)
      generalize L.getD j 0 = y at *
      have HM : Hid (decide (y ∈ M) = true) := by show _ = _; simpa using hm
      clear hm
      go_wp2_with fail
      refine (has_any w v y M HV.out).mono ?_
      rintro e w' ⟨rfl, rfl⟩
      rw [HM.out]
      go_wp2
      go_round
      case rel => exact ⟨j + 1, by omega, by go_num⟩
      case measure => simp [intOf]; omega
    · go_wp2
      go_ret
      exact ⟨rfl, rfl⟩
end Go.Proofs.YtbibkjponadipaaDoor.Same

namespace Go.Proofs.YtbibkjponadipaaDoor.Same
open Go.RowKit Kit Rw

theorem big_any (w : World) (a : Option Addr) (len cap : Nat) (hl : len ≤ 9223372036854775807) :
    Calls Tryd.prog 4 #[.slice a len cap] w fun e w' => e = .returned (.bool (decide (1048576 < len))) ∧ w = w' := by
  by_cases h : (1048576 : Int) < (len : Int)
  · go_enter Tryd.func4, Tryd.ntmps4
    go_wp2
    go_ret
    exact ⟨ret_bool (by symm; rw [decide_eq_true_iff]; omega), rfl⟩
  · go_enter Tryd.func4, Tryd.ntmps4
    go_wp2
    go_ret
    exact ⟨ret_bool (by symm; rw [decide_eq_false_iff_not]; omega), rfl⟩
end Go.Proofs.YtbibkjponadipaaDoor.Same
