/- Contracts of the days from one cell to each other one, kept in an array. -/
import Derived.Test.YtbgbnbnfmlpemaaWayI
import Derived.Test.YtbgbnbnfmlpemaaWayF
import Derived.IntWalk
import Derived.Deep.RegionHeld3
namespace Go.Proofs.Ytbgbnbnfmlpemaa.Awy
open Go.RowKit Kit Rw Ld Gr GrI Bfs Wf Sr LandI WayI

def cellsI (L : List Int) : Array Value := (L.map (Value.int .i64)).toArray
theorem cellsI_get {L : List Int} {j : Nat} (h : j < L.length) : (cellsI L)[j]? = some (.int .i64 (L.getD j 0)) := by simp [cellsI, h]
theorem cellsI_set (L : List Int) (j : Nat) (x : Int) : (cellsI L).setIfInBounds j (.int .i64 x) = cellsI (L.set j x) := by
  unfold cellsI
  rw [List.setIfInBounds_toArray, List.map_set]
/-- The days of the first k cells; -1 for the others. -/
noncomputable def awTo (W H : Int) (X : List Int) (a : Int) (k : Nat) : List Int := (List.range 64).map fun m => if m < k then daysOf W H X a (m : Int) else -1
theorem awTo_len (W H : Int) (X : List Int) (a : Int) (k : Nat) : (awTo W H X a k).length = 64 := by simp [awTo]
theorem awTo_set {W H : Int} {X : List Int} {a : Int} {k : Nat} (hk : k < 64) : (awTo W H X a k).set k (daysOf W H X a (k : Int)) = awTo W H X a (k + 1) := by
  apply List.ext_getElem?
  intro i
  rw [List.getElem?_set]
  by_cases e : k = i
  · subst e; simp [awTo, hk]
  · rw [if_neg e]
    by_cases hi : i < 64
    · have h1 : (i < k + 1) = (i < k) := by rw [eq_iff_iff]; omega
      simp [awTo, hi, h1]
    · simp [awTo, hi]
def minus (k : Nat) : List Int := List.replicate k (-1) ++ List.replicate (64 - k) 0
theorem minus_len {k : Nat} (h : k ≤ 64) : (minus k).length = 64 := by simp [minus]; omega
theorem minus_set {k : Nat} (hk : k < 64) : (minus k).set k (-1) = minus (k + 1) := by
  unfold minus
  obtain ⟨m, hm⟩ : ∃ m, 64 - k = m + 1 := ⟨63 - k, by omega⟩
  rw [hm, show 64 - (k + 1) = m by omega, List.set_append, List.length_replicate, if_neg (by omega), Nat.sub_self, List.replicate_succ (n := m), List.set_cons_zero, List.replicate_succ' (n := k), List.append_assoc]
  rfl
theorem minus_all (W H : Int) (X : List Int) (a : Int) : minus 64 = awTo W H X a 0 := by
  unfold minus awTo
  rw [show 64 - 64 = 0 from rfl, List.replicate_zero, List.append_nil]
  refine (List.eq_replicate_iff.2 ⟨by simp, fun b hb => ?_⟩).symm
  rw [List.mem_map] at hb
  obtain ⟨m, _, rfl⟩ := hb
  rw [if_neg (by omega)]
theorem days_out {W H : Int} {X : List Int} {a b : Int} (h : ¬ (0 ≤ b ∧ b < (X.length : Int))) : daysOf W H X a b = -1 := by
  unfold daysOf
  rw [if_neg]
  intro hq
  have := (isCell_of (isOpen_of hq.2).1).2
  exact h this
theorem days_closed {W H : Int} {X : List Int} {a b : Int} (h : isOpen W H X a = false) : daysOf W H X a b = -1 := by
  unfold daysOf
  rw [if_neg (fun hq => by rw [h] at hq; cases hq.1)]
theorem awTo_closed {W H : Int} {X : List Int} {a : Int} (h : isOpen W H X a = false) (j k : Nat) : awTo W H X a j = awTo W H X a k := by
  unfold awTo
  congr 1
  funext m
  rw [days_closed h]; simp
theorem awTo_full {W H : Int} {X : List Int} {a : Int} {k : Nat} (hk : X.length ≤ k) : awTo W H X a k = awTo W H X a 64 := by
  unfold awTo
  apply List.map_congr_left
  intro m hm
  rw [List.mem_range] at hm
  by_cases h : m < X.length
  · rw [if_pos (by omega), if_pos hm]
  · rw [days_out (by omega)]; simp
theorem awTo_get {W H : Int} {X : List Int} {a : Int} {m : Nat} (h : m < 64) : (awTo W H X a 64).getD m 0 = daysOf W H X a (m : Int) := by simp [awTo, h]
/-- Where daysAwayFrom stands: the land in its box, the array behind it. -/
structure AS (w wr : World) (W H : Int) (v : Value) (X L : List Int) : Prop where
  land : Box wr w.heap.size #[.int .i64 W, .int .i64 H, v] 27
  row : Box wr (w.heap.size + 1) (cellsI L) 75
  sees : Sees .i64 wr v X
  grown : w.grownBy wr none
theorem AS.on {w wr wy : World} {W H : Int} {v : Value} {X L : List Int} (h : AS w wr W H v X L) (hg : wr.grownBy wy none) : AS w wy W H v X L := ⟨h.land.grown hg, h.row.grown hg, h.sees.grown hg, grownN_trans h.grown hg⟩
theorem AS.set {w wr : World} {W H : Int} {v : Value} {X L : List Int} (h : AS w wr W H v X L) (hv : v.ownBlock = none ∨ v.ownBlock ≠ some (w.heap.size + 1)) (j : Nat) (x : Int) : AS w (wr.setCell ⟨w.heap.size + 1, j, none⟩ (.int .i64 x)) W H v X (L.set j x) := by
  have hg := grown_set wr (w.heap.size + 1) j (.int .i64 x)
  refine ⟨h.land.kept hg (by simp), ?_, h.sees.kept hg hv, grown_new h.grown hg (fun g e => by injection e with e; omega)⟩
  have := box_set h.row j (.int .i64 x)
  rwa [cellsI_set] at this

theorem AS.put {w wr : World} {W H : Int} {v : Value} {X L : List Int} (h : AS w wr W H v X L) {j : Nat} (hj : j < L.length) : wr.cell? ⟨w.heap.size + 1, j, none⟩ = some (.int .i64 (L.getD j 0)) ∧ wr.frozen? ⟨w.heap.size + 1, j, none⟩ = false := ⟨(h.row.cell j).trans (cellsI_get hj), h.row.free j⟩
theorem days_at {p h n k : Nat} {X : List Int} (hA : isOpen p h X n = true) (hL : isLand p h X = true) (hn : n < X.length) (hk : k < X.length) : daysOf p h X n (k : Int) = at' (distL p X n) (k : Int) := by
  unfold daysOf
  by_cases ho : isOpen p h X (k : Int) = true
  · rw [if_pos ⟨hA, ho⟩]
  · rw [if_neg (fun q => ho q.2)]
    have hd := dist_is hL (a := (n : Int)) (by omega) (by omega)
    have hlow := hd.low (k : Int) (by omega) (by omega)
    by_cases c : 0 ≤ at' (distL p X n) (k : Int)
    · exfalso
      by_cases e : (k : Int) = n
      · rw [e] at ho; exact ho hA
      · obtain ⟨m, m0, m1, _, m3, _⟩ := hd.pre (k : Int) (by omega) (by omega) e c
        obtain ⟨_, _, h2⟩ := near_in hL m0 m1 m3
        apply ho
        unfold isOpen isCell
        rw [hL, decide_eq_true (show 0 ≤ (k : Int) ∧ (k : Int) ≤ (X.length : Int) - 1 by omega), decide_eq_false h2]
        rfl
    · omega
/-- The search, and the array that it fills. -/
structure AL (w wr : World) (bb p : Nat) (g : List Int) (qv : Value) (Q M L : List Int) : Prop where
  sb : SB wr bb p g qv Q M
  row : Box wr (w.heap.size + 1) (cellsI L) 75
  le : w.heap.size + 2 ≤ bb
  grown : w.grownBy wr none
section
variable {w wr wy : World} {bb p : Nat} {g Q M L : List Int} {qv : Value}
theorem AL.on (h : AL w wr bb p g qv Q M L) (hg : wr.grownBy wy none) : AL w wy bb p g qv Q M L := ⟨h.sb.on hg, h.row.grown hg, h.le, grownN_trans h.grown hg⟩
theorem AL.put (h : AL w wr bb p g qv Q M L) {j : Nat} (hj : j < L.length) : wr.cell? ⟨w.heap.size + 1, j, none⟩ = some (.int .i64 (L.getD j 0)) ∧ wr.frozen? ⟨w.heap.size + 1, j, none⟩ = false := ⟨(h.row.cell j).trans (cellsI_get hj), h.row.free j⟩
theorem AL.set (h : AL w wr bb p g qv Q M L) (j : Nat) (x : Int) : AL w (wr.setCell ⟨w.heap.size + 1, j, none⟩ (.int .i64 x)) bb p g qv Q M (L.set j x) := by
  have hg := grown_set wr (w.heap.size + 1) j (.int .i64 x)
  have hle := h.le
  have hq : qv.ownBlock = none ∨ qv.ownBlock ≠ some (w.heap.size + 1) := by
    cases hq : qv.ownBlock with
    | none => exact .inl rfl
    | some e => have := h.sb.own.lt e hq; exact .inr (fun e' => by injection e' with e'; omega)
  refine ⟨⟨h.sb.box.kept hg (fun e => by injection e with e; omega), h.sb.own.kept hg hq, h.sb.gl, h.sb.ml⟩, ?_, h.le, grown_new h.grown hg (fun g e => by injection e with e; omega)⟩
  have := box_set h.row j (.int .i64 x)
  rwa [cellsI_set] at this
end

set_option maxRecDepth 100000 in
set_option maxHeartbeats 4000000 in
theorem away_any (w : World) (W H a : Int) (v : Value) (X : List Int) (hv : Sees .i64 w v X) (hlt : v.ownBlock = none ∨ ∃ b, v.ownBlock = some b ∧ b < w.heap.size) :
    Calls Try.prog 49 #[.agg #[.int .i64 W, .int .i64 H, v], .int .i64 a] w fun e w' => e = .returned (.pointer (some ⟨w.heap.size + 1, 0, none⟩)) ∧ Box w' (w.heap.size + 1) (cellsI (awTo W H X a 64)) 75 ∧ w.grownBy w' none := by
  have hg1 := World.grownBy_alloc w (.cells #[.int .i64 W, .int .i64 H, v] 27 (0, 0)) (none : Option Nat)
  have hg2 := World.grownBy_alloc (w.alloc (.cells #[.int .i64 W, .int .i64 H, v] 27 (0, 0))) (.cells #[.int .i64 0, .int .i64 0, .int .i64 0, .int .i64 0, .int .i64 0, .int .i64 0, .int .i64 0, .int .i64 0, .int .i64 0, .int .i64 0, .int .i64 0, .int .i64 0, .int .i64 0, .int .i64 0, .int .i64 0, .int .i64 0, .int .i64 0, .int .i64 0, .int .i64 0, .int .i64 0, .int .i64 0, .int .i64 0, .int .i64 0, .int .i64 0, .int .i64 0, .int .i64 0, .int .i64 0, .int .i64 0, .int .i64 0, .int .i64 0, .int .i64 0, .int .i64 0, .int .i64 0, .int .i64 0, .int .i64 0, .int .i64 0, .int .i64 0, .int .i64 0, .int .i64 0, .int .i64 0, .int .i64 0, .int .i64 0, .int .i64 0, .int .i64 0, .int .i64 0, .int .i64 0, .int .i64 0, .int .i64 0, .int .i64 0, .int .i64 0, .int .i64 0, .int .i64 0, .int .i64 0, .int .i64 0, .int .i64 0, .int .i64 0, .int .i64 0, .int .i64 0, .int .i64 0, .int .i64 0, .int .i64 0, .int .i64 0, .int .i64 0, .int .i64 0] 75 (0, 0)) (none : Option Nat)
  have hb2 := box_new (w.alloc (.cells #[.int .i64 W, .int .i64 H, v] 27 (0, 0))) #[.int .i64 0, .int .i64 0, .int .i64 0, .int .i64 0, .int .i64 0, .int .i64 0, .int .i64 0, .int .i64 0, .int .i64 0, .int .i64 0, .int .i64 0, .int .i64 0, .int .i64 0, .int .i64 0, .int .i64 0, .int .i64 0, .int .i64 0, .int .i64 0, .int .i64 0, .int .i64 0, .int .i64 0, .int .i64 0, .int .i64 0, .int .i64 0, .int .i64 0, .int .i64 0, .int .i64 0, .int .i64 0, .int .i64 0, .int .i64 0, .int .i64 0, .int .i64 0, .int .i64 0, .int .i64 0, .int .i64 0, .int .i64 0, .int .i64 0, .int .i64 0, .int .i64 0, .int .i64 0, .int .i64 0, .int .i64 0, .int .i64 0, .int .i64 0, .int .i64 0, .int .i64 0, .int .i64 0, .int .i64 0, .int .i64 0, .int .i64 0, .int .i64 0, .int .i64 0, .int .i64 0, .int .i64 0, .int .i64 0, .int .i64 0, .int .i64 0, .int .i64 0, .int .i64 0, .int .i64 0, .int .i64 0, .int .i64 0, .int .i64 0, .int .i64 0] 75
  rw [World.size_alloc] at hb2
  have hzc : (#[.int .i64 0, .int .i64 0, .int .i64 0, .int .i64 0, .int .i64 0, .int .i64 0, .int .i64 0, .int .i64 0, .int .i64 0, .int .i64 0, .int .i64 0, .int .i64 0, .int .i64 0, .int .i64 0, .int .i64 0, .int .i64 0, .int .i64 0, .int .i64 0, .int .i64 0, .int .i64 0, .int .i64 0, .int .i64 0, .int .i64 0, .int .i64 0, .int .i64 0, .int .i64 0, .int .i64 0, .int .i64 0, .int .i64 0, .int .i64 0, .int .i64 0, .int .i64 0, .int .i64 0, .int .i64 0, .int .i64 0, .int .i64 0, .int .i64 0, .int .i64 0, .int .i64 0, .int .i64 0, .int .i64 0, .int .i64 0, .int .i64 0, .int .i64 0, .int .i64 0, .int .i64 0, .int .i64 0, .int .i64 0, .int .i64 0, .int .i64 0, .int .i64 0, .int .i64 0, .int .i64 0, .int .i64 0, .int .i64 0, .int .i64 0, .int .i64 0, .int .i64 0, .int .i64 0, .int .i64 0, .int .i64 0, .int .i64 0, .int .i64 0, .int .i64 0] : Array Value) = cellsI (minus 0) := by rfl
  have HA0 : Hid (AS w ((w.alloc (.cells #[.int .i64 W, .int .i64 H, v] 27 (0, 0))).alloc (.cells #[.int .i64 0, .int .i64 0, .int .i64 0, .int .i64 0, .int .i64 0, .int .i64 0, .int .i64 0, .int .i64 0, .int .i64 0, .int .i64 0, .int .i64 0, .int .i64 0, .int .i64 0, .int .i64 0, .int .i64 0, .int .i64 0, .int .i64 0, .int .i64 0, .int .i64 0, .int .i64 0, .int .i64 0, .int .i64 0, .int .i64 0, .int .i64 0, .int .i64 0, .int .i64 0, .int .i64 0, .int .i64 0, .int .i64 0, .int .i64 0, .int .i64 0, .int .i64 0, .int .i64 0, .int .i64 0, .int .i64 0, .int .i64 0, .int .i64 0, .int .i64 0, .int .i64 0, .int .i64 0, .int .i64 0, .int .i64 0, .int .i64 0, .int .i64 0, .int .i64 0, .int .i64 0, .int .i64 0, .int .i64 0, .int .i64 0, .int .i64 0, .int .i64 0, .int .i64 0, .int .i64 0, .int .i64 0, .int .i64 0, .int .i64 0, .int .i64 0, .int .i64 0, .int .i64 0, .int .i64 0, .int .i64 0, .int .i64 0, .int .i64 0, .int .i64 0] 75 (0, 0))) W H v X (minus 0)) := ⟨(box_new w _ _).grown hg2, by rw [← hzc]; exact hb2, (hv.grown hg1).grown hg2, grownN_trans hg1 hg2⟩
  have HAP : Hid (v.ownBlock = none ∨ v.ownBlock ≠ some (w.heap.size + 1)) := by
    rcases hlt with h | ⟨b, h, hb⟩
    · exact .inl h
    · exact .inr (by rw [h]; simp; omega)
  obtain ⟨va, vn, vc, hvv, HVN⟩ := hv.shape
  subst hvv
  clear hv hlt hg1 hg2 hb2 hzc
  go_enter Try.func49, Try.ntmps49
  go_upto_region 2 with (fail)
  generalize (w.alloc (.cells #[.int .i64 W, .int .i64 H, .slice va vn vc] 27 (0, 0))).alloc (.cells #[.int .i64 0, .int .i64 0, .int .i64 0, .int .i64 0, .int .i64 0, .int .i64 0, .int .i64 0, .int .i64 0, .int .i64 0, .int .i64 0, .int .i64 0, .int .i64 0, .int .i64 0, .int .i64 0, .int .i64 0, .int .i64 0, .int .i64 0, .int .i64 0, .int .i64 0, .int .i64 0, .int .i64 0, .int .i64 0, .int .i64 0, .int .i64 0, .int .i64 0, .int .i64 0, .int .i64 0, .int .i64 0, .int .i64 0, .int .i64 0, .int .i64 0, .int .i64 0, .int .i64 0, .int .i64 0, .int .i64 0, .int .i64 0, .int .i64 0, .int .i64 0, .int .i64 0, .int .i64 0, .int .i64 0, .int .i64 0, .int .i64 0, .int .i64 0, .int .i64 0, .int .i64 0, .int .i64 0, .int .i64 0, .int .i64 0, .int .i64 0, .int .i64 0, .int .i64 0, .int .i64 0, .int .i64 0, .int .i64 0, .int .i64 0, .int .i64 0, .int .i64 0, .int .i64 0, .int .i64 0, .int .i64 0, .int .i64 0, .int .i64 0, .int .i64 0] 75 (0, 0)) = w1 at *
  generalize Value.agg #[.int .i64 0, .int .i64 0, .int .i64 0, .int .i64 0, .int .i64 0, .int .i64 0, .int .i64 0, .int .i64 0, .int .i64 0, .int .i64 0, .int .i64 0, .int .i64 0, .int .i64 0, .int .i64 0, .int .i64 0, .int .i64 0, .int .i64 0, .int .i64 0, .int .i64 0, .int .i64 0, .int .i64 0, .int .i64 0, .int .i64 0, .int .i64 0, .int .i64 0, .int .i64 0, .int .i64 0, .int .i64 0, .int .i64 0, .int .i64 0, .int .i64 0, .int .i64 0, .int .i64 0, .int .i64 0, .int .i64 0, .int .i64 0, .int .i64 0, .int .i64 0, .int .i64 0, .int .i64 0, .int .i64 0, .int .i64 0, .int .i64 0, .int .i64 0, .int .i64 0, .int .i64 0, .int .i64 0, .int .i64 0, .int .i64 0, .int .i64 0, .int .i64 0, .int .i64 0, .int .i64 0, .int .i64 0, .int .i64 0, .int .i64 0, .int .i64 0, .int .i64 0, .int .i64 0, .int .i64 0, .int .i64 0, .int .i64 0, .int .i64 0, .int .i64 0] = zz at *
  obtain ⟨B, hB⟩ : ∃ B, B = w.heap.size := ⟨_, rfl⟩
  go_wp2_with fail
  go_loopw [11] (fun i wr => ∃ j : Nat, j ≤ 64 ∧ i = .int .i64 j ∧ Hid (AS w wr W H (.slice va vn vc) X (minus j))) (fun i _ => 64 - (intOf i).toNat)
  case atStart => exact ⟨0, Nat.zero_le _, rfl, HA0⟩
  case round =>
    rename_i wr
    obtain ⟨j, hj, rfl, HT⟩ := hrel
    by_cases hlt : j < 64
    · have hltI : (j : Int) < 64 := by omega
      obtain ⟨c0, f0⟩ := HT.out.put (j := j) (by rw [minus_len (by omega)]; exact hlt)
      have HT2 : Hid (AS w (wr.setCell ⟨w.heap.size + 1, j, none⟩ (.int .i64 (-1))) W H (.slice va vn vc) X (minus (j + 1))) := by show AS _ _ _ _ _ _ _; rw [← minus_set hlt]; exact HT.out.set HAP.out j (-1)
      go_wp2
      go_roundw
      case rel => exact ⟨j + 1, by omega, by go_num, HT2⟩
      case measure => simp [intOf]; omega
    · have hjj : j = 64 := by omega
      subst hjj
      have hltI : ¬ ((64 : Int) < 64) := by omega
      obtain ⟨c0, c1, c2⟩ := HT.out.land.three
      have hs := isOpen_any wr W H a _ X HT.out.sees
      by_cases hA : isOpen W H X a = true
      · rw [hA] at hs
        have HS := Lib.hid hs
        have HA := Lib.hid hA
        clear hs hA
        go_wp2_with fail
        refine HS.out.mono ?_
        rintro e w2 ⟨rfl, hg⟩
        have HT2 := Lib.hid (HT.out.on hg)
        have HZ2 : Hid (w.heap.size + 2 ≤ w2.heap.size) := HT2.out.row.lt
        obtain ⟨p, h, n, rfl, rfl, rfl, hn, hL, h64, _⟩ := open_nat HA.out
        have HL : Hid (isLand p h X = true ∧ n < X.length ∧ X.length ≤ 64) := ⟨hL, hn, h64⟩
        clear hg c0 c1 c2 hL hn h64
        obtain ⟨c0, c1, c2⟩ := HT2.out.land.three
        go_wp2_with fail
        refine (searchIn_any w2 p h _ X HT2.out.sees HL.out.1).mono ?_
        rintro e w4 ⟨bb, rfl, hle, hS, hg⟩
        have HT4 := Lib.hid (HT2.out.on hg)
        have HS4 := Lib.hid hS
        have HLE : Hid (w.heap.size + 2 ≤ bb) := Nat.le_trans HZ2.out hle
        clear hle hS hg c0 c1 c2
        go_wp2_with fail
        refine (begin_any w4 bb p h n X 64 [] _ _ HS4.out HL.out.1 HL.out.2.1 (by omega)).mono ?_
        rintro e w5 ⟨rfl, qv, Q, M, hS, hM, hb⟩
        rw [cut64 HL.out.1 HL.out.2.1 HL.out.2.2] at hM
        have HM5 := Lib.hid hM
        have HB5 : Hid (Box w5 w.heap.size #[.int .i64 (p : Int), .int .i64 (h : Int), .slice va vn vc] 27) := (hb.block _ (by have := HLE.out; omega)).trans HT4.out.land
        have hr5 : Box w5 (w.heap.size + 1) (cellsI (minus 64)) 75 := (hb.block _ (by have := HLE.out; omega)).trans HT4.out.row
        have HAL : Hid (AL w w5 bb p (grid p X) qv Q M (awTo p h X n 0)) := ⟨hS, by rw [← minus_all]; exact hr5, HLE.out, search_on HT4.out.grown (by have := HLE.out; omega) hb⟩
        clear hS hM hb hr5
        obtain ⟨c0, c1, c2⟩ := HB5.out.three
        have hvn64 : vn ≤ 64 := by rw [← HVN.out]; exact HL.out.2.2
        go_wp2_with fail
        go_loopw [32] (fun s wz => ∃ k : Nat, k ≤ vn ∧ s = .int .i64 k ∧ Hid (AL w wz bb p (grid p X) qv Q M (awTo p h X n k))) (fun s _ => vn - (intOf s).toNat)
        case atStart => exact ⟨0, Nat.zero_le _, rfl, HAL⟩
        case round =>
          obtain ⟨k, hk, rfl, HR⟩ := hrel
          by_cases hlt : k < vn
          · have HKX : Hid (k < X.length) := by rw [HVN.out]; exact hlt
            have hk64 : k < 64 := by omega
            have hk64I : (k : Int) < 64 := by omega
            have hk0I : (0 : Int) ≤ (k : Int) := by omega
            have hk1 := dist_bnd HL.out.1 HL.out.2.1 HL.out.2.2 (k : Int) (by omega) (by have := HKX.out; omega)
            obtain ⟨y, hy⟩ : ∃ y, y = at' (distL p X n) (k : Int) := ⟨_, rfl⟩
            rw [← hy] at hk1
            have HY := Lib.hid hy
            have HK1 := Lib.hid hk1
            have HNX : Hid ((awTo p h X n k).set k y = awTo p h X n (k + 1)) := by show _ = _; rw [HY.out, ← days_at HA.out HL.out.1 HL.out.2.1 HKX.out]; exact awTo_set hk64
            clear hy hk1 c0 c1 c2
            have HRD := Lib.hid (HR.out.on (grown_drew (World.grownBy.refl wr none)))
            have HDT := Lib.hid (daysTo_any wr.drew bb p k _ Q M qv y HRD.out.sb (sq_100 HL.out.1 HKX.out).1 (by omega) (sq_100 HL.out.1 HKX.out).2 (by rw [HM5.out.at_ k HKX.out, HY.out]) (by have := HK1.out; omega))
            go_wp2_with fail
            refine wp_region_held_drew (S := fun _ => True) (by kernel_rfl) trivial (fun hHeld => ?_)
            refine wpAnyH_take (i := 0) (v := ?_) rfl (by kernel_rfl) (by kernel_rfl) (by kernel_rfl) (fun _ _ _ h => h) (Or.inl ⟨by rfl, ?_⟩) (by assumption) ?_; rotate_left; (focus (intro wS hSw; (try dsimp only at hSw); go_simp <;> with_reducible rfl)); (try simp only [Act.put, List.getElem_toArray, List.getElem_cons_succ, List.getElem_cons_zero, List.setIfInBounds_toArray, List.set_cons_zero, List.set_cons_succ])
            refine wpAnyH_take (i := 1) (v := ?_) rfl (by kernel_rfl) (by kernel_rfl) (by kernel_rfl) (fun _ _ _ h => h) (Or.inl ⟨by rfl, ?_⟩) (by assumption) ?_; rotate_left; (focus (intro wS hSw; (try dsimp only at hSw); go_simp <;> with_reducible rfl)); (try simp only [Act.put, List.getElem_toArray, List.getElem_cons_succ, List.getElem_cons_zero, List.setIfInBounds_toArray, List.set_cons_zero, List.set_cons_succ])
            refine wpAnyH_take (i := 2) (v := ?_) rfl (by kernel_rfl) (by kernel_rfl) (by kernel_rfl) (fun _ _ _ h => h) (Or.inl ⟨by rfl, ?_⟩) (by assumption) ?_; rotate_left; (focus (intro wS hSw; (try dsimp only at hSw); go_simp <;> with_reducible rfl)); (try simp only [Act.put, List.getElem_toArray, List.getElem_cons_succ, List.getElem_cons_zero, List.setIfInBounds_toArray, List.set_cons_zero, List.set_cons_succ])
            refine wpAnyH_take (i := 3) (v := ?_) rfl (by kernel_rfl) (by kernel_rfl) (by kernel_rfl) (fun _ _ _ h => h) (Or.inl ⟨by rfl, ?_⟩) (by assumption) ?_; rotate_left; (focus (intro wS hSw; (try dsimp only at hSw); go_simp <;> with_reducible rfl)); (try simp only [Act.put, List.getElem_toArray, List.getElem_cons_succ, List.getElem_cons_zero, List.setIfInBounds_toArray, List.set_cons_zero, List.set_cons_succ])
            refine wpAnyH_take (i := 5) (v := ?_) rfl (by kernel_rfl) (by kernel_rfl) (by kernel_rfl) (fun _ _ _ h => h) (Or.inl ⟨by rfl, ?_⟩) (by assumption) ?_; rotate_left; (focus (intro wS hSw; (try dsimp only at hSw); go_simp <;> with_reducible rfl)); (try simp only [Act.put, List.getElem_toArray, List.getElem_cons_succ, List.getElem_cons_zero, List.setIfInBounds_toArray, List.set_cons_zero, List.set_cons_succ])
            refine wpAnyH_ready (rs := [4]) (by kernel_rfl) (by simp) ?_; refine AllReadyH.cons rfl (fun K hK => ?_) AllReadyH.nil; go_simp; (refine HDT.out.mono ?_; rintro e w6 ⟨rfl, hg6⟩; have HR6 := Lib.hid (HRD.out.on hg6); obtain ⟨q0, f0⟩ := HR6.out.put (j := k) (by rw [awTo_len]; exact hk64); have HR7 : Hid (AL w (w6.setCell ⟨w.heap.size + 1, k, none⟩ (.int .i64 y)) bb p (grid p X) qv Q M (awTo p h X n (k + 1))) := (by show AL _ _ _ _ _ _ _ _ _; rw [← HNX.out]; exact HR6.out.set k y); clear hg6)
            refine hK.out _ _ ?_ (fun hHeld => ?_)
            · trivial
            clear hK K
            (try simp only [Act.put, List.getElem_toArray, List.getElem_cons_succ, List.getElem_cons_zero, List.setIfInBounds_toArray, List.set_cons_zero, List.set_cons_succ])
            refine wpAnyH_take (i := 6) (v := ?_) rfl (by kernel_rfl) (by kernel_rfl) (by kernel_rfl) (fun _ _ _ h => h) (Or.inl ⟨by rfl, ?_⟩) (by assumption) ?_; rotate_left; (focus (intro wS hSw; (try dsimp only at hSw); go_simp <;> with_reducible rfl)); (try simp only [Act.put, List.getElem_toArray, List.getElem_cons_succ, List.getElem_cons_zero, List.setIfInBounds_toArray, List.set_cons_zero, List.set_cons_succ])
            refine wpAnyH_ready (rs := [7]) (by kernel_rfl) (by simp) ?_; refine AllReadyH.cons rfl (fun K hK => ?_) AllReadyH.nil; go_simp
            refine hK.out _ _ trivial (fun hHeld => ?_)
            clear hK K
            (try simp only [Act.put, List.getElem_toArray, List.getElem_cons_succ, List.getElem_cons_zero, List.setIfInBounds_toArray, List.set_cons_zero, List.set_cons_succ])
            refine wpAnyH_done (by kernel_rfl) ?_ _
            (try simp only [Act.put, List.getElem_toArray, List.getElem_cons_succ, List.getElem_cons_zero, List.setIfInBounds_toArray, List.set_cons_zero, List.set_cons_succ])
            go_wp2
            go_roundw
            case rel => exact ⟨k + 1, by omega, by go_num, HR7⟩
            case measure => simp [intOf]; omega
          · have hkk : k = X.length := by rw [HVN.out]; omega
            have HE : Hid (awTo p h X n k = awTo p h X n 64) := awTo_full (by omega)
            have hr := HR.out.row
            rw [HE.out] at hr
            go_wp2
            go_ret
            exact ⟨rfl, hr, HR.out.grown⟩
      · have hA2 : isOpen W H X a = false := by simpa using hA
        rw [hA2] at hs
        have HS := Lib.hid hs
        have HE : Hid (minus 64 = awTo W H X a 64) := (minus_all W H X a).trans (awTo_closed hA2 0 64)
        clear hs hA hA2
        go_wp2_with fail
        refine HS.out.mono ?_
        rintro e w2 ⟨rfl, hg⟩
        have HT2 := Lib.hid (HT.out.on hg)
        clear hg
        go_wp2
        go_ret
        exact ⟨rfl, by rw [← HE.out]; exact HT2.out.row, HT2.out.grown⟩
end Go.Proofs.Ytbgbnbnfmlpemaa.Awy
