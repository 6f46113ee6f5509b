/- Contract of the program's CalmDays: a range over the library's walk of a slice from its end. -/
import Derived.RangeFuncBox
import Derived.RangeFuncLeaves
import Derived.RangeFuncNested
import Derived.RangeFuncBound
import Derived.RangeFuncCalls
import Derived.Shelf.Abstract
import Derived.Shelf.RegionOpen
import Derived.WalkKit
import Derived.OwnWalkIn
import Derived.TacticsInMore
import Derived.LoopNIn
import Derived.LoopIn
import Derived.Test.YtbpmbbmgmpdhnaaStF
import Derived.Test.YtbpmbbmgmpdhnaaRowE
namespace Go.Proofs.Ytbpmbbmgmpdhnaa.StC
open Go.RowKit Go.Shelf Kit Rw Rg Stm

attribute [local go_sem] Oper.semAt_some

theorem set_other (W : World) {b k : Nat} (v : Value) (h : k ≠ b) : (W.setCell ⟨b, 0, none⟩ v).heap[k]? = W.heap[k]? := by
  by_cases hk : k < W.heap.size
  · exact (grown_set W b 0 v).block k hk (fun e => h (by injection e))
  · have hs : (W.setCell ⟨b, 0, none⟩ v).heap.size = W.heap.size := by simp [World.setCell]
    rw [Array.getElem?_eq_none (by omega), Array.getElem?_eq_none (by omega)]
/-- What lies below n₀ stays, and block B too. -/
def Kb (n₀ B : Nat) (W W' : World) : Prop := Below n₀ W W' ∧ W'.heap[B]? = W.heap[B]?
theorem Kb.refl (n₀ B : Nat) (W : World) : Kb n₀ B W W := ⟨Below.refl _ _, rfl⟩
theorem Kb.trans {n₀ B : Nat} {X Y Z : World} (h : Kb n₀ B X Y) (k : Kb n₀ B Y Z) : Kb n₀ B X Z := ⟨h.1.trans k.1, k.2.trans h.2⟩
theorem Kb.put {n₀ B : Nat} {w : World} (hn : n₀ ≤ w.heap.size) (hB : B < w.heap.size) (W : World) (l : Nat) (o o' : Obj) (hl : w.heap.size ≤ l) (h : W.heap[l]? = some o) (h1 : o.isCells = false) (h2 : o.isWalk = false) : Kb n₀ B W (W.putObj l o') := by
  have hlt := (Array.getElem?_eq_some_iff.1 h).1
  exact ⟨belowK_b hn W l o o' hl h h1 h2, (grownBy_putObj' W l o').block B (by omega) (fun e => by cases e; omega)⟩
theorem Kb.cellB {n₀ B : Nat} {W W' : World} (h : Kb n₀ B W W') (j : Nat) : W'.cell? ⟨B, j, none⟩ = W.cell? ⟨B, j, none⟩ := by
  unfold World.cell?; rw [h.2]
/-- The first k rounds. -/
def upto {α : Type} (f : Nat → α) (k : Nat) : List α := (List.range k).map f
theorem upto_succ {α : Type} (f : Nat → α) (k : Nat) : upto f (k + 1) = upto f k ++ [f k] := by simp [upto, List.range_succ]
theorem upto_length {α : Type} (f : Nat → α) (k : Nat) : (upto f k).length = k := by simp [upto]
def back (L : List Bool) (j : Nat) : Nat × Bool := (L.length - 1 - j, L.getD (L.length - 1 - j) false)

set_option maxRecDepth 100000 in
set_option maxHeartbeats 2000000 in
theorem back1_in (F : Fence) (n : Nat) (h7 : F.fn 92) (hro : F.round = none) (hn : 1 ≤ n) (l Bs n₀ b off len cap : Nat) (L : List Bool) (hL : L.length = len) (hreach : len ≤ 9223372036854775807) (hb : b < n₀) (J Jx : List (Nat × Bool) → World → Prop)
    (hY : ∀ pre x W, J pre W → pre.length < len → YieldAt F (n - 1) Try.prog l #[.int .i64 (x.1 : Int), .bool x.2] W fun e W' =>
      (e = .returned (.bool true) ∧ J (pre ++ [x]) W' ∧ Kb n₀ Bs W W') ∨ (e = .returned (.bool false) ∧ Jx (pre ++ [x]) W'))
    (W : World) (hBs : W.cell? ⟨Bs, 0, none⟩ = some (.slice (some ⟨b, off, none⟩) len cap)) (hc : ∀ j, j < len → W.cell? ⟨b, off + j, none⟩ = some (.bool (L.getD j false))) (h0 : J [] W) :
    CallsIn F n Try.prog 92 #[.func (.yield l) #[] #[], .pointer (some ⟨Bs, 0, none⟩)] W fun e W' => (∃ v, e = .returned v) ∧
      ((∃ ys, ys = upto (back L) len ∧ J ys W') ∨ (∃ pre, (∃ k, k ≤ len ∧ pre = upto (back L) k) ∧ Jx pre W')) := by
  refine callsIn_of_wp Try.func92 rfl h7 ?_ hro
  simp only [Try.ntmps92, List.size_toArray, List.length_cons, List.length_nil, Nat.reduceAdd, Nat.reduceSub, Array.replicate_succ, Array.replicate_zero, List.push_toArray, List.append_toArray, List.nil_append, List.cons_append]
  gi_wp2
  gi_loopw [3] (fun i wr => ∃ k : Nat, k ≤ len ∧ i = .int .i64 ((len : Int) - 1 - k) ∧ J (upto (back L) k) wr ∧ Kb n₀ Bs W wr)
    (fun i _ => (intOf i + 1).toNat)
  case atStart => exact ⟨0, Nat.zero_le _, by simp, h0, Kb.refl _ _ _⟩
  case round =>
    obtain ⟨k, hk, rfl, hJs, hnx⟩ := hrel
    by_cases hlt : k < len
    · obtain ⟨q, hq⟩ : ∃ q, q = len - 1 - k := ⟨_, rfl⟩
      have hqi : (len : Int) - 1 - k = (q : Int) := by omega
      have hql : q < len := by omega
      have hbk : back L k = (q, L.getD q false) := by unfold back; rw [hL, ← hq]
      have hs1 := upto_succ (back L) k
      rw [hbk] at hs1
      rw [hqi]
      have hB2 := (hnx.cellB 0).trans hBs
      have hcq := (hnx.1.cell (p := ⟨b, off + q, none⟩) hb).trans (hc q hql)
      obtain ⟨x, hx⟩ : ∃ x, x = L.getD q false := ⟨_, rfl⟩
      rw [← hx] at hcq hs1
      obtain ⟨fn, tmps, assign, body, hy, hR⟩ := hY _ (q, x) wr hJs (by rw [upto_length]; exact hlt)
      dsimp only at hy
      have HS1 := Lib.hid hs1
      have HQ := Lib.hid hq
      clear hx hq hqi hbk hs1
      gi_wp2
      refine hR.mono ?_
      rintro e W3 (⟨rfl, hJ3, hk3⟩ | ⟨rfl, hJx3⟩)
      · gi_wp2
        go_roundw
        case rel =>
          have hq := HQ.out
          exact ⟨k + 1, by omega, by congr 1; omega, by rw [HS1.out]; exact hJ3, hnx.trans hk3⟩
        case measure => (try simp [intOf]) <;> omega
      · gi_wp2
        refine bodyPost_ret (results_none rfl _ _ _) rfl ?_
        exact ⟨⟨_, rfl⟩, .inr ⟨_, ⟨k + 1, by omega, HS1.out.symm⟩, hJx3⟩⟩
    · obtain rfl : k = len := by omega
      gi_wp2
      go_end0
      exact ⟨⟨_, rfl⟩, .inl ⟨_, rfl, hJs⟩⟩

set_option maxRecDepth 100000 in
set_option maxHeartbeats 1000000 in
theorem back1_none_in (F : Fence) (n : Nat) (h7 : F.fn 92) (hro : F.round = none) (l Bs cap : Nat) (a : Option Addr) (J : List (Nat × Bool) → World → Prop) (W : World) (hBs : W.cell? ⟨Bs, 0, none⟩ = some (.slice a 0 cap)) (h0 : J [] W) :
    CallsIn F n Try.prog 92 #[.func (.yield l) #[] #[], .pointer (some ⟨Bs, 0, none⟩)] W fun e W' => (∃ v, e = .returned v) ∧ J [] W' := by
  refine callsIn_of_wp Try.func92 rfl h7 ?_ hro
  simp only [Try.ntmps92, List.size_toArray, List.length_cons, List.length_nil, Nat.reduceAdd, Nat.reduceSub, Array.replicate_succ, Array.replicate_zero, List.push_toArray, List.append_toArray, List.nil_append, List.cons_append]
  gi_wp2
  gi_loopw [3] (fun i wr => i = .int .i64 (-1) ∧ J [] wr) (fun _ _ => 0)
  case atStart => exact ⟨rfl, h0⟩
  case round =>
    obtain ⟨rfl, hJs⟩ := hrel
    gi_wp2
    go_end0
    exact ⟨⟨_, rfl⟩, hJs⟩

set_option maxHeartbeats 1000000 in
theorem back_in (F : Fence) (n : Nat) (h6 : F.fn 81) (hro : F.round = none) (a : Option Addr) (len cap : Nat) (w : World) :
    CallsIn F n Try.prog 81 #[.slice a len cap] w fun e w' => e = .returned (.func (.func 92) #[] #[.pointer (some ⟨w.heap.size, 0, none⟩)]) ∧ w' = w.alloc (.cells #[.slice a len cap] 43) := by
  refine callsIn_of_wp Try.func81 rfl h6 ?_ hro
  simp only [Try.ntmps81, List.size_toArray, List.length_cons, List.length_nil, Nat.reduceAdd, Nat.reduceSub, Array.replicate_succ, Array.replicate_zero, List.push_toArray, List.append_toArray, List.nil_append, List.cons_append]
  gi_wp2
  go_ret
  exact ⟨rfl, rfl⟩

/-- The slice value reads as L, in a block below n₀; or there is no element. -/
def Bl (n₀ : Nat) (W : World) (sv : Value) (L : List Bool) : Prop :=
  (∃ a cap, sv = .slice a 0 cap ∧ L = []) ∨ ∃ b off cap, sv = .slice (some ⟨b, off, none⟩) L.length cap ∧ b < n₀ ∧ ∀ j, j < L.length → W.cell? ⟨b, off + j, none⟩ = some (.bool (L.getD j false))
theorem Bl.below {n₀ : Nat} {A B : World} (h : Below n₀ A B) {sv : Value} {L : List Bool} : Bl n₀ A sv L → Bl n₀ B sv L
  | .inl e => .inl e
  | .inr ⟨b, off, cap, e, hb, hc⟩ => .inr ⟨b, off, cap, e, hb, fun j hj => (h.cell (p := ⟨b, off + j, none⟩) hb).trans (hc j hj)⟩
theorem bl_of {w : World} {v : Value} {L : List Bool} (h : SeesG encB w v L) : Bl w.heap.size w v L := by
  by_cases hL : L = []
  · subst hL
    obtain ⟨a, cap, rfl, _⟩ := h
    exact .inl ⟨a, cap, rfl, rfl⟩
  · have hl : 0 < L.length := List.length_pos_iff.2 hL
    obtain ⟨a, n, cap, rfl, hn⟩ := h.shape
    obtain ⟨b, o, rfl, hb, _⟩ := h.at_rowB hl
    obtain ⟨_, _, e, _⟩ := id h
    injection e with _ e2 _
    subst e2
    exact .inr ⟨b, o, cap, rfl, hb, fun j hj => h.atB hj⟩

theorem back_stops (F : Fence) (n : Nat) (h8 : F.fn 92) (hro : F.round = none) (hn : 1 ≤ n) (Bs n₀ : Nat) (sv : Value) (L : List Bool) (hreach : L.length ≤ 9223372036854775807) (w : World) (hBs : Bs < w.heap.size) (hn₀ : n₀ ≤ w.heap.size)
    (hc : w.cell? ⟨Bs, 0, none⟩ = some sv) (hI : Bl n₀ w sv L) :
    SeqStopsK F n Try.prog 92 #[.pointer (some ⟨Bs, 0, none⟩)] (fun x : Nat × Bool => #[Value.int .i64 (x.1 : Int), Value.bool x.2]) (Kb n₀ Bs) (fun ys => ys = upto (back L) L.length)
      (fun pre => ∃ k, k ≤ L.length ∧ pre = upto (back L) k) L.length w := fun l J Jx W hW _ _ hY h0 => by
  have hc' := (hW.cell (p := ⟨Bs, 0, none⟩) hBs).trans hc
  rcases hI.below (hW.mono hn₀) with ⟨a, cap, rfl, rfl⟩ | ⟨b, off, cap, rfl, hb, hcs⟩
  · exact (back1_none_in F n h8 hro l Bs cap a J W hc' h0).mono fun e W' ⟨he, hj⟩ => ⟨he, .inl ⟨_, rfl, hj⟩⟩
  · exact back1_in F n h8 hro hn l Bs n₀ b off L.length cap L rfl hreach hb J Jx hY W hc' hcs h0

theorem calm_all {L : List Bool} (h : ∀ j, j < L.length → (back L j).2 = false) : calm L = L.length :=
  Nat.le_antisymm (calm_le L) (calm_step (fun m hm => h m hm) (Nat.le_refl _))
theorem calm_at {L : List Bool} {k : Nat} (hk : k < L.length) (h : ∀ j, j < k → (back L j).2 = false) (ht : (back L k).2 = true) : calm L = k :=
  Nat.le_antisymm (calm_stop hk ht) (calm_step (fun m hm => h m hm) (Nat.le_of_lt hk))

set_option maxRecDepth 100000 in
set_option maxHeartbeats 2000000 in
theorem iCalm_in (F : Fence) (n : Nat) (h4 : F.fn 39) (h6 : F.fn 81) (h8 : F.fn 92) (hro : F.round = none) (hn : 3 ≤ n) (v : Value) (L : List Bool) (w : World) (hv : SeesG encB w v L) :
    CallsIn F n Try.prog 39 #[v] w fun e W' => e = .returned (.int .i64 (calm L)) ∧ Below w.heap.size w W' := by
  have h1 : 1 ≤ n := by omega
  have hreach := hv.len
  have hI := bl_of hv
  obtain ⟨va, vn, vc, rfl, hvn⟩ := hv.shape
  refine callsIn_of_wp_marks Try.func39 rfl h4 ?_ hro
  simp only [Try.ntmps39, List.size_toArray, List.length_cons, List.length_nil, Nat.reduceAdd, Nat.reduceSub, Array.replicate_succ, Array.replicate_zero, List.push_toArray, List.append_toArray, List.nil_append, List.cons_append]
  gi_wp2_with (gi_at_call 81; refine (back_in F (n - 1) h6 hro _ _ _ _).mono ?_; rintro e w' ⟨rfl, rfl⟩)
  have bR := Boxed.new w 3 (.int .i64 0)
  have bC := Boxed.new (w.alloc (.cells #[.int .i64 0] 3)) 3 (.int .i64 0)
  have bN := Boxed.new ((w.alloc (.cells #[.int .i64 0] 3)).alloc (.cells #[.int .i64 0] 3)) 43 (.slice va vn vc)
  rw [World.size_alloc] at bC
  rw [World.size_alloc, World.size_alloc] at bN
  have hB0 : Below w.heap.size w (((w.alloc (.cells #[.int .i64 0] 3)).alloc (.cells #[.int .i64 0] 3)).alloc (.cells #[.slice va vn vc] 43)) := (((Below.refl _ w).alloc (Nat.le_refl _) _).alloc (by simp) _).alloc (by simp; omega) _
  refine wpIn_rangeFunc_ownG hro h1 (gf := 92) (lb := #[.pointer (some ⟨w.heap.size + 1 + 1, 0, none⟩)]) rfl h8 (enters_of Try.func92 (by kernel_rfl) rfl)
    (back_stops F (n - 1) h8 hro (by omega) (w.heap.size + 1 + 1) w.heap.size _ L hreach _ (by simp) (by simp; omega) bN.cell (hI.below hB0)) Kb.trans (Kb.put (by simp; omega) (by simp)) (Below.refl _ _) (fun _ => rfl)
    (fun pre W => ((∀ p ∈ pre, p.2 = false) ∧ (W.cell? ⟨w.heap.size + 1, 0, none⟩ = some (.int .i64 (pre.length : Int)) ∧ W.frozen? ⟨w.heap.size + 1, 0, none⟩ = false) ∧ W.cell? ⟨w.heap.size, 0, none⟩ = some (.int .i64 0) ∧ W.frozen? ⟨w.heap.size, 0, none⟩ = false) ∧ Below w.heap.size w W)
    (fun c pre W => (c = .ret ∧ ∃ ini last, pre = ini ++ [last] ∧ (∀ p ∈ ini, p.2 = false) ∧ last.2 = true ∧ W.cell? ⟨w.heap.size, 0, none⟩ = some (.int .i64 (ini.length : Int))) ∧ Below w.heap.size w W)
    (OwnFrom.and (Own.from (fun s A B row hs hg hr => ⟨hs.1, ⟨cell_kept hs.2.1.1 hg hr, (frozen_kept hs.2.1.1 hg hr).trans hs.2.1.2⟩, cell_kept hs.2.2.1 hg hr, (frozen_kept hs.2.2.1 hg hr).trans hs.2.2.2⟩) _) (ownFrom_below (Nat.le_refl _) (by simp; omega)))
    (fun c => OwnFrom.and (Own.from (fun s A B row hs hg hr => by obtain ⟨hc, ini, last, e1, e2, e3, e4⟩ := hs; exact ⟨hc, ini, last, e1, e2, e3, cell_kept e4 hg hr⟩) _) (ownFrom_below (Nat.le_refl _) (by simp; omega)))
    ⟨⟨by simp, ⟨(bC.alloc _).cell, (bC.alloc _).frozen⟩, ((bR.alloc _).alloc _).cell, ((bR.alloc _).alloc _).frozen⟩, hB0⟩
    (fun x => { tmps := #[.slice va vn vc, undef, .pointer (some ⟨w.heap.size, 0, none⟩), .pointer (some ⟨w.heap.size + 1, 0, none⟩), undef, .bool x.2, .slice va vn vc, .func (.func 92) #[] #[.pointer (some ⟨w.heap.size + 1 + 1, 0, none⟩)], .int .i64 (x.1 : Int), .bool x.2, undef, undef, undef, undef, undef], defers := [] }) ?assign ?body ?done ?stop
  case assign =>
    intro l x W K hK
    gi_wp2
    exact hK
  case body =>
    rintro l pre x W ⟨⟨hp, ⟨hcc, hfc⟩, hcr, hfr⟩, hB⟩ hlen
    obtain ⟨xi, xb⟩ := x
    have hpl : pre.length < 9223372036854775807 := by omega
    cases xb
    · gi_wp2
      have g1 := grown_set W (w.heap.size + 1) 0 (.int .i64 ((pre.length : Int) + 1))
      refine ⟨(KeepsOthers.setCell _ _ _).from _, ⟨(Below.refl w.heap.size W).setCell (p := ⟨w.heap.size + 1, 0, none⟩) (by simp) _, set_other W _ (by omega)⟩, ⟨fun p hp' => (List.mem_append.1 hp').elim (hp p) (fun e => by simp at e; subst e; rfl), ⟨?_, by rw [World.frozen?_setCell]; exact hfc⟩, g1.cell hcr (by simp), by rw [World.frozen?_setCell]; exact hfr⟩, hB.setCell (p := ⟨w.heap.size + 1, 0, none⟩) (by simp) _⟩
      rw [List.length_append, List.length_singleton, Int.natCast_add]
      exact World.cell?_setCell_same' _ _ _ (by rw [hcc]; rfl)
    · gi_wp2
      exact ⟨(KeepsOthers.setCell _ _ _).from _, ⟨rfl, pre, (xi, true), rfl, hp, rfl, World.cell?_setCell_same' _ _ _ (by rw [hcr]; rfl)⟩, hB.setCell (p := ⟨w.heap.size, 0, none⟩) (Nat.le_refl _) _⟩
  case done =>
    rintro D ys W hD rfl ⟨⟨hne, ⟨hcc, hfc⟩, hcr, hfr⟩, hB⟩ hK
    gi_wp2
    have hK' := (KeepsOthers.setCell W ⟨w.heap.size, 0, none⟩ (.int .i64 ((upto (back L) L.length).length : Int))).same D _ hK rfl
    refine ⟨by simp, .inl ⟨_, _, rfl, run_takeDeferred hK', ?_⟩⟩
    have hc5 := cell_kept (World.cell?_setCell_same' W ⟨w.heap.size, 0, none⟩ (.int .i64 ((upto (back L) L.length).length : Int)) (by rw [hcr]; rfl)) (grownBy_putObj' _ D (.deferred none)) (fun r e => by cases e; exact ⟨_, hK', rfl⟩)
    refine ⟨.int .i64 ((upto (back L) L.length).length : Int), ?_, ?_, (hB.setCell (p := ⟨w.heap.size, 0, none⟩) (Nat.le_refl _) _).trans (belowK_b (w := w) (Nat.le_refl _) _ D _ _ (by simp at hD; omega) hK' rfl rfl)⟩
    · simp [results, Try.f39, go_sem, hc5]
    · rw [calm_all (fun j hj => hne (back L j) (by simp only [upto, List.mem_map, List.mem_range]; exact ⟨j, hj, rfl⟩)), upto_length]
  case stop =>
    rintro D c pre W hD ⟨k, hk, rfl⟩ ⟨⟨rfl, ini, last, e1, e2, e3, hcr⟩, hB⟩ hK
    gi_wp2
    refine ⟨by simp, .inl ⟨_, _, rfl, run_takeDeferred hK, ?_⟩⟩
    have hc5 := cell_kept hcr (grownBy_putObj' _ D (.deferred none)) (fun r e => by cases e; exact ⟨_, hK, rfl⟩)
    obtain ⟨k', rfl⟩ : ∃ k', k = k' + 1 := by
      cases k with
      | zero => simp [upto] at e1
      | succ k' => exact ⟨k', rfl⟩
    rw [upto_succ] at e1
    obtain ⟨rfl, e5⟩ := List.append_inj' e1 rfl
    obtain rfl : back L k' = last := by simpa using e5
    refine ⟨.int .i64 ((upto (back L) k').length : Int), ?_, ?_, hB.trans (belowK_b (w := w) (Nat.le_refl _) W D _ _ (by simp at hD; omega) hK rfl rfl)⟩
    · simp [results, Try.f39, go_sem, hc5]
    · rw [calm_at (by omega) (fun j hj => e2 (back L j) (by simp only [upto, List.mem_map, List.mem_range]; exact ⟨j, hj, rfl⟩)) e3, upto_length]

theorem iCalm_any (w : World) (v : Value) (L : List Bool) (hv : SeesG encB w v L) :
    Calls Try.prog 39 #[v] w fun e w' => e = .returned (.int .i64 (calm L)) ∧ w.grownBy w' none := by
  refine (callsIn_wide (n := 6)).1 ?_
  exact (iCalm_in Fence.wide 6 trivial trivial trivial rfl (by omega) v L w hv).mono fun e w' h => ⟨h.1, below_grown h.2⟩
end Go.Proofs.Ytbpmbbmgmpdhnaa.StC
