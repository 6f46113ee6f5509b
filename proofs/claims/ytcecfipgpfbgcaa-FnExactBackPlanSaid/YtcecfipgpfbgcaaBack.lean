/- The library's iterator over a row of legs from its end, for every loop body that keeps what lies below a block, and its own box. -/
import Derived.Test.YtcecfipgpfbgcaaRowM
import Derived.RangeFuncNested
import Derived.RangeFuncBound
import Derived.RangeFuncCalls
import Derived.RangeFuncLeaves
import Derived.RangeFuncBox
import Derived.Shelf.Abstract
import Derived.Shelf.RegionOpen
import Derived.OwnWalkIn
import Derived.TacticsInMore
import Derived.LoopNIn
import Derived.LoopIn
import Derived.Maps.AppendAt
namespace Go.Proofs.Ytcecfipgpfbgcaa.Bck
open Go.RowKit Go.Shelf Kit Rw Rg
attribute [local go_sem] Oper.semAt_some

abbrev G2 := Int × Int
/-- What has come when k rounds are over. -/
def upto {α : Type} (f : Nat → α) (k : Nat) : List α := (List.range k).map f
theorem upto_succ {α : Type} (f : Nat → α) (k : Nat) : upto f (k + 1) = upto f k ++ [f k] := by simp [upto, List.range_succ]
theorem upto_length {α : Type} (f : Nat → α) (k : Nat) : (upto f k).length = k := by simp [upto]
/-- The rth index from the end; what comes is an index of the row. -/
def fromEnd (N r : Nat) : Nat := N - 1 - r
abbrev Ix (N : Nat) := { i : Nat // i < N }
theorem come_next {N m : Nat} (h : m < N) : upto (fromEnd N) (N - m) = upto (fromEnd N) (N - (m + 1)) ++ [m] := by
  rw [show N - m = (N - (m + 1)) + 1 by omega, upto_succ]
  congr 2
  unfold fromEnd
  omega
/-- What a round keeps: all below n₀, and the block Bs. -/
def Keep (n₀ Bs : Nat) (W W' : World) : Prop := Below n₀ W W' ∧ W'.heap[Bs]? = W.heap[Bs]?
theorem Keep.refl (n₀ Bs : Nat) (W : World) : Keep n₀ Bs W W := ⟨Below.refl _ _, rfl⟩
theorem Keep.trans {n₀ Bs : Nat} {A B C : World} (h : Keep n₀ Bs A B) (k : Keep n₀ Bs B C) : Keep n₀ Bs A C := ⟨h.1.trans k.1, k.2.trans h.2⟩
theorem keep_b {n₀ Bs : Nat} {w : World} (hn : n₀ ≤ w.heap.size) (hB : Bs < w.heap.size) (W : World) (l : Nat) (o o' : Obj) (hl : w.heap.size ≤ l) (h : W.heap[l]? = some o) (h1 : o.isCells = false) (h2 : o.isWalk = false) : Keep n₀ Bs W (W.putObj l o') :=
  ⟨belowK_b hn W l o o' hl h h1 h2, (grownBy_putObj' W l o').block Bs (by have := (Array.getElem?_eq_some_iff.1 h).1; omega) (fun e => by cases e; omega)⟩
/-- The slice value sv holds the legs L, in a block below n₀; or there are none. -/
def Legs (n₀ : Nat) (W : World) (a : Option Addr) (L : List G2) : Prop :=
  ∀ j, j < L.length → ∃ b o, a = some ⟨b, o, none⟩ ∧ b < n₀ ∧ W.cell? ⟨b, o + j * 2, none⟩ = some (.int .i64 (L.getD j (0, 0)).1) ∧ W.cell? ⟨b, o + j * 2 + 1, none⟩ = some (.int .i64 (L.getD j (0, 0)).2)
theorem Legs.below {n₀ : Nat} {A B : World} {a : Option Addr} {L : List G2} (hL : Legs n₀ A a L) (h : Below n₀ A B) : Legs n₀ B a L := fun j hj => by
  obtain ⟨b, o, e, hb, h0, h1⟩ := hL j hj
  exact ⟨b, o, e, hb, (h.cell (p := ⟨b, o + j * 2, none⟩) hb).trans h0, (h.cell (p := ⟨b, o + j * 2 + 1, none⟩) hb).trans h1⟩
theorem legs_of {w : World} {a : Option Addr} {n cap : Nat} {L : List G2} (h : SeesG encP w (.slice a n cap) L) : Legs w.heap.size w a L := fun j hj => by
  obtain ⟨b, o, rfl, hb, _⟩ := h.at_row hj
  obtain ⟨e0, e1⟩ := h.atP hj
  exact ⟨b, o, rfl, hb, e0, by rw [Nat.add_assoc]; exact e1⟩
def encs (L : List G2) (x : Ix L.length) : Array Value := #[.int .i64 (x.1 : Int), .agg #[.int .i64 (L.getD x.1 (0, 0)).1, .int .i64 (L.getD x.1 (0, 0)).2]]

set_option maxRecDepth 100000 in
set_option maxHeartbeats 2000000 in
theorem back1_in (F : Fence) (n : Nat) (h7 : F.fn 43) (hro : F.round = none) (hn : 1 ≤ n) (l Bs n₀ : Nat) (a : Option Addr) (cap : Nat) (L : List G2) (hlen : L.length ≤ 1000000000) (J Jx : List (Ix L.length) → World → Prop)
    (hY : ∀ pre x W, J pre W → pre.length < L.length → YieldAt F (n - 1) Try.prog l (encs L x) W fun e W' =>
      (e = .returned (.bool true) ∧ J (pre ++ [x]) W' ∧ Keep n₀ Bs W W') ∨ (e = .returned (.bool false) ∧ Jx (pre ++ [x]) W'))
    (W : World) (hBs : Boxed W Bs 37 (.slice a L.length cap)) (hc : Legs n₀ W a L) (h0 : J [] W) :
    CallsIn F n Try.prog 43 #[.func (.yield l) #[] #[], .pointer (some ⟨Bs, 0, none⟩)] W fun e W' => (∃ v, e = .returned v) ∧
      ((∃ ys : List (Ix L.length), ys.map (·.1) = upto (fromEnd L.length) L.length ∧ J ys W') ∨ (∃ pre : List (Ix L.length), (∃ k, k ≤ L.length ∧ pre.map (·.1) = upto (fromEnd L.length) k) ∧ Jx pre W')) := by
  have hb0 := hBs.cell
  refine callsIn_of_wp Try.func43 rfl h7 ?_ hro
  simp only [Try.ntmps43, List.size_toArray, List.length_cons, List.length_nil, Nat.reduceAdd, Nat.reduceSub, Array.replicate_succ, Array.replicate_zero, List.push_toArray, List.append_toArray, List.nil_append, List.cons_append]
  gi_wp2
  gi_loopw [3] (fun i wr => ∃ m : Nat, m ≤ L.length ∧ i = .int .i64 ((m : Int) - 1) ∧ (∃ pre : List (Ix L.length), pre.map (·.1) = upto (fromEnd L.length) (L.length - m) ∧ J pre wr) ∧ Keep n₀ Bs W wr)
    (fun i _ => (intOf i + 1).toNat)
  case atStart => exact ⟨L.length, Nat.le_refl _, by simp, ⟨[], by rw [Nat.sub_self]; rfl, h0⟩, Keep.refl _ _ _⟩
  case round =>
    obtain ⟨m, hm, rfl, ⟨pre, hpre, hJs⟩, hnx⟩ := hrel
    have hbx : Boxed _ Bs 37 (.slice a L.length cap) := hnx.2.trans hBs
    have hbc := hbx.cell
    cases m with
    | zero =>
      rw [Nat.sub_zero] at hpre
      gi_wp2
      go_end0
      exact ⟨⟨_, rfl⟩, .inl ⟨_, hpre, hJs⟩⟩
    | succ m =>
      have hml : m < L.length := by omega
      obtain ⟨b, o, rfl, hb, e0, e1⟩ := (hc.below hnx.1) m hml
      obtain ⟨x, hx⟩ : ∃ x, x = L.getD m (0, 0) := ⟨_, rfl⟩
      rw [← hx] at e0 e1
      have hpl : pre.length = L.length - (m + 1) := by have := congrArg List.length hpre; rw [List.length_map, upto_length] at this; exact this
      have hYm := hY pre ⟨m, hml⟩ _ hJs (by omega)
      unfold encs at hYm
      dsimp only at hYm
      rw [← hx] at hYm
      obtain ⟨x0, x1⟩ := x
      dsimp only at e0 e1 hYm
      have he : ((m + 1 : Nat) : Int) - 1 = (m : Int) := by omega
      rw [he]
      obtain ⟨fn, tmps, assign, body, hy, hR⟩ := hYm
      gi_wp2
      refine hR.mono ?_
      rintro e W3 (⟨rfl, hJ3, hk3⟩ | ⟨rfl, hJx3⟩)
      · gi_wp2
        go_roundw
        case rel => exact ⟨m, by omega, by simp, ⟨_, by rw [come_next hml, List.map_append, hpre]; rfl, hJ3⟩, hnx.trans hk3⟩
        case measure => simp [intOf]
      · gi_wp2
        refine bodyPost_ret (results_none rfl _ _ _) rfl ?_
        exact ⟨⟨_, rfl⟩, .inr ⟨_, ⟨L.length - m, by omega, by rw [come_next hml, List.map_append, hpre]; rfl⟩, hJx3⟩⟩

set_option maxHeartbeats 1000000 in
theorem back_in (F : Fence) (n : Nat) (h5 : F.fn 36) (hro : F.round = none) (a : Option Addr) (len cap : Nat) (w : World) :
    CallsIn F n Try.prog 36 #[.slice a len cap] w fun e w' => e = .returned (.func (.func 43) #[] #[.pointer (some ⟨w.heap.size, 0, none⟩)]) ∧ w' = w.alloc (.cells #[.slice a len cap] 37) := by
  refine callsIn_of_wp Try.func36 rfl h5 ?_ hro
  simp only [Try.ntmps36, List.size_toArray, List.length_cons, List.length_nil, Nat.reduceAdd, Nat.reduceSub, Array.replicate_succ, Array.replicate_zero, List.push_toArray, List.append_toArray, List.nil_append, List.cons_append]
  gi_wp2
  go_ret
  exact ⟨rfl, rfl⟩

theorem back_stops (F : Fence) (n : Nat) (h8 : F.fn 43) (hro : F.round = none) (hn : 1 ≤ n) (Bs n₀ : Nat) (a : Option Addr) (cap : Nat) (L : List G2) (hlen : L.length ≤ 1000000000) (w : World) (hBs : Boxed w Bs 37 (.slice a L.length cap)) (hn₀ : n₀ ≤ w.heap.size) (hI : Legs n₀ w a L) :
    SeqStopsK F n Try.prog 43 #[.pointer (some ⟨Bs, 0, none⟩)] (encs L) (Keep n₀ Bs) (fun ys => ys.map (·.1) = upto (fromEnd L.length) L.length) (fun pre => ∃ k, k ≤ L.length ∧ pre.map (·.1) = upto (fromEnd L.length) k) L.length w := fun l J Jx W hW _ _ hY h0 =>
  back1_in F n h8 hro hn l Bs n₀ a cap L hlen J Jx hY W ((hW.block Bs hBs.lt).trans hBs) (hI.below (hW.mono hn₀)) h0
end Go.Proofs.Ytcecfipgpfbgcaa.Bck
