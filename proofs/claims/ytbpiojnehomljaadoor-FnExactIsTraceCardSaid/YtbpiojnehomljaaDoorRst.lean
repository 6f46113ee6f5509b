/- A range over a function whose iterator writes cells of its own: the law for a loop body that writes one box, or writes another and leaves the function. No condition. -/
import Derived.Test.YtbpiojnehomljaaDoorMBase
import Derived.RangeFuncNested
import Derived.RangeFuncBound
import Derived.RangeFuncCalls
import Derived.RangeFuncLeaves
import Derived.RangeFuncBox
import Derived.Shelf.Abstract
import Derived.Shelf.RegionOpen
import Derived.OwnWalkIn
import Derived.TacticsInMore
import Derived.LoopNIn
import Derived.LoopIn
import Derived.Lib.OthersKept
namespace Go.Proofs.YtbpiojnehomljaaDoor.Rst
open Go.RowKit Go.Shelf Kit Rw

/-- All but two blocks is as it was. -/
structure K2 (x y : Nat) (W W' : World) : Prop where
  os : W'.os = W.os
  tape : W'.tape = W.tape
  output : W'.output = W.output
  size : W.heap.size ≤ W'.heap.size
  same : ∀ k, k < W.heap.size → k ≠ x → k ≠ y → W'.heap[k]? = W.heap[k]?
theorem K2.refl (x y : Nat) (W : World) : K2 x y W W := ⟨rfl, rfl, rfl, Nat.le_refl _, fun _ _ _ _ => rfl⟩
theorem K2.trans {x y : Nat} {A B C : World} (h : K2 x y A B) (k : K2 x y B C) : K2 x y A C :=
  ⟨k.os.trans h.os, k.tape.trans h.tape, k.output.trans h.output, Nat.le_trans h.size k.size, fun i hi h1 h2 => (k.same i (Nat.lt_of_lt_of_le hi h.size) h1 h2).trans (h.same i hi h1 h2)⟩
theorem K2.of {x y : Nat} {A B : World} {r : Option Nat} (h : A.grownBy B r) (hr : ∀ c, r = some c → A.heap.size ≤ c ∨ c = x ∨ c = y) : K2 x y A B :=
  ⟨h.os, h.tape, h.output, h.size, fun i hi h1 h2 => h.block i hi (fun e => by have := hr i e.symm; omega)⟩
/-- From a world on: a write into what has been made since. -/
theorem K2.new {x y : Nat} {A B C : World} {r : Option Nat} (h : K2 x y A B) (k : B.grownBy C r) (hr : ∀ c, r = some c → A.heap.size ≤ c) : K2 x y A C :=
  ⟨k.os.trans h.os, k.tape.trans h.tape, k.output.trans h.output, Nat.le_trans h.size k.size, fun i hi h1 h2 => (k.block i (Nat.lt_of_lt_of_le hi h.size) (fun e => by have := hr i e.symm; omega)).trans (h.same i hi h1 h2)⟩
theorem K2.below {x y : Nat} {A B : World} {n : Nat} (h : K2 x y A B) (hn : n ≤ A.heap.size) (hx : n ≤ x) (hy : n ≤ y) : Below n A B :=
  ⟨h.os, h.tape, h.output, h.size, fun k hk => h.same k (by omega) (by omega) (by omega)⟩
theorem grown_of {A B C : World} {r s : Option Nat} (h : A.grownBy B none) (k : B.grownBy C s) (hs : ∀ c, s = some c → A.heap.size ≤ c ∨ r = some c) : A.grownBy C r :=
  ⟨k.os.trans h.os, k.tape.trans h.tape, k.output.trans h.output, Nat.le_trans h.size k.size, fun i hi hr => (k.block i (Nat.lt_of_lt_of_le hi h.size) (fun e => by rcases hs i e.symm with h' | h'
                                                                                                                                                                    · omega
                                                                                                                                                                    · exact hr h'.symm)).trans (h.block i hi (fun e => by cases e))⟩
theorem range_stop {α : Type} {m : Nat} {P : Program} {g : Operand} {ps : Array Tmp} {assign body : Code} {Q : Exit → Act → World → Prop} {a : Act} {w : World}
    {gf : Nat} {lb : Array Value} (hg : a.eval g = .func (.func gf) #[] lb) (eg : ∀ args w, (callFunc gf args).run P w = .ok (.enter gf args) w)
    (encs : α → Array Value) (hps : ∀ x, (encs x).size = ps.size) (LA R : Nat) (hLA : LA < w.heap.size) (hR : R < w.heap.size) (ds : List α)
    (J : List α → World → Prop) (hJ : ∀ s W W' row, J s W → W.grownBy W' row → (∀ r, row = some r → w.heap.size ≤ r) → J s W') (h0 : J [] w)
    (Jx : World → Prop) (hJx : ∀ W W' row, Jx W → W.grownBy W' row → (∀ r, row = some r → w.heap.size ≤ r) → Jx W')
    (hiter : ∀ W1, w.grownBy W1 none → W1.heap.size = w.heap.size + 2 → ∀ (J' : List α → World → Prop) (Jx' : World → Prop), (∀ s W W' row, J' s W → W.grownBy W' row → (∀ r, row = some r → W1.heap.size ≤ r) → J' s W') → (∀ W W' row, Jx' W → W.grownBy W' row → (∀ r, row = some r → W1.heap.size ≤ r) → Jx' W') →
       (∀ pre x post W, ds = pre ++ x :: post → J' pre W → YieldAt Fence.wide m P (w.heap.size + 1) (encs x) W fun e W' => (e = .returned (.bool true) ∧ J' (pre ++ [x]) W' ∧ K2 LA (w.heap.size + 1) W W') ∨ (e = .returned (.bool false) ∧ Jx' W')) → J' [] W1 →
       CallsIn Fence.wide (m + 1) P gf (#[.func (.yield (w.heap.size + 1)) #[] #[]] ++ lb) W1 fun e W' => (∃ v, e = .returned v) ∧ (J' ds W' ∨ Jx' W'))
    (A : α → Act → World → Prop) (hA : ∀ x a' W W', A x a' W → W.grownBy W' (some (w.heap.size + 1)) → A x a' W')
    (hassign : ∀ l pre x W (K : Act → World → Prop), J pre W → w.heap.size + 2 ≤ W.heap.size → (∀ a' W', W.grownBy W' none → A x a' W' → K a' W') →
      assign.wpIn (Fence.wide.inRound l) m P (Exit.then K (fun _ _ _ => False)) { tmps := (ps.zip (encs x)).foldl (fun t (p, v) => t.setIfInBounds p v) a.tmps, defers := [] } W)
    (hbody : ∀ l pre x post a' W, ds = pre ++ x :: post → J pre W → A x a' W → body.wpIn (Fence.wide.inRound l) m P (fun e _ W' => (e = .normal ∧ W.grownBy W' (some LA) ∧ J (pre ++ [x]) W') ∨ (e = .ret ∧ W.grownBy W' (some R) ∧ Jx W')) a' W)
    (hdone : ∀ W, J ds W → W.heap[w.heap.size]? = some (.deferred (some [])) → Q .normal { a with defers := { target := .collected w.heap.size, args := #[] } :: a.defers } W)
    (hstop : ∀ W, Jx W → W.heap[w.heap.size]? = some (.deferred (some [])) → Code.ret.wpIn Fence.wide (m + 2) P Q { a with defers := { target := .collected w.heap.size, args := #[] } :: a.defers } W) :
    (Code.rangeFunc g ps assign body).wpIn Fence.wide (m + 2) P Q a w := by
  refine wpIn_rangeFunc ?_
  intro fn hfn
  obtain ⟨rec, hrec⟩ : ∃ rec : LoopState → Option Code → Loop, rec = fun st pe => { state := st, pending := pe, fn, tmps := a.tmps, params := ps, assign, body, defers := w.heap.size } := ⟨_, rfl⟩
  obtain ⟨W1, hW1⟩ : ∃ W1, (w.alloc (.deferred (some []))).alloc (.loop (rec .ready none)) = W1 := ⟨_, rfl⟩
  have hL1 : W1.heap[w.heap.size + 1]? = some (.loop (rec .ready none)) := by
    rw [← hW1]; have := World.alloc_heap_new (w.alloc (.deferred (some []))) (.loop (rec .ready none)); rwa [World.size_alloc] at this
  have hK1 : W1.heap[w.heap.size]? = some (.deferred (some [])) := by
    rw [← hW1]; exact (Below.heap_alloc _ _ _ (by simp)).trans (World.alloc_heap_new w _)
  have hg1 : w.grownBy W1 none := by rw [← hW1]; exact grownN_trans (World.grownBy_alloc _ _ _) (World.grownBy_alloc _ _ _)
  have hs1 : W1.heap.size = w.heap.size + 2 := by rw [← hW1]; simp
  refine ⟨w.heap.size + 1, [{ target := .collected w.heap.size, args := #[] }], W1, { target := .fn (.func gf) lb, args := #[.func (.yield (w.heap.size + 1)) #[] #[]] }, W1, gf,
    #[.func (.yield (w.heap.size + 1)) #[] #[]] ++ lb, W1, ?_, ?_, fun _ _ => trivial, ?_, fun _ => by omega, ?_⟩
  · rw [← hW1, hrec]; exact run_enterLoop_outer _ _ _ _ _
  · simp only [resolve, hg]
    simp [go_sem]
  · simp [invoke, go_sem, eg]
  · refine (hiter W1 hg1 hs1
      (fun pre W => J pre W ∧ W.heap[w.heap.size + 1]? = some (.loop (rec .ready none)) ∧ W.heap[w.heap.size]? = some (.deferred (some [])))
      (fun W => Jx W ∧ W.heap[w.heap.size + 1]? = some (.loop (rec .done (some .ret))) ∧ W.heap[w.heap.size]? = some (.deferred (some [])))
      (fun s X Y row hs hg' hr => ⟨hJ s X Y row hs.1 hg' (fun r e => by have := hr r e; omega),
        (hg'.block _ (Array.getElem?_eq_some_iff.1 hs.2.1).1 (fun e => by have := hr _ e.symm; omega)).trans hs.2.1,
        (hg'.block _ (Array.getElem?_eq_some_iff.1 hs.2.2).1 (fun e => by have := hr _ e.symm; omega)).trans hs.2.2⟩)
      (fun X Y row hs hg' hr => ⟨hJx X Y row hs.1 hg' (fun r e => by have := hr r e; omega),
        (hg'.block _ (Array.getElem?_eq_some_iff.1 hs.2.1).1 (fun e => by have := hr _ e.symm; omega)).trans hs.2.1,
        (hg'.block _ (Array.getElem?_eq_some_iff.1 hs.2.2).1 (fun e => by have := hr _ e.symm; omega)).trans hs.2.2⟩)
      ?_ ⟨hJ _ _ _ none h0 hg1 (fun _ e => by cases e), hL1, hK1⟩).mono ?_
    · rintro pre x post W hds ⟨hi, hl, hk⟩
      have hlt : w.heap.size + 1 < W.heap.size := (Array.getElem?_eq_some_iff.1 hl).1
      have hy := run_yield (P := P) (args := encs x) hl (by rw [hrec]; exact hps x)
      rw [hrec] at hy
      refine ⟨fn, _, assign, body, hy, roundIn_of_wpIn hfn (hassign _ pre x W _ hi (by omega) ?_)⟩
      clear hy
      intro a' Wa hga hax
      have hla : Wa.heap[w.heap.size + 1]? = some (.loop (rec .ready none)) := (hga.block _ hlt (fun e => by cases e)).trans hl
      have hka : Wa.heap[w.heap.size]? = some (.deferred (some [])) := (hga.block _ (by omega) (fun e => by cases e)).trans hk
      have hia := hJ _ _ _ none hi hga (fun _ e => by cases e)
      refine ⟨_, run_beginRound hla (by rw [hrec]), ?_⟩
      have hlta : w.heap.size + 1 < Wa.heap.size := (Array.getElem?_eq_some_iff.1 hla).1
      have hg2 := grownBy_putObj' Wa (w.heap.size + 1) (.loop { rec .ready none with state := .busy })
      have hl2 : (Wa.putObj (w.heap.size + 1) (.loop { rec .ready none with state := .busy })).heap[w.heap.size + 1]? = some (.loop { rec .ready none with state := .busy }) := World.putObj_heap_same hlta
      have hk2 : (Wa.putObj (w.heap.size + 1) (.loop { rec .ready none with state := .busy })).heap[w.heap.size]? = some (.deferred (some [])) := (World.putObj_heap_other (by omega)).trans hka
      have hi2 := hJ _ _ _ _ hia hg2 (fun r e => by injection e with e; omega)
      refine wpIn_mono (hbody _ pre x post a' _ hds hi2 (hA _ _ _ _ hax hg2)) ?_
      rintro e a3 W3 (⟨rfl, hg3, hi3⟩ | ⟨rfl, hg3, hi3⟩)
      · have hl3 := (hg3.block _ (Array.getElem?_eq_some_iff.1 hl2).1 (fun e => by injection e with e; omega)).trans hl2
        have hk3 := (hg3.block _ (Array.getElem?_eq_some_iff.1 hk2).1 (fun e => by injection e with e; omega)).trans hk2
        have hg4 := grownBy_putObj' W3 (w.heap.size + 1) (.loop (rec .ready none))
        have hr := run_endRound (P := P) none hl3
        have hr' : (Instr.endRound (w.heap.size + 1) none).run P W3 = .ok (.bool true) (W3.putObj (w.heap.size + 1) (.loop (rec .ready none))) := by rw [hr, hrec]; rfl
        refine ⟨_, _, hr', .inl ⟨rfl, ⟨hJ _ _ _ _ hi3 hg4 (fun r e => by injection e with e; omega), World.putObj_heap_same (Array.getElem?_eq_some_iff.1 hl3).1, (World.putObj_heap_other (by omega)).trans hk3⟩, ?_⟩⟩
        exact (((K2.of (x := LA) (y := w.heap.size + 1) hga (fun c e => by cases e)).trans (K2.of hg2 (fun c e => by injection e with e; omega))).trans (K2.of hg3 (fun c e => by injection e with e; omega))).trans (K2.of hg4 (fun c e => by injection e with e; omega))
      · have hl3 := (hg3.block _ (Array.getElem?_eq_some_iff.1 hl2).1 (fun e => by injection e with e; omega)).trans hl2
        have hk3 := (hg3.block _ (Array.getElem?_eq_some_iff.1 hk2).1 (fun e => by injection e with e; omega)).trans hk2
        have hg4 := grownBy_putObj' W3 (w.heap.size + 1) (.loop (rec .done (some .ret)))
        have hr := run_endRound (P := P) (some .ret) hl3
        have hr' : (Instr.endRound (w.heap.size + 1) (some .ret)).run P W3 = .ok (.bool false) (W3.putObj (w.heap.size + 1) (.loop (rec .done (some .ret)))) := by rw [hr, hrec]; rfl
        exact ⟨_, _, hr', .inr ⟨rfl, hJx _ _ _ hi3 hg4 (fun r e => by injection e with e; omega), World.putObj_heap_same (Array.getElem?_eq_some_iff.1 hl3).1, (World.putObj_heap_other (by omega)).trans hk3⟩⟩
    · rintro e W2 ⟨⟨v, rfl⟩, (⟨hi, hl, hk⟩ | ⟨hi, hl, hk⟩)⟩
      · exact ⟨none, _, by have := run_endLoop (P := P) hl (by rw [hrec]; simp); rw [hrec] at this; exact this, hdone _ (hJ _ _ _ _ hi (grownBy_putObj' _ _ _) (fun r e => by injection e with e; omega)) ((World.putObj_heap_other (by omega)).trans hk)⟩
      · exact ⟨some .ret, _, by have := run_endLoop (P := P) hl (by rw [hrec]; simp); rw [hrec] at this; exact this, hstop _ (hJx _ _ _ hi (grownBy_putObj' _ _ _) (fun r e => by injection e with e; omega)) ((World.putObj_heap_other (by omega)).trans hk)⟩
end Go.Proofs.YtbpiojnehomljaaDoor.Rst
