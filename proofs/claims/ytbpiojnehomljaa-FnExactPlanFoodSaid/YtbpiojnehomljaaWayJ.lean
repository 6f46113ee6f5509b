/- Contracts of the program's Reach and WayTo. -/
import Derived.Test.YtbpiojnehomljaaWayI
namespace Go.Proofs.Ytbpiojnehomljaa.WayI
open Go.RowKit Kit Rw Ld Gr GrI Bfs Wf Sr LandI

theorem own_under {k : IntKind} {E : TypeId} {w w' : World} {base B : Nat} {v : Value} {L : List Int} (h : Own k E w base v L) (hb : Below B w w') (hlt : ∀ c, v.ownBlock = some c → c < B) : Own k E w' base v L := by
  obtain ⟨⟨h1, h2⟩, h3⟩ := h
  refine ⟨⟨h1, ?_⟩, h3⟩
  rcases h2 with h2 | ⟨g, cap, cur, e, hg, hh, r⟩
  · exact .inl h2
  · subst e
    exact .inr ⟨g, cap, cur, rfl, hg, (hb.block g (hlt g rfl)).trans hh, r⟩
/-- A search, and a list that grows beside it. -/
structure SL (w wr : World) (bb p : Nat) (g : List Int) (qv : Value) (Q M : List Int) (v : Value) (L : List Int) : Prop where
  sb : SB wr bb p g qv Q M
  own : Own .i64 3 wr (w.heap.size + 1) v L
  off : v.ownBlock ≠ some bb
  apart : qv.ownBlock = none ∨ qv.ownBlock ≠ v.ownBlock
  grown : w.grownBy wr none
  box : ∀ cs, Box wr w.heap.size cs 29 → True
section
variable {w wr wy : World} {bb p : Nat} {g Q M L L' : List Int} {qv v v' : Value}
theorem SL.on (h : SL w wr bb p g qv Q M v L) (hg : wr.grownBy wy none) : SL w wy bb p g qv Q M v L := ⟨h.sb.on hg, h.own.grown hg, h.off, h.apart, grownN_trans h.grown hg, fun _ _ => trivial⟩
theorem SL.more (h : SL w wr bb p g qv Q M v L) (ho : Own .i64 3 wy (w.heap.size + 1) v' L') (hg : wr.grownBy wy v.ownBlock) (hl : v'.ownBlock = v.ownBlock ∨ ∃ c, v'.ownBlock = some c ∧ wr.heap.size ≤ c) : SL w wy bb p g qv Q M v' L' := by
  refine ⟨⟨h.sb.box.kept hg h.off, h.sb.own.kept hg h.apart, h.sb.gl, h.sb.ml⟩, ho, ?_, ?_, grown_new h.grown hg (fun c hc => by have := h.own.lt c hc; omega), fun _ _ => trivial⟩
  · rcases hl with hl | ⟨c, hl, hle⟩
    · rw [hl]; exact h.off
    · rw [hl]; have := h.sb.box.lt; intro e; injection e with e; omega
  · rcases hl with hl | ⟨c, hl, hle⟩
    · rw [hl]; exact h.apart
    · rw [hl]
      cases hq : qv.ownBlock with
      | none => exact .inl rfl
      | some e => have := h.sb.own.lt e hq; exact .inr (fun e' => by injection e' with e'; omega)
end
theorem nearerOf_in {p h n : Nat} {X d : List Int} (hL : isLand p h X = true) (hn : n < X.length) : ∃ m : Nat, nearerOf p X d n = m ∧ m < X.length := by
  unfold nearerOf
  cases hf : (near p n X).find? (fun m => at' d m == at' d n - 1) with
  | none => exact ⟨n, rfl, hn⟩
  | some m =>
    have := near_in hL (by omega) (by omega) (List.mem_of_find?_eq_some hf)
    exact ⟨m.toNat, by simp; omega, by omega⟩
theorem wayAt_in {p h : Nat} {X d : List Int} (hL : isLand p h X = true) : ∀ (k : Nat) (n : Nat), n < X.length → ∃ m : Nat, wayAt p X d k n = m ∧ m < X.length
  | 0, n, hn => ⟨n, rfl, hn⟩
  | k + 1, n, hn => by
    obtain ⟨m, e, hm⟩ := wayAt_in hL k n hn
    obtain ⟨m', e', hm'⟩ := nearerOf_in (d := d) hL hm
    exact ⟨m', by simp only [wayAt]; rw [e, e'], hm'⟩
theorem cut_in {D : Int} {d : List Int} {i : Nat} (hi : i < d.length) (hl : -1 ≤ at' d (i : Int)) : (0 ≤ at' (cut D d) (i : Int)) ↔ inReach d D i = true := by
  rw [cut_at (by omega) (by omega)]
  unfold inReach
  rw [decide_eq_true_eq]
  split <;> omega

end Go.Proofs.Ytbpiojnehomljaa.WayI
