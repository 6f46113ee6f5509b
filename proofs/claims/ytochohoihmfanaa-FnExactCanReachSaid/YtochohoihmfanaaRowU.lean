/- 'append(v, u...)' at a step of a region that draws its order: v a row of the call's own, u whatever reads so. No condition. -/
import Derived.Test.YtochohoihmfanaaRowE
import Derived.Laws.AppendOwn
import Derived.Maps.AppendAt
import Derived.Laws.AppendOwnNone
import Derived.Deep.AppendLies
namespace Go.Proofs.Ytochohoihmfanaa.Rg
open Go.RowKit Kit Rw

theorem stepG_append_sees {α : Type} {e : Enc α} {P : Program} (w : World) {ops : Array Oper} {o : Oper} {a : Act} {K : Act → World → Prop} {Q : Exit → Act → World → Prop} {Z : Prop} (hgd : o.guard = none) (s x : Operand) (t : TypeId)
    (ho : o.op = .call { callee := .builtin .append, args := #[s, x], argTypes := #[t, t] })
    (base : Nat) (E : TypeId) (i : TypeInfo) (z : Value) (bytes : Nat) (ht : P.underlying t = some (.slice E)) (hi : P.info? E = some i) (hz : i.zero = some z)
    (hsize : i.size = e.size) (hby : i.bytes = bytes) (hzs : z.cells.size = e.size)
    (v : Value) (L : List α) (hs : a.eval s = v) (hown : OwnG e E w base v L) (u : Value) (M : List α) (hx : a.eval x = u) (hu : SeesG e w u M)
    (h63 : L.length + M.length ≤ maxLen) (hbytes : (L.length + M.length) * bytes ≤ 140737488355328) (hbase : base ≤ w.heap.size)
    (h : ∀ v' w', OwnG e E w' base v' (L ++ M) → w.grownBy w' v.ownBlock → K (a.put o.dst v') w') :
    if Region.wanted o (yielded ops a.tmps) = true then Oper.wp P o a w K Q else Z := by
  have hw : Region.wanted o (yielded ops a.tmps) = true := by simp [Region.wanted, hgd]
  rw [if_pos hw]
  obtain ⟨ho1, hw1⟩ := hown
  have hok := hu.ok
  obtain ⟨ad, cap, rfl, hlc, hcm, hnil, _, hcell⟩ := hu
  have hall : ∀ x ∈ L ++ M, e.ok x := fun x hx => by
    rcases List.mem_append.1 hx with h | h
    · exact hw1 x h
    · exact hok x h
  cases ad with
  | none =>
    have hc := hnil rfl
    subst hc
    have hM : M = [] := List.eq_nil_of_length_eq_zero (by omega)
    subst hM
    have hrun := run_append_owned_none (P := P) (w := w) base t o.type E i e.size ht hi v L.length _ ho1
    have hx' : a.eval x = .slice none 0 0 := by simpa using hx
    unfold Oper.wp
    simp [execOp, ho, resolve, invoke, builtin, hs, hx', hrun, Result.andThen]
    exact h v w ⟨by simpa using ho1, hall⟩ (World.grownBy.refl w _)
  | some ad =>
    obtain ⟨v', w', hrun, r1, r2, _⟩ := run_append_own (P := P) w base t o.type E i z e.size bytes ht hi hz hsize hby hzs e.pos v L.length _ ho1 ad M.length cap (flat e M) (flat_len M) (fun j y hy => by
      have hj : j < M.length * e.size := by rw [← flat_len]; exact (List.getElem?_eq_some_iff.1 hy).1
      rcases hcell with h0 | ⟨b, of, e', hc⟩
      · rw [h0] at hj; simp at hj
      · injection e' with e'
        subst e'
        rw [add_plain, hc j hj, hy]) flat_one h63 hbytes hbase
    unfold Oper.wp
    simp [execOp, ho, resolve, invoke, builtin, hs, hx, hrun, Result.andThen]
    exact h v' w' ⟨by rw [List.length_append, flat_app]; exact r1, hall⟩ r2
/-- The same, and where the new value lies: where the old one did, or in a block that is made now. -/
theorem stepG_append_at {α : Type} {e : Enc α} {P : Program} (w : World) {ops : Array Oper} {o : Oper} {a : Act} {K : Act → World → Prop} {Q : Exit → Act → World → Prop} {Z : Prop} (hgd : o.guard = none) (s x : Operand) (t : TypeId)
    (ho : o.op = .call { callee := .builtin .append, args := #[s, x], argTypes := #[t, t] })
    (base : Nat) (E : TypeId) (i : TypeInfo) (z : Value) (bytes : Nat) (ht : P.underlying t = some (.slice E)) (hi : P.info? E = some i) (hz : i.zero = some z)
    (hsize : i.size = e.size) (hby : i.bytes = bytes) (hzs : z.cells.size = e.size)
    (v : Value) (L : List α) (hs : a.eval s = v) (hown : OwnG e E w base v L) (u : Value) (M : List α) (hx : a.eval x = u) (hu : SeesG e w u M)
    (h63 : L.length + M.length ≤ maxLen) (hbytes : (L.length + M.length) * bytes ≤ 140737488355328) (hbase : base ≤ w.heap.size)
    (h : ∀ v' w', OwnG e E w' base v' (L ++ M) → w.grownBy w' v.ownBlock → (v'.ownBlock = v.ownBlock ∨ v'.ownBlock = some w.heap.size) → K (a.put o.dst v') w') :
    if Region.wanted o (yielded ops a.tmps) = true then Oper.wp P o a w K Q else Z := by
  have hw : Region.wanted o (yielded ops a.tmps) = true := by simp [Region.wanted, hgd]
  rw [if_pos hw]
  obtain ⟨ho1, hw1⟩ := hown
  have hok := hu.ok
  obtain ⟨ad, cap, rfl, hlc, hcm, hnil, _, hcell⟩ := hu
  have hall : ∀ x ∈ L ++ M, e.ok x := fun x hx => by
    rcases List.mem_append.1 hx with h | h
    · exact hw1 x h
    · exact hok x h
  cases ad with
  | none =>
    have hc := hnil rfl
    subst hc
    have hM : M = [] := List.eq_nil_of_length_eq_zero (by omega)
    subst hM
    have hrun := run_append_owned_none (P := P) (w := w) base t o.type E i e.size ht hi v L.length _ ho1
    have hx' : a.eval x = .slice none 0 0 := by simpa using hx
    unfold Oper.wp
    simp [execOp, ho, resolve, invoke, builtin, hs, hx', hrun, Result.andThen]
    exact h v w ⟨by simpa using ho1, hall⟩ (World.grownBy.refl w _) (.inl rfl)
  | some ad =>
    obtain ⟨v', w', hrun, r1, r2, _, r3⟩ := run_append_own_at (P := P) w base t o.type E i z e.size bytes ht hi hz hsize hby hzs e.pos v L.length _ ho1 ad M.length cap (flat e M) (flat_len M) (fun j y hy => by
      have hj : j < M.length * e.size := by rw [← flat_len]; exact (List.getElem?_eq_some_iff.1 hy).1
      rcases hcell with h0 | ⟨b, of, e', hc⟩
      · rw [h0] at hj; simp at hj
      · injection e' with e'
        subst e'
        rw [add_plain, hc j hj, hy]) flat_one h63 hbytes hbase
    unfold Oper.wp
    simp [execOp, ho, resolve, invoke, builtin, hs, hx, hrun, Result.andThen]
    exact h v' w' ⟨by rw [List.length_append, flat_app]; exact r1, hall⟩ r2 r3

/-- Two rows in different blocks. -/
def ApartU (t u : Value) : Prop := (t.ownBlock = none ∨ t.ownBlock ≠ u.ownBlock) ∧ (u.ownBlock = none ∨ u.ownBlock ≠ t.ownBlock)
theorem ApartU.symm {t u : Value} (h : ApartU t u) : ApartU u t := ⟨h.2, h.1⟩
theorem apartU_new {α : Type} {e : Enc α} {E : TypeId} {w : World} {base : Nat} {v u : Value} {L : List α} (h : OwnG e E w base v L) (hu : u.ownBlock = some w.heap.size) : ApartU v u := by
  have hn : v.ownBlock ≠ some w.heap.size := fun e => by have := (h.lt _ e).2; omega
  exact ⟨.inr (by rw [hu]; exact hn), .inr (by rw [hu]; exact hn.symm)⟩
theorem apartU_step {α : Type} {e : Enc α} {E : TypeId} {w : World} {base : Nat} {v v' u : Value} {L : List α} (h : OwnG e E w base u L) (ha : ApartU v u) (hv : v'.ownBlock = v.ownBlock ∨ v'.ownBlock = some w.heap.size) : ApartU v' u := by
  rcases hv with hv | hv
  · exact ⟨by rw [hv]; exact ha.1, by rw [hv]; exact ha.2⟩
  · exact (apartU_new h hv).symm
end Go.Proofs.Ytochohoihmfanaa.Rg
