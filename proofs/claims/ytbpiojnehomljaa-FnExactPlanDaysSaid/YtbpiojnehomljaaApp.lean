/- An append at a step of a region that draws its order; rows of ints as rows of elements. -/
import Derived.Test.YtbpiojnehomljaaRowE
import Derived.Laws.OwnMore
import Derived.Laws.AppendOwn
import Derived.OwnWalk
namespace Go.Proofs.Ytbpiojnehomljaa.App
open Go.RowKit Kit Rw Rg

/-- 'append(v, u...)' at a step of a region that draws its order: v a row of the call's own, u whatever reads as M. -/
theorem stepG_append {α : Type} {e : Enc α} {P : Program} (w : World) {ops : Array Oper} {o : Oper} {a : Act} {K : Act → World → Prop} {Q : Exit → Act → World → Prop} {E0 : Prop} (hgd : o.guard = none) (s x : Operand) (t : TypeId)
    (ho : o.op = .call { callee := .builtin .append, args := #[s, x], argTypes := #[t, t] })
    (base : Nat) (E : TypeId) (i : TypeInfo) (z : Value) (bytes : Nat) (ht : P.underlying t = some (.slice E)) (hi : P.info? E = some i) (hz : i.zero = some z)
    (hsize : i.size = e.size) (hby : i.bytes = bytes) (hzs : z.cells.size = e.size)
    (v : Value) (L : List α) (hs : a.eval s = v) (hown : OwnG e E w base v L) (u : Value) (M : List α) (hx : a.eval x = u) (hu : SeesG e w u M)
    (h63 : L.length + M.length ≤ maxLen) (hbytes : (L.length + M.length) * bytes ≤ 140737488355328) (w0 : World) (hw0 : w0.grownBy w none) (hbase : w0.heap.size = base)
    (h : ∀ v' w', OwnG e E w' base v' (L ++ M) → w.grownBy w' v.ownBlock → w0.grownBy w' none → K (a.put o.dst v') w') :
    if Region.wanted o (yielded ops a.tmps) = true then Oper.wp P o a w K Q else E0 := by
  have hw : Region.wanted o (yielded ops a.tmps) = true := by simp [Region.wanted, hgd]
  rw [if_pos hw]
  have hlt := hown.lt
  obtain ⟨ho1, hw1⟩ := hown
  have hok := hu.ok
  obtain ⟨ad, cap, rfl, hlc, hcm, hnil, _, hcell⟩ := hu
  have hall : ∀ x ∈ L ++ M, e.ok x := fun x hx => by
    rcases List.mem_append.1 hx with h | h
    · exact hw1 x h
    · exact hok x h
  cases ad with
  | none =>
    have hc := hnil rfl
    subst hc
    have hM : M = [] := List.eq_nil_of_length_eq_zero (by omega)
    subst hM
    have hrun := run_append_owned_none (P := P) (w := w) base t o.type E i e.size ht hi v L.length _ ho1
    have hx' : a.eval x = .slice none 0 0 := by simpa using hx
    unfold Oper.wp
    simp [execOp, ho, resolve, invoke, builtin, hs, hx', hrun, Result.andThen]
    exact h v w ⟨by simpa using ho1, hall⟩ (World.grownBy.refl w _) hw0
  | some ad =>
    obtain ⟨v', w', hr, h2, h3, _⟩ := run_append_own (P := P) w base t o.type E i z e.size bytes ht hi hz hsize hby hzs e.pos v L.length _ ho1 ad M.length cap (flat e M) (flat_len M) (by
      intro j y hy
      have hj : j < M.length * e.size := by rw [← flat_len]; exact (List.getElem?_eq_some_iff.1 hy).1
      rcases hcell with h0 | ⟨b, of, e', hc⟩
      · rw [h0] at hj; simp at hj
      · injection e' with e'
        subst e'
        rw [add_plain, hc j hj, hy]) flat_one h63 hbytes (by rw [← hbase]; exact hw0.size)
    unfold Oper.wp execOp
    simp only [ho, resolve, invoke, builtin, Sem.run_bind, Sem.run_pure, Result.andThen_ok, List.map_toArray, List.map_cons, List.map_nil, hs, hx, hr]
    exact h v' w' ⟨by rw [List.length_append, flat_app]; exact h2, hall⟩ h3 (grown_new hw0 h3 (fun c hc => by have := (hlt c hc).1; omega))

theorem seesI {w : World} {v : Value} {L : List Int} (h : Sees .i64 w v L) : SeesG encI w v L := by
  obtain ⟨a, c, e, h1, h2, h3, h4, h5⟩ := h
  refine ⟨a, c, e, h1, h2, h3, h4, ?_⟩
  rcases h5 with h5 | ⟨b, o, rfl, h6⟩
  · exact .inl h5
  · refine .inr ⟨b, o, rfl, fun j hj => ?_⟩
    have hj' : j < L.length := by simpa [encI] using hj
    rw [h6 j hj']
    have := flat_at (e := encI) (L := L) (j := j) (i := 0) hj' (by decide)
    simp only [encI, Nat.mul_one, Nat.add_zero] at this
    exact this.symm
theorem flat_int : ∀ L : List Int, flat encI L = L.map (Value.int .i64)
  | [] => rfl
  | x :: L => by rw [flat_cons, flat_int L]; rfl
theorem ownI {E : TypeId} {w : World} {base : Nat} {v : Value} {L : List Int} (h : OwnG encI E w base v L) : Rw.Own .i64 E w base v L := by
  refine ⟨?_, h.2⟩
  have h1 := h.1
  rw [flat_int] at h1
  exact h1
/-- Where a row of ints that the call owns is stored into. -/
theorem flip_set {w : World} {base g n cap : Nat} {L : List Int} (h : OwnG encI 3 w base (.slice (some ⟨g, 0, none⟩) n cap) L) (hn : L.length = n) {j : Nat} (hj : j < L.length) {x : Int} (hx : (Lit.int .i64 x).wf = true) :
    OwnG encI 3 (w.setCell ⟨g, j, none⟩ (.int .i64 x)) base (.slice (some ⟨g, 0, none⟩) n cap) (L.set j x) ∧ w.grownBy (w.setCell ⟨g, j, none⟩ (.int .i64 x)) (some g) := by
  have := h.put hn (j := j) (i := 0) (u := .int .i64 x) (x := x) hj (by decide) rfl hx
  simpa [encI] using this
theorem own_at {w : World} {base : Nat} {v : Value} {L : List Int} (h : OwnG encI 3 w base v L) (hL : 0 < L.length) : ∃ g cap, v = .slice (some ⟨g, 0, none⟩) L.length cap := by
  obtain ⟨k, hk⟩ : ∃ k, L.length = k + 1 := ⟨L.length - 1, by omega⟩
  have h1 := h.1
  rw [hk] at h1 ⊢
  obtain ⟨g, cap, h2, _⟩ := World.ownsRow.form h1 (by omega)
  exact ⟨g, cap, h2⟩
end Go.Proofs.Ytbpiojnehomljaa.App
