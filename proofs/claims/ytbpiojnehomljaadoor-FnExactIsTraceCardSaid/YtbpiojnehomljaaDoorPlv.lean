/- A package-level variable of plain data (ints, texts, structs and arrays of them): what it holds, from the row's own condition. No condition. -/
import Derived.Lib.LaidTab
import Derived.OpenShut
namespace Go.Proofs.YtbpiojnehomljaaDoor.Plv
open Go Go.Lib

/-- Whatever cells are read as d at the type t, they are cs. -/
def Only (P : Program) (t : TypeId) (d : DataW Unit) (cs : List Value) : Prop :=
  ∀ (enc : TypeId × Value → Unit) (w : World) (base : Nat) (sp : Nat → Bool) (held : Bool) (fuel : Nat) (cs' : List Value) (p : List MemPlace), DataW.trod enc P w base sp held fuel t cs' = some (d, p) → cs' = cs

theorem only_int {P : Program} {t : TypeId} {k : IntKind} {n : Int} (ht : P.underlying t = some (.int k)) : Only P t (.lit (.int k n)) [.int k n] := by
  intro enc w base sp held fuel cs' p h
  cases fuel with
  | zero => simp [DataW.trod] at h
  | succ m =>
    unfold DataW.trod at h
    rw [ht] at h
    split at h <;> simp_all

theorem only_string {P : Program} {t : TypeId} {z : List UInt8} (ht : P.underlying t = some .string) : Only P t (.lit (.string z)) [.string ⟨z.toArray⟩] := by
  intro enc w base sp held fuel cs' p h
  obtain ⟨s, hc, h1, _⟩ := DataW.trod_string ht h
  obtain ⟨h2, -⟩ := Prod.mk.inj h1
  have h3 : z = s.data.toList := by injection h2 with h2; injection h2
  rw [hc, h3]

theorem cut_eq {cs a b : List Value} {n m : Nat} (hl : cs.length = n + m) (h0 : cs.take n = a) (h1 : (cs.drop n).take m = b) : cs = a ++ b := by
  rw [← List.take_append_drop n cs, h0]
  congr 1
  rw [← h1, List.take_of_length_le]
  simp; omega

theorem only_struct2 {P : Program} {t : TypeId} {f0 f1 : Field} {d0 d1 : DataW Unit} {c0 c1 : List Value} (ht : P.underlying t = some (.struct #[f0, f1]))
    (h0 : Only P f0.type d0 c0) (h1 : Only P f1.type d1 c1) (o0 : f0.offset = 0) (o1 : f1.offset = P.cellsOf f0.type) (hn : P.cellsOf t = P.cellsOf f0.type + P.cellsOf f1.type) :
    Only P t (.agg [d0, d1]) (c0 ++ c1) := by
  intro enc w base sp held fuel cs' p h
  obtain ⟨xs, n, _, hx, hl, hlen, hf⟩ := DataW.trod_struct ht h
  match xs, hlen with
  | [y0, y1], _ =>
    obtain ⟨hd, -⟩ := Prod.mk.inj hx
    simp at hd
    obtain ⟨rfl, rfl⟩ := hd
    have g0 := hf 0 f0 rfl
    have g1 := hf 1 f1 rfl
    simp only [List.getElem?_cons_zero, List.getElem?_cons_succ] at g0 g1
    have e0 := h0 _ _ _ _ _ _ _ y0.2 g0
    have e1 := h1 _ _ _ _ _ _ _ y1.2 g1
    rw [o0, List.drop_zero] at e0
    rw [o1] at e1
    exact cut_eq (by omega) e0 e1

theorem only_ints4 {P : Program} {t e : TypeId} {f0 f1 f2 f3 : Field} {n0 n1 n2 n3 : Int} (ht : P.underlying t = some (.struct #[f0, f1, f2, f3])) (he : P.underlying e = some (.int .i64)) (hc : P.cellsOf e = 1) (hn : P.cellsOf t = 4)
    (q0 : f0.type = e ∧ f0.offset = 0) (q1 : f1.type = e ∧ f1.offset = 1) (q2 : f2.type = e ∧ f2.offset = 2) (q3 : f3.type = e ∧ f3.offset = 3) :
    Only P t (.agg [.lit (.int .i64 n0), .lit (.int .i64 n1), .lit (.int .i64 n2), .lit (.int .i64 n3)]) [.int .i64 n0, .int .i64 n1, .int .i64 n2, .int .i64 n3] := by
  intro enc w base sp held fuel cs' p h
  obtain ⟨xs, n, _, hx, hl, hlen, hf⟩ := DataW.trod_struct ht h
  match xs, hlen with
  | [y0, y1, y2, y3], _ =>
    obtain ⟨hd, -⟩ := Prod.mk.inj hx
    simp at hd
    have g0 := hf 0 f0 rfl
    have g1 := hf 1 f1 rfl
    have g2 := hf 2 f2 rfl
    have g3 := hf 3 f3 rfl
    simp only [List.getElem?_cons_zero, List.getElem?_cons_succ, q0.1, q0.2, q1.1, q1.2, q2.1, q2.2, q3.1, q3.2, hc] at g0 g1 g2 g3
    rw [hn] at hl
    match cs', hl with
    | [a, b, c, d], _ =>
      simp only [List.drop_zero, List.drop_succ_cons, List.take_succ_cons, List.take_zero] at g0 g1 g2 g3
      have e0 := only_int (n := n0) he _ _ _ _ _ _ _ y0.2 (by rw [g0, show (DataW.lit (.int .i64 n0) : DataW Unit) = y0.1 from hd.1])
      have e1 := only_int (n := n1) he _ _ _ _ _ _ _ y1.2 (by rw [g1, show (DataW.lit (.int .i64 n1) : DataW Unit) = y1.1 from hd.2.1])
      have e2 := only_int (n := n2) he _ _ _ _ _ _ _ y2.2 (by rw [g2, show (DataW.lit (.int .i64 n2) : DataW Unit) = y2.1 from hd.2.2.1])
      have e3 := only_int (n := n3) he _ _ _ _ _ _ _ y3.2 (by rw [g3, show (DataW.lit (.int .i64 n3) : DataW Unit) = y3.1 from hd.2.2.2])
      simp_all

theorem only_array3 {P : Program} {t e : TypeId} {d0 d1 d2 : DataW Unit} {c0 c1 c2 : List Value} {m : Nat} (ht : P.underlying t = some (.array 3 e)) (hc : P.cellsOf e = m) (hn : P.cellsOf t = m + (m + m))
    (h0 : Only P e d0 c0) (h1 : Only P e d1 c1) (h2 : Only P e d2 c2) : Only P t (.agg [d0, d1, d2]) (c0 ++ (c1 ++ c2)) := by
  intro enc w base sp held fuel cs' p h
  obtain ⟨xs, n, _, hx, hl, hlen, hf⟩ := DataW.trod_array ht h
  match xs, hlen with
  | [y0, y1, y2], _ =>
    obtain ⟨hd, -⟩ := Prod.mk.inj hx
    simp at hd
    obtain ⟨rfl, rfl, rfl⟩ := hd
    have g0 := hf 0 (by omega)
    have g1 := hf 1 (by omega)
    have g2 := hf 2 (by omega)
    simp only [List.getElem?_cons_zero, List.getElem?_cons_succ, hc, Nat.zero_mul, Nat.one_mul, List.drop_zero] at g0 g1 g2
    have e0 := h0 _ _ _ _ _ _ _ y0.2 g0
    have e1 := h1 _ _ _ _ _ _ _ y1.2 g1
    have e2 := h2 _ _ _ _ _ _ _ y2.2 g2
    refine cut_eq (n := m) (m := m + m) (by omega) e0 ?_
    have hlen2 : (cs'.drop m).length = m + m := by simp; omega
    have := cut_eq (n := m) (m := m) (b := c2) hlen2 e1 (by rw [List.drop_drop]; rw [show 2 * m = m + m by omega] at e2; exact e2)
    rw [List.take_of_length_le (by omega)]
    exact this

theorem of_head {P : Program} {W : World} {name : String} {d : DataW Unit} {cs : List Value} {rest : List (String × DataW Unit)} {g : Nat} {t : TypeId}
    (hg : P.globalNamed name = some g) (hty : (P.globals[g]?).map (·.type) = some t) (ho : Only P t d cs)
    (h : laidMet P ((name, d) :: rest) W) : W.var? P name = some cs.toArray := by
  obtain ⟨ps, ⟨g', t', cs', fuel, p, q, hg', ht', hvar, hd, _, _⟩, _⟩ := h
  obtain rfl := Option.some.inj (hg.symm.trans hg')
  obtain rfl := Option.some.inj (hty.symm.trans ht')
  have := ho _ _ _ _ _ _ _ _ hd
  rw [hvar, ← this]
end Go.Proofs.YtbpiojnehomljaaDoor.Plv
