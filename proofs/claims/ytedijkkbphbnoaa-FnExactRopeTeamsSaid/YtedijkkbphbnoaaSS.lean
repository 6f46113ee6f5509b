/- Rows of rows of ints that a call owns: how they go on, and the laws' helpers on them. No condition. -/
import Derived.Test.YtedijkkbphbnoaaRopeF
import Derived.Test.YtedijkkbphbnoaaLawsI
import Derived.IntWalk
import Derived.Deep.RegionLaw
import Derived.Deep.RegionHeld3
namespace Go.Proofs.Ytedijkkbphbnoaa.Rop
open Go.RowKit Kit Rw Rg

def sv (x : SV) : Value := .slice x.a x.n x.c
def dV : SV := ⟨none, 0, 0⟩
/-- 't' owns a row of rows of its own, in blocks from 'base' on, that hold T; no two of them share a block. -/
structure SS (w : World) (base : Nat) (t : Value) (Vs : List SV) (T : List (List Int)) : Prop where
  out : OwnG encV 34 w base t Vs
  len : T.length = Vs.length
  inn : ∀ i, i < Vs.length → Own .i64 3 w base (sv (Vs.getD i dV)) (T.getD i [])
  offO : ∀ i, i < Vs.length → ∀ g, (sv (Vs.getD i dV)).ownBlock = some g → t.ownBlock ≠ some g
  offI : ∀ i j, i < Vs.length → j < Vs.length → i ≠ j → ∀ g, (sv (Vs.getD i dV)).ownBlock = some g → (sv (Vs.getD j dV)).ownBlock ≠ some g
theorem ne_of {u v : Value} (h : ∀ g, u.ownBlock = some g → v.ownBlock ≠ some g) : u.ownBlock = none ∨ u.ownBlock ≠ v.ownBlock := by
  cases e : u.ownBlock with
  | none => exact .inl rfl
  | some g => exact .inr (fun e2 => h g e e2.symm)
theorem flat_int : ∀ L : List Int, flat encI L = L.map (Value.int .i64)
  | [] => rfl
  | x :: L => by rw [flat_cons, flat_int L]; rfl
theorem ownI {E : TypeId} {w : World} {base : Nat} {v : Value} {L : List Int} (h : OwnG encI E w base v L) : Own .i64 E w base v L := by
  refine ⟨?_, h.2⟩
  have h1 := h.1
  rw [flat_int] at h1
  exact h1
section
variable {w w' : World} {base : Nat} {t : Value} {Vs : List SV} {T : List (List Int)}
theorem SS.grown (h : SS w base t Vs T) (hg : w.grownBy w' none) : SS w' base t Vs T := ⟨h.out.grown hg, h.len, fun i hi => (h.inn i hi).grown hg, h.offO, h.offI⟩
theorem SS.under {B : Nat} (h : SS w base t Vs T) (hb : Below B w w') (hlt : w.heap.size ≤ B) : SS w' base t Vs T := by
  have hg : w.grownBy w' none := ⟨hb.os, hb.tape, hb.output, hb.size, fun k hk _ => hb.block k (by omega)⟩
  exact h.grown hg
theorem SS.kept {row : Option Nat} (h : SS w base t Vs T) (hg : w.grownBy w' row) (hr : ∀ g, row = some g → w.heap.size ≤ g ∨ g < base) : SS w' base t Vs T := by
  have hne : ∀ v : Value, (∀ c, v.ownBlock = some c → base ≤ c ∧ c < w.heap.size) → v.ownBlock = none ∨ v.ownBlock ≠ row := fun v hv => by
    cases e : v.ownBlock with
    | none => exact .inl rfl
    | some g => exact .inr (fun e2 => by have h1 := hv g e; have h2 := hr g e2.symm; omega)
  exact ⟨h.out.kept hg (hne _ h.out.lt), h.len, fun i hi => (h.inn i hi).kept hg (hne _ (h.inn i hi).lt), h.offO, h.offI⟩
theorem SS.lower {b : Nat} (h : SS w base t Vs T) (hb : b ≤ base) : SS w b t Vs T := ⟨h.out.lower hb, h.len, fun i hi => (h.inn i hi).lower hb, h.offO, h.offI⟩
theorem SS.nil (h : OwnG encV 34 w base t []) : SS w base t [] [] := ⟨h, rfl, fun i hi => by simp at hi, fun i hi => by simp at hi, fun i j hi => by simp at hi⟩
/-- One more row: it lies in a new block of its own. -/
theorem SS.snoc {K : Nat} {w0 : World} {t' : Value} {x : SV} {L : List Int} (h : SS w0 base t Vs T) (hb : base ≤ K) (hK : w0.heap.size ≤ K) (h0 : w0.grownBy w none) (hx : Own .i64 3 w K (sv x) L) (ho : OwnG encV 34 w' base t' (Vs ++ [x])) (hg : w.grownBy w' t.ownBlock)
    (hloc : t'.ownBlock = t.ownBlock ∨ ∃ g, t'.ownBlock = some g ∧ w.heap.size ≤ g) : SS w' base t' (Vs ++ [x]) (T ++ [L]) := by
  have h1 := h.grown h0
  have hold : ∀ i, i < Vs.length → (Vs ++ [x]).getD i dV = Vs.getD i dV := fun i hi => by simp [List.getD_eq_getElem?_getD, List.getElem?_append_left hi]
  have hnew : (Vs ++ [x]).getD Vs.length dV = x := by simp
  have holdT : ∀ i, i < Vs.length → (T ++ [L]).getD i [] = T.getD i [] := fun i hi => by
    have : i < T.length := by rw [h.len]; exact hi
    simp [List.getD_eq_getElem?_getD, List.getElem?_append_left this]
  have hnewT : (T ++ [L]).getD Vs.length [] = L := by rw [← h.len]; simp
  have htk : ∀ g, t.ownBlock = some g → g < K := fun g e => by have := (h.out.lt g e).2; omega
  have hxt : ∀ g, (sv x).ownBlock = some g → t.ownBlock ≠ some g := fun g e e2 => by have h2 := (hx.lt g e).1; have h3 := htk g e2; omega
  refine ⟨ho, by simp [h.len], fun i hi => ?_, fun i hi g e => ?_, fun i j hi hj hij g e => ?_⟩
  · rw [List.length_append, List.length_singleton] at hi
    by_cases h2 : i < Vs.length
    · rw [hold i h2, holdT i h2]
      exact (h1.inn i h2).kept hg (ne_of (h.offO i h2))
    · have h3 : i = Vs.length := by omega
      subst h3
      rw [hnew, hnewT]
      exact (hx.kept hg (ne_of hxt)).lower hb
  · rw [List.length_append, List.length_singleton] at hi
    have hblk : g < w.heap.size ∧ t.ownBlock ≠ some g := by
      by_cases h2 : i < Vs.length
      · rw [hold i h2] at e; exact ⟨((h1.inn i h2).lt g e).2, h.offO i h2 g e⟩
      · have h3 : i = Vs.length := by omega
        subst h3
        rw [hnew] at e; exact ⟨(hx.lt g e).2, hxt g e⟩
    rcases hloc with h4 | ⟨g', h4, h5⟩
    · rw [h4]; exact hblk.2
    · rw [h4]; intro e2; injection e2 with e2; omega
  · rw [List.length_append, List.length_singleton] at hi hj
    by_cases h2 : i < Vs.length
    · rw [hold i h2] at e
      by_cases h3 : j < Vs.length
      · rw [hold j h3]; exact h.offI i j h2 h3 hij g e
      · have h4 : j = Vs.length := by omega
        subst h4
        rw [hnew]
        intro e2
        have h5 := (hx.lt g e2).1
        have h6 := ((h.inn i h2).lt g e).2
        omega
    · have h4 : i = Vs.length := by omega
      subst h4
      rw [hnew] at e
      have h3 : j < Vs.length := by omega
      rw [hold j h3]
      intro e2
      have h5 := (hx.lt g e).1
      have h6 := ((h.inn j h3).lt g e2).2
      omega
/-- One of the rows is written anew. -/
theorem SS.put {i : Nat} {L : List Int} (h : SS w base t Vs T) (hi : i < Vs.length) (ho : Own .i64 3 w' base (sv (Vs.getD i dV)) L) (hg : w.grownBy w' (sv (Vs.getD i dV)).ownBlock) : SS w' base t Vs (T.set i L) := by
  refine ⟨h.out.kept hg (ne_of (fun g e e2 => h.offO i hi g e2 e)), by simp [h.len], fun j hj => ?_, h.offO, h.offI⟩
  by_cases hij : j = i
  · subst hij
    have : (T.set j L).getD j [] = L := by have : j < T.length := by rw [h.len]; exact hj
                                           simp [this]
    rw [this]; exact ho
  · have : (T.set i L).getD j [] = T.getD j [] := by simp [List.getD_eq_getElem?_getD, List.getElem?_set_ne (Ne.symm hij)]
    rw [this]
    exact (h.inn j hj).kept hg (ne_of (h.offI j i hj hi hij))
end
/-- The marks of rows of rows. -/
def tot (T : List (List Int)) : Nat := (T.map List.length).sum
def markT (m : Nat) : List (List Int) → List (List Int)
  | [] => []
  | L :: T => LawsI.marksI m L.length :: markT (m + L.length) T
theorem markT_len : ∀ (m : Nat) (T : List (List Int)), (markT m T).length = T.length
  | _, [] => rfl
  | m, L :: T => by show (markT _ T).length + 1 = T.length + 1; rw [markT_len]
theorem tot_cons (L : List Int) (T : List (List Int)) : tot (L :: T) = L.length + tot T := by simp [tot]
theorem tot_take {T : List (List Int)} {j : Nat} (h : j < T.length) : tot (T.take (j + 1)) = tot (T.take j) + (T.getD j []).length := by
  unfold tot
  rw [List.take_succ_eq_append_getElem h, List.map_append, List.sum_append]
  simp [h]
theorem tot_le : ∀ (T : List (List Int)) (j : Nat), tot (T.take j) ≤ tot T
  | [], j => by simp [tot]
  | L :: T, 0 => by simp [tot]
  | L :: T, j + 1 => by rw [List.take_succ_cons, tot_cons, tot_cons]; have := tot_le T j; omega
theorem markT_at : ∀ {T : List (List Int)} {j m : Nat}, j < T.length → (markT m T).getD j [] = LawsI.marksI (m + tot (T.take j)) (T.getD j []).length
  | [], j, m, h => by simp at h
  | L :: T, 0, m, h => by simp [markT, tot]
  | L :: T, j + 1, m, h => by
    show (markT (m + L.length) T).getD j [] = _
    rw [markT_at (by simpa using h), List.take_succ_cons, tot_cons, Nat.add_assoc]
    rfl
theorem mix_at {T : List (List Int)} {j m : Nat} (h : j < T.length) : ((markT m T).take j ++ T.drop j).getD j [] = T.getD j [] := by
  have hl : ((markT m T).take j).length = j := by rw [List.length_take, markT_len]; omega
  simp [List.getD_eq_getElem?_getD, List.getElem?_append_right (Nat.le_of_eq hl), hl, List.getElem?_drop]
theorem mix_set {T : List (List Int)} {j m : Nat} (h : j < T.length) : ((markT m T).take j ++ T.drop j).set j (LawsI.marksI (m + tot (T.take j)) (T.getD j []).length) = (markT m T).take (j + 1) ++ T.drop (j + 1) := by
  have hm : j < (markT m T).length := by rw [markT_len]; exact h
  have hl : ((markT m T).take j).length = j := by rw [List.length_take, markT_len]; omega
  have e : (markT m T)[j] = LawsI.marksI (m + tot (T.take j)) (T.getD j []).length := by rw [← markT_at h]; simp [hm]
  rw [List.take_succ_eq_append_getElem hm, e, List.set_append, if_neg (by omega), hl, Nat.sub_self, List.drop_eq_getElem_cons h, List.set_cons_zero, List.append_assoc]
  rfl
end Go.Proofs.Ytedijkkbphbnoaa.Rop
