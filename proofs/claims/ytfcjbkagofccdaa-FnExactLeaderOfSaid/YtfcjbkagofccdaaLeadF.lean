/- Who leads a rope: plain facts on members. -/
import Derived.Test.YtfcjbkagofccdaaCrewF
import Derived.Test.YtfcjbkagofccdaaRowM
namespace Go.Proofs.Ytfcjbkagofccdaa.Led
open Go.RowKit Rg Crw

/-- The first member with a number. -/
def first : List Mem → Int → Option Mem
  | [], _ => none
  | m :: L, k => if m.id = k then some m else first L k
theorem first_snoc : ∀ (L : List Mem) (x : Mem) (k : Int), first (L ++ [x]) k = match first L k with | some m => some m | none => if x.id = k then some x else none
  | [], x, k => rfl
  | m :: L, x, k => by
    show (if m.id = k then some m else first (L ++ [x]) k) = match (if m.id = k then some m else first L k) with | some m => some m | none => if x.id = k then some x else none
    by_cases h : m.id = k
    · simp only [if_pos h]
    · simp only [if_neg h]; exact first_snoc L x k
theorem first_id : ∀ {L : List Mem} {k : Int} {m : Mem}, first L k = some m → m.id = k ∧ m ∈ L
  | [], k, m, h => by cases h
  | x :: L, k, m, h => by
    have h : (if x.id = k then some x else first L k) = some m := h
    by_cases hx : x.id = k
    · rw [if_pos hx] at h; cases h; exact ⟨hx, List.mem_cons_self ..⟩
    · rw [if_neg hx] at h; obtain ⟨h1, h2⟩ := first_id h; exact ⟨h1, List.mem_cons_of_mem _ h2⟩
theorem take_snoc {L : List Mem} {j : Nat} (h : j < L.length) : L.take (j + 1) = L.take j ++ [L.getD j zM] := by
  rw [List.take_succ_eq_append_getElem h]
  simp [h]
/-- The first index of a member with a number that is found from j on backwards: by what came before. -/
theorem first_at {L : List Mem} {k : Int} {j : Nat} (hj : j < L.length) (hn : ∀ i, i < j → (L.getD i zM).id ≠ k) (h : (L.getD j zM).id = k) : first L k = some (L.getD j zM) := by
  induction L generalizing j with
  | nil => simp at hj
  | cons m L ih =>
    show (if m.id = k then some m else first L k) = _
    cases j with
    | zero => have h : m.id = k := h; rw [if_pos h]; rfl
    | succ j =>
      have h0 : m.id ≠ k := hn 0 (by omega)
      rw [if_neg h0]
      exact ih (by simpa using hj) (fun i hi => hn (i + 1) (by omega)) h
theorem first_none {L : List Mem} {k : Int} (hn : ∀ i, i < L.length → (L.getD i zM).id ≠ k) : first L k = none := by
  induction L with
  | nil => rfl
  | cons m L ih =>
    have h0 : m.id ≠ k := hn 0 (by simp)
    show (if m.id = k then some m else first L k) = none
    rw [if_neg h0]
    exact ih (fun i hi => hn (i + 1) (by simpa using hi))
/-- The leader so far, and one more of the team. -/
def leadStep (L : List Mem) (a : Option Mem) (k : Int) : Option Mem :=
  match first L k with
  | none => a
  | some m => match a with
    | none => some m
    | some x => if x.str < m.str then some m else a
def leadTo (L : List Mem) (T : List Int) : Option Mem := T.foldl (leadStep L) none
def leadId (L : List Mem) (T : List Int) : Int := match leadTo L T with | none => 0 | some m => m.id
theorem leadTo_0 (L : List Mem) (T : List Int) : leadTo L (T.take 0) = none := by simp [leadTo]
theorem leadTo_next {L : List Mem} {T : List Int} {j : Nat} (h : j < T.length) : leadTo L (T.take (j + 1)) = leadStep L (leadTo L (T.take j)) (T.getD j 0) := by
  have e : T[j] = T.getD j 0 := by simp [h]
  unfold leadTo
  rw [List.take_succ_eq_append_getElem h, List.foldl_append, e]
  rfl
theorem lead_mem {L : List Mem} : ∀ {T : List Int} {j : Nat}, j ≤ T.length → ∀ m, leadTo L (T.take j) = some m → m ∈ L := by
  intro T j
  induction j with
  | zero => intro _ m h; rw [leadTo_0] at h; cases h
  | succ j ih =>
    intro hj m h
    rw [leadTo_next (by omega)] at h
    unfold leadStep at h
    cases hf : first L (T.getD j 0) with
    | none => rw [hf] at h; exact ih (by omega) m h
    | some x =>
      rw [hf] at h
      cases ha : leadTo L (T.take j) with
      | none => rw [ha] at h; simp only [Option.some.injEq] at h; rw [← h]; exact (first_id hf).2
      | some y =>
        rw [ha] at h
        simp only at h
        by_cases hy : y.str < x.str
        · rw [if_pos hy] at h; simp only [Option.some.injEq] at h; rw [← h]; exact (first_id hf).2
        · rw [if_neg hy] at h; simp only [Option.some.injEq] at h; rw [← h]; exact ih (by omega) y ha
end Go.Proofs.Ytfcjbkagofccdaa.Led
