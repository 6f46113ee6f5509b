/- Plain facts on votes: no program. -/
import Derived.Test.YtfdadeiemfmgkaaCrewF
import Derived.Test.YtfdadeiemfmgkaaWatF
namespace Go.Proofs.Ytfdadeiemfmgkaa.Vot
open Go.RowKit Kit Rw Rg Crw Wat

abbrev V2 := Int × Int
def ids (L : List Mem) : List Int := L.map (·.id)
def cnt (V : List V2) (c : Int) : Nat → Int
  | 0 => 0
  | j + 1 => if (V.getD j (0, 0)).2 = c then cnt V c j + 1 else cnt V c j
theorem cnt_bd (V : List V2) (c : Int) : ∀ j : Nat, 0 ≤ cnt V c j ∧ cnt V c j ≤ j
  | 0 => by simp [cnt]
  | j + 1 => by have := cnt_bd V c j; simp only [cnt]; split <;> omega
def okV (L : List Mem) (V : List V2) (i : Nat) : Prop := (V.getD i (0, 0)).1 ∈ ids L ∧ (0 ≤ (V.getD i (0, 0)).2 ∧ (V.getD i (0, 0)).2 ≤ 9) ∧ ∀ k, k < i → (V.getD k (0, 0)).1 ≠ (V.getD i (0, 0)).1
instance (L : List Mem) (V : List V2) (i : Nat) : Decidable (okV L V i) := by unfold okV; infer_instance
def upV (L : List Mem) (V : List V2) (j : Nat) : Prop := ∀ i, i < j → okV L V i
instance (L : List Mem) (V : List V2) (j : Nat) : Decidable (upV L V j) := by unfold upV; infer_instance
def areVotes (L : List Mem) (V : List V2) : Bool := areCrew L && decide (upV L V V.length)
theorem upV_zero (L : List Mem) (V : List V2) : upV L V 0 := fun i h => absurd h (Nat.not_lt_zero _)
theorem upV_next {L : List Mem} {V : List V2} {j : Nat} (h : upV L V j) (h1 : okV L V j) : upV L V (j + 1) := fun i hi => by
  by_cases e : i = j
  · subst e; exact h1
  · exact h i (by omega)
theorem votes_bad {L : List Mem} {V : List V2} {i : Nat} (hi : i < V.length) (h : ¬ okV L V i) : areVotes L V = false := by
  unfold areVotes
  rw [decide_eq_false (fun hu => h (hu i hi)), Bool.and_false]
theorem votes_end {L : List Mem} {V : List V2} (h : upV L V V.length) : areVotes L V = areCrew L := by
  unfold areVotes
  rw [decide_eq_true h, Bool.and_true]
theorem votes_no {L : List Mem} {V : List V2} (h : areCrew L = false) : areVotes L V = false := by unfold areVotes; rw [h]; rfl
theorem votes_of {L : List Mem} {V : List V2} (h : areVotes L V = true) : areCrew L = true ∧ upV L V V.length := by
  unfold areVotes at h; simp only [Bool.and_eq_true, decide_eq_true_eq] at h; exact h
/-- Those who have not voted yet. -/
def openTo (L : List Mem) (V : List V2) (j : Nat) : List Int := (ids L).filter fun x => decide (∀ k, k < j → (V.getD k (0, 0)).1 ≠ x)
theorem openTo_zero (L : List Mem) (V : List V2) : openTo L V 0 = ids L := by
  unfold openTo
  rw [List.filter_eq_self]
  intro x _
  simp
theorem mem_open {L : List Mem} {V : List V2} {j : Nat} {x : Int} : x ∈ openTo L V j ↔ x ∈ ids L ∧ ∀ k, k < j → (V.getD k (0, 0)).1 ≠ x := by
  unfold openTo; rw [List.mem_filter]; simp only [decide_eq_true_eq]
theorem openTo_next {L : List Mem} {V : List V2} {j : Nat} : ∀ x, (x ∈ openTo L V (j + 1)) ↔ (x ∈ openTo L V j ∧ x ≠ (V.getD j (0, 0)).1) := fun x => by
  rw [mem_open, mem_open]
  constructor
  · rintro ⟨h1, h2⟩; exact ⟨⟨h1, fun k hk => h2 k (by omega)⟩, fun e => h2 j (by omega) e.symm⟩
  · rintro ⟨⟨h1, h2⟩, h3⟩
    refine ⟨h1, fun k hk => ?_⟩
    by_cases e : k = j
    · subst e; exact fun e => h3 e.symm
    · exact h2 k (by omega)
theorem okV_open {L : List Mem} {V : List V2} {j : Nat} : okV L V j ↔ (V.getD j (0, 0)).1 ∈ openTo L V j ∧ (0 ≤ (V.getD j (0, 0)).2 ∧ (V.getD j (0, 0)).2 ≤ 9) := by
  rw [mem_open]; unfold okV
  constructor
  · rintro ⟨a, b, c⟩; exact ⟨⟨a, c⟩, b⟩
  · rintro ⟨⟨a, c⟩, b⟩; exact ⟨a, b, c⟩
theorem ids_len (L : List Mem) : (ids L).length = L.length := by simp [ids]
theorem ids_get {L : List Mem} {j : Nat} (h : j < L.length) : (ids L).getD j 0 = (L.getD j dM).id := by simp [ids, h]
theorem ids_next {L : List Mem} {j : Nat} (h : j < L.length) : (ids L).take (j + 1) = (ids L).take j ++ [(L.getD j dM).id] := by
  rw [List.take_succ_eq_append_getElem (by rw [ids_len]; exact h)]
  congr 1
  simp [ids, h]
theorem place_neg {h : List Int} {x : Int} : place h x 0 < 0 ↔ x ∉ h := by
  rcases place_of h x 0 with ⟨h1, h2⟩ | ⟨j, hj, hx, hp⟩
  · constructor
    · exact fun _ => h2
    · omega
  · constructor
    · omega
    · intro h3; exact absurd (hx ▸ getD_mem hj) h3
end Go.Proofs.Ytfdadeiemfmgkaa.Vot
