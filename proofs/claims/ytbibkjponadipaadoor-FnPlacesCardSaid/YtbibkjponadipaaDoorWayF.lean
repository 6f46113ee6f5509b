/- Days, ways, reach, the farthest cell: plain definitions. -/
import Derived.Test.YtbibkjponadipaaDoorBfsT
import Derived.Test.YtbibkjponadipaaDoorLdF
namespace Go.Proofs.YtbibkjponadipaaDoor.Wf
open Go.RowKit Kit Rw Ld Bfs

noncomputable def daysOf (W H : Int) (X : List Int) (a b : Int) : Int := if isOpen W H X a = true ∧ isOpen W H X b = true then at' (distL W X a) b else -1
def nearerOf (W : Int) (X d : List Int) (n : Int) : Int := ((near W n X).find? (fun m => at' d m == at' d n - 1)).getD n
def wayFrom (W : Int) (X d : List Int) : Nat → Int → List Int
  | 0, _ => []
  | k + 1, n => n :: wayFrom W X d k (nearerOf W X d n)
noncomputable def wayOf (W H : Int) (X : List Int) (a b : Int) : List Int := if isOpen W H X a = true ∧ isOpen W H X b = true then wayFrom W X (distL W X b) (at' (distL W X b) a + 1).toNat a else []
def inReach (d : List Int) (D : Int) (i : Nat) : Bool := decide (0 ≤ at' d (i : Int) ∧ at' d (i : Int) ≤ D)
def reachTo (d : List Int) (D : Int) (k : Nat) : List Int := ((List.range k).filter (inReach d D)).map (fun i : Nat => (i : Int))
noncomputable def reachOf (W H : Int) (X : List Int) (a D : Int) : List Int := if isOpen W H X a = true then reachTo (distL W X a) D X.length else []
/-- Each cell is open, and each one near the one before. -/
def IsWayP (W H : Int) (X L : List Int) : Prop := 0 < L.length ∧ (∀ i, i < L.length → isOpen W H X (L.getD i 0) = true) ∧ ∀ i, i + 1 < L.length → L.getD (i + 1) 0 ∈ near W (L.getD i 0) X
open Classical in
noncomputable def isWayOf (W H : Int) (X L : List Int) : Bool := decide (IsWayP W H X L)
theorem isWayOf_yes {W H : Int} {X L : List Int} (h : IsWayP W H X L) : isWayOf W H X L = true := @decide_eq_true _ (Classical.propDecidable _) h
theorem isWayOf_no {W H : Int} {X L : List Int} (h : ¬ IsWayP W H X L) : isWayOf W H X L = false := @decide_eq_false _ (Classical.propDecidable _) h
/-- The least of the farthest. -/
structure FarP (d : List Int) (r : Int) : Prop where
  lo : 0 ≤ r
  hi : r < d.length
  max : ∀ i : Int, 0 ≤ i → i < d.length → at' d i ≤ at' d r
  fst : ∀ i : Int, 0 ≤ i → i < r → at' d i < at' d r
theorem FarP.same {d : List Int} {r s : Int} (h : FarP d r) (k : FarP d s) : r = s := by
  have a := h.max s k.lo k.hi
  have b := k.max r h.lo h.hi
  rcases Int.lt_trichotomy r s with c | c | c
  · have := k.fst r h.lo c; omega
  · exact c
  · have := h.fst s k.lo c; omega
open Classical in
noncomputable def farOf (W H : Int) (X : List Int) (a : Int) : Int := if isOpen W H X a = true then (if h : ∃ r, FarP (distL W X a) r then h.choose else -1) else -1
theorem farOf_eq {W H : Int} {X : List Int} {a r : Int} (ho : isOpen W H X a = true) (h : FarP (distL W X a) r) : farOf W H X a = r := by
  have hx : ∃ r, FarP (distL W X a) r := ⟨r, h⟩
  unfold farOf
  rw [if_pos ho, dif_pos hx]
  exact hx.choose_spec.same h
theorem reachTo_len (d : List Int) (D : Int) (k : Nat) : (reachTo d D k).length ≤ k := by
  have := List.length_filter_le (inReach d D) (List.range k)
  simpa [reachTo] using this
theorem reachTo_add (d : List Int) (D : Int) (k : Nat) : reachTo d D (k + 1) = reachTo d D k ++ (if inReach d D k = true then [(k : Int)] else []) := by
  unfold reachTo
  rw [List.range_succ, List.filter_append, List.map_append]
  congr 1
  by_cases h : inReach d D k = true
  · rw [if_pos h]; simp [h]
  · rw [if_neg h]; simp [h]
theorem wayFrom_len (W : Int) (X d : List Int) : ∀ (k : Nat) (n : Int), (wayFrom W X d k n).length = k
  | 0, _ => rfl
  | k + 1, n => by simp [wayFrom, wayFrom_len W X d k]
/-- The k-th cell of a way. -/
def wayAt (W : Int) (X d : List Int) : Nat → Int → Int
  | 0, n => n
  | k + 1, n => nearerOf W X d (wayAt W X d k n)
theorem wayAt_next (W : Int) (X d : List Int) : ∀ (k : Nat) (n : Int), wayAt W X d (k + 1) n = wayAt W X d k (nearerOf W X d n)
  | 0, _ => rfl
  | k + 1, n => by
    have := wayAt_next W X d k n
    simp only [wayAt] at this ⊢
    rw [this]
theorem wayFrom_add (W : Int) (X d : List Int) : ∀ (k : Nat) (n : Int), wayFrom W X d (k + 1) n = wayFrom W X d k n ++ [wayAt W X d k n]
  | 0, n => rfl
  | k + 1, n => by
    show n :: wayFrom W X d (k + 1) (nearerOf W X d n) = n :: wayFrom W X d k (nearerOf W X d n) ++ [wayAt W X d (k + 1) n]
    rw [wayFrom_add W X d k, wayAt_next]
    rfl
end Go.Proofs.YtbibkjponadipaaDoor.Wf
