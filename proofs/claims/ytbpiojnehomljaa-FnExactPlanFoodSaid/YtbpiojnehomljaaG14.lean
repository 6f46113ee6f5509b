/- Plain facts on lands: what is near, how far apart cells are, how many there are of each kind. Days, ways, reach, the farthest cell: plain definitions. A land in its box; an open cell as a number. Plain facts. -/
import Derived.Test.YtbpiojnehomljaaG13
import Derived.Test.YtbpiojnehomljaaMBase
namespace Go.Proofs.Ytbpiojnehomljaa.Ld
open Go.RowKit Kit Rw
open Bfs (near_in)

theorem mx_comm (a b : Int) : mx (a - b) (b - a) = mx (b - a) (a - b) := by
  unfold mx
  split <;> split <;> omega
theorem apart_comm (W H : Int) (X : List Int) (a b : Int) : apart W H X a b = apart W H X b a := by
  unfold apart
  by_cases h : isCell W H X a = true ∧ isCell W H X b = true
  · rw [if_pos h, if_pos ⟨h.2, h.1⟩, mx_comm (a % W) (b % W), mx_comm (a / W) (b / W)]
  · rw [if_neg h, if_neg (fun e => h ⟨e.2, e.1⟩)]
theorem mx_self (a : Int) : mx (a - a) (a - a) = 0 := by unfold mx; split <;> omega
theorem apart_self {W H : Int} {X : List Int} {a : Int} (h : isCell W H X a = true) : apart W H X a a = 0 := by
  unfold apart
  rw [if_pos ⟨h, h⟩, mx_self, mx_self]; rfl

/-- What is near ascends. -/
theorem near_asc {W n : Int} {X : List Int} (hW : 1 ≤ W) : (near W n X).Pairwise (· < ·) := by
  have m1 : ∀ x ∈ n1 W n X, x = n - W := by intro x hx; unfold n1 at hx; split at hx <;> simp at hx; exact hx
  have m2 : ∀ x ∈ n2 W n X, x = n - 1 ∧ 0 < n % W := by intro x hx; unfold n2 at hx; split at hx <;> simp at hx; rename_i c; exact ⟨hx, c.1⟩
  have m3 : ∀ x ∈ n3 W n X, x = n + 1 ∧ n % W < W - 1 := by intro x hx; unfold n3 at hx; split at hx <;> simp at hx; rename_i c; exact ⟨hx, c.1⟩
  have m4 : ∀ x ∈ n4 W n X, x = n + W := by intro x hx; unfold n4 at hx; split at hx <;> simp at hx; exact hx
  have one : ∀ l : List Int, l.length ≤ 1 → l.Pairwise (· < ·) := by
    intro l hl
    match l, hl with
    | [], _ => exact List.Pairwise.nil
    | [x], _ => simp
  have hn0 := Int.emod_nonneg n (show W ≠ 0 by omega)
  have hn1 := Int.emod_lt_of_pos n (show 0 < W by omega)
  unfold near
  rw [List.pairwise_append, List.pairwise_append, List.pairwise_append]
  refine ⟨⟨⟨one _ (n1_len W n X), one _ (n2_len W n X), ?_⟩, one _ (n3_len W n X), ?_⟩, one _ (n4_len W n X), ?_⟩
  · intro a ha b hb
    have := m1 a ha; have := m2 b hb; omega
  · intro a ha b hb
    have := m3 b hb
    rcases List.mem_append.1 ha with ha | ha
    · have := m1 a ha; omega
    · have := m2 a ha; omega
  · intro a ha b hb
    have := m4 b hb
    rcases List.mem_append.1 ha with ha | ha
    · rcases List.mem_append.1 ha with ha | ha
      · have := m1 a ha; omega
      · have := m2 a ha; omega
    · have := m3 a ha; omega

/-- The four ways in which a cell may be near. -/
theorem near_ways {W n m : Int} {X : List Int} (h : m ∈ near W n X) : X.getD m.toNat 0 ≠ 2 ∧ ((W ≤ n ∧ m = n - W) ∨ (0 < n % W ∧ m = n - 1) ∨ (n % W < W - 1 ∧ m = n + 1) ∨ (n + W < (X.length : Int) ∧ m = n + W)) := by
  simp only [near, List.mem_append] at h
  rcases h with ((h | h) | h) | h
  · unfold n1 at h; split at h <;> simp at h
    rename_i c; subst h; exact ⟨c.2, .inl ⟨c.1, rfl⟩⟩
  · unfold n2 at h; split at h <;> simp at h
    rename_i c; subst h; exact ⟨c.2, .inr (.inl ⟨c.1, rfl⟩)⟩
  · unfold n3 at h; split at h <;> simp at h
    rename_i c; subst h; exact ⟨c.2, .inr (.inr (.inl ⟨c.1, rfl⟩))⟩
  · unfold n4 at h; split at h <;> simp at h
    rename_i c; subst h; exact ⟨c.2, .inr (.inr (.inr ⟨c.1, rfl⟩))⟩
theorem near_mk {W n m : Int} {X : List Int} (h2 : X.getD m.toNat 0 ≠ 2) (h : (W ≤ n ∧ m = n - W) ∨ (0 < n % W ∧ m = n - 1) ∨ (n % W < W - 1 ∧ m = n + 1) ∨ (n + W < (X.length : Int) ∧ m = n + W)) : m ∈ near W n X := by
  simp only [near, List.mem_append]
  rcases h with ⟨h, rfl⟩ | ⟨h, rfl⟩ | ⟨h, rfl⟩ | ⟨h, rfl⟩
  · exact .inl (.inl (.inl (by unfold n1; rw [if_pos ⟨h, h2⟩]; simp)))
  · exact .inl (.inl (.inr (by unfold n2; rw [if_pos ⟨h, h2⟩]; simp)))
  · exact .inl (.inr (by unfold n3; rw [if_pos ⟨h, h2⟩]; simp))
  · exact .inr (by unfold n4; rw [if_pos ⟨h, h2⟩]; simp)

/-- A step to a row's next cell, and to one that is a row further, in columns and rows. -/
theorem step_row {W n : Int} (hW : 0 < W) (h : n % W < W - 1) : (n + 1) % W = n % W + 1 ∧ (n + 1) / W = n / W := by
  have h0 := Int.emod_nonneg n (show W ≠ 0 by omega)
  have e := Int.mul_ediv_add_emod n W
  have e1 : n + 1 = (n % W + 1) + W * (n / W) := by omega
  constructor
  · rw [e1, Int.add_mul_emod_self_left]
    exact Int.emod_eq_of_lt (by omega) (by omega)
  · rw [e1, Int.add_mul_ediv_left _ _ (by omega), Int.ediv_eq_zero_of_lt (by omega) (by omega)]
    omega
theorem step_col {W n : Int} (hW : 0 < W) : (n + W) % W = n % W ∧ (n + W) / W = n / W + 1 := by
  constructor
  · simp
  · rw [Int.add_ediv_of_dvd_right (Int.dvd_refl W), Int.ediv_self (by omega)]
theorem mx_0 : mx 0 0 = 0 := rfl
theorem mx_1 : mx 1 (-1) = 1 := rfl
theorem mx_m : mx (-1) 1 = 1 := rfl
theorem near_apart {W H : Int} {X : List Int} {n m : Int} (hc : isCell W H X n = true) (h : m ∈ near W n X) : apart W H X n m = 1 := by
  obtain ⟨hL, h0, h1⟩ := isCell_of hc
  obtain ⟨⟨hW, _⟩, _⟩ := isLand_of hL
  obtain ⟨i0, i1, _⟩ := near_in hL h0 h1 h
  unfold apart
  rw [if_pos ⟨hc, isCell_mk hL i0 i1⟩]
  obtain ⟨_, hw⟩ := near_ways h
  rcases hw with ⟨c, rfl⟩ | ⟨c, rfl⟩ | ⟨c, rfl⟩ | ⟨c, rfl⟩
  · obtain ⟨s1, s2⟩ := step_col (W := W) (n := n - W) (by omega)
    rw [show n - W + W = n by omega] at s1 s2
    rw [s1, s2]
    unfold mx; split <;> split <;> omega
  · have hr : (n - 1) % W < W - 1 := by
      have e := Int.mul_ediv_add_emod n W
      have hlt := Int.emod_lt_of_pos n (show 0 < W by omega)
      have e1 : n - 1 = (n % W - 1) + W * (n / W) := by omega
      rw [e1, Int.add_mul_emod_self_left, Int.emod_eq_of_lt (by omega) (by omega)]
      omega
    obtain ⟨s1, s2⟩ := step_row (W := W) (n := n - 1) (by omega) hr
    rw [show n - 1 + 1 = n by omega] at s1 s2
    rw [s1, s2]
    unfold mx; split <;> split <;> omega
  · obtain ⟨s1, s2⟩ := step_row (W := W) (n := n) (by omega) c
    rw [s1, s2]
    unfold mx; split <;> split <;> omega
  · obtain ⟨s1, s2⟩ := step_col (W := W) (n := n) (by omega)
    rw [s1, s2]
    unfold mx; split <;> split <;> omega
/-- Cells are near one another both ways. -/
theorem near_back {W H : Int} {X : List Int} {n m : Int} (ho : isOpen W H X n = true) (h : m ∈ near W n X) : n ∈ near W m X := by
  obtain ⟨hc, h2⟩ := isOpen_of ho
  obtain ⟨hL, h0, h1⟩ := isCell_of hc
  obtain ⟨⟨hW, _⟩, _⟩ := isLand_of hL
  obtain ⟨i0, i1, _⟩ := near_in hL h0 h1 h
  obtain ⟨_, hw⟩ := near_ways h
  refine near_mk h2 ?_
  rcases hw with ⟨c, rfl⟩ | ⟨c, rfl⟩ | ⟨c, rfl⟩ | ⟨c, rfl⟩
  · exact .inr (.inr (.inr ⟨by omega, by omega⟩))
  · refine .inr (.inr (.inl ⟨?_, by omega⟩))
    have e := Int.mul_ediv_add_emod n W
    have hlt := Int.emod_lt_of_pos n (show 0 < W by omega)
    have e1 : n - 1 = (n % W - 1) + W * (n / W) := by omega
    rw [e1, Int.add_mul_emod_self_left, Int.emod_eq_of_lt (by omega) (by omega)]
    omega
  · refine .inr (.inl ⟨?_, by omega⟩)
    have := (step_row (W := W) (n := n) (by omega) c).1
    have := Int.emod_nonneg n (show W ≠ 0 by omega)
    omega
  · exact .inl ⟨by omega, by omega⟩
theorem nearOf_eq {W H : Int} {X : List Int} {n : Int} (h : isCell W H X n = true) : nearOf W H X n = near W n X := by unfold nearOf; rw [if_pos h]
theorem nearOf_no {W H : Int} {X : List Int} {n : Int} (h : ¬ isCell W H X n = true) : nearOf W H X n = [] := by unfold nearOf; rw [if_neg h]
theorem nearOf_mem {W H : Int} {X : List Int} {n m : Int} (h : m ∈ nearOf W H X n) : isCell W H X n = true ∧ m ∈ near W n X := by
  by_cases c : isCell W H X n = true
  · rw [nearOf_eq c] at h; exact ⟨c, h⟩
  · rw [nearOf_no c] at h; simp at h
theorem nearOf_open {W H : Int} {X : List Int} {n m : Int} (h : m ∈ nearOf W H X n) : isOpen W H X m = true := by
  obtain ⟨hc, hm⟩ := nearOf_mem h
  obtain ⟨hL, h0, h1⟩ := isCell_of hc
  obtain ⟨i0, i1, i2⟩ := near_in hL h0 h1 hm
  exact isOpen_mk (isCell_mk hL i0 i1) i2
theorem nearOf_apart {W H : Int} {X : List Int} {n m : Int} (h : m ∈ nearOf W H X n) : apart W H X n m = 1 := near_apart (nearOf_mem h).1 (nearOf_mem h).2
theorem nearOf_back {W H : Int} {X : List Int} {n m : Int} (ho : isOpen W H X n = true) (h : m ∈ nearOf W H X n) : n ∈ nearOf W H X m := by
  rw [nearOf_eq (isOpen_of (nearOf_open h)).1]
  exact near_back ho (nearOf_mem h).2
theorem nearOf_asc (W H : Int) (X : List Int) (n : Int) : (nearOf W H X n).Pairwise (· < ·) := by
  by_cases c : isCell W H X n = true
  · rw [nearOf_eq c]; exact near_asc (isLand_of (isCell_of c).1).1.1
  · rw [nearOf_no c]; exact List.Pairwise.nil

theorem sum3 : ∀ X : List Int, (∀ k ∈ X, 0 ≤ k ∧ k ≤ 2) → ((X.filter fun x => x == 0).length : Int) + ((X.filter fun x => x == 1).length : Int) + ((X.filter fun x => x == 2).length : Int) = (X.length : Int) := by
  intro X
  induction X with
  | nil => intro _; rfl
  | cons x X ih =>
    intro hk
    have hx := hk x (by simp)
    have := ih (fun k hk' => hk k (List.mem_cons_of_mem _ hk'))
    have hx3 : x = 0 ∨ x = 1 ∨ x = 2 := by omega
    rcases hx3 with rfl | rfl | rfl <;> simp at this ⊢ <;> omega
theorem count_sum {W H : Int} {X : List Int} (h : isLand W H X = true) : count W H X 0 + count W H X 1 + count W H X 2 = (X.length : Int) := by
  obtain ⟨_, _, _, hk⟩ := isLand_of h
  unfold count
  rw [if_pos h, if_pos h, if_pos h]
  exact sum3 X hk
theorem count_ge (W H : Int) (X : List Int) (k : Int) : 0 ≤ count W H X k ∧ count W H X k ≤ X.length := by
  unfold count
  split
  · have := List.length_filter_le (fun x => x == k) X; omega
  · omega
end Go.Proofs.Ytbpiojnehomljaa.Ld

namespace Go.Proofs.Ytbpiojnehomljaa.Wf
open Go.RowKit Kit Rw Ld Bfs

noncomputable def daysOf (W H : Int) (X : List Int) (a b : Int) : Int := if isOpen W H X a = true ∧ isOpen W H X b = true then at' (distL W X a) b else -1
def nearerOf (W : Int) (X d : List Int) (n : Int) : Int := ((near W n X).find? (fun m => at' d m == at' d n - 1)).getD n
def wayFrom (W : Int) (X d : List Int) : Nat → Int → List Int
  | 0, _ => []
  | k + 1, n => n :: wayFrom W X d k (nearerOf W X d n)
noncomputable def wayOf (W H : Int) (X : List Int) (a b : Int) : List Int := if isOpen W H X a = true ∧ isOpen W H X b = true then wayFrom W X (distL W X b) (at' (distL W X b) a + 1).toNat a else []
def inReach (d : List Int) (D : Int) (i : Nat) : Bool := decide (0 ≤ at' d (i : Int) ∧ at' d (i : Int) ≤ D)
def reachTo (d : List Int) (D : Int) (k : Nat) : List Int := ((List.range k).filter (inReach d D)).map (fun i : Nat => (i : Int))
noncomputable def reachOf (W H : Int) (X : List Int) (a D : Int) : List Int := if isOpen W H X a = true then reachTo (distL W X a) D X.length else []
/-- Each cell is open, and each one near the one before. -/
def IsWayP (W H : Int) (X L : List Int) : Prop := 0 < L.length ∧ (∀ i, i < L.length → isOpen W H X (L.getD i 0) = true) ∧ ∀ i, i + 1 < L.length → L.getD (i + 1) 0 ∈ near W (L.getD i 0) X
open Classical in
noncomputable def isWayOf (W H : Int) (X L : List Int) : Bool := decide (IsWayP W H X L)
theorem isWayOf_yes {W H : Int} {X L : List Int} (h : IsWayP W H X L) : isWayOf W H X L = true := @decide_eq_true _ (Classical.propDecidable _) h
theorem isWayOf_no {W H : Int} {X L : List Int} (h : ¬ IsWayP W H X L) : isWayOf W H X L = false := @decide_eq_false _ (Classical.propDecidable _) h
/-- The least of the farthest. -/
structure FarP (d : List Int) (r : Int) : Prop where
  lo : 0 ≤ r
  hi : r < d.length
  max : ∀ i : Int, 0 ≤ i → i < d.length → at' d i ≤ at' d r
  fst : ∀ i : Int, 0 ≤ i → i < r → at' d i < at' d r
theorem FarP.same {d : List Int} {r s : Int} (h : FarP d r) (k : FarP d s) : r = s := by
  have a := h.max s k.lo k.hi
  have b := k.max r h.lo h.hi
  rcases Int.lt_trichotomy r s with c | c | c
  · have := k.fst r h.lo c; omega
  · exact c
  · have := h.fst s k.lo c; omega
open Classical in
noncomputable def farOf (W H : Int) (X : List Int) (a : Int) : Int := if isOpen W H X a = true then (if h : ∃ r, FarP (distL W X a) r then h.choose else -1) else -1
theorem farOf_eq {W H : Int} {X : List Int} {a r : Int} (ho : isOpen W H X a = true) (h : FarP (distL W X a) r) : farOf W H X a = r := by
  have hx : ∃ r, FarP (distL W X a) r := ⟨r, h⟩
  unfold farOf
  rw [if_pos ho, dif_pos hx]
  exact hx.choose_spec.same h
theorem reachTo_len (d : List Int) (D : Int) (k : Nat) : (reachTo d D k).length ≤ k := by
  have := List.length_filter_le (inReach d D) (List.range k)
  simpa [reachTo] using this
theorem reachTo_add (d : List Int) (D : Int) (k : Nat) : reachTo d D (k + 1) = reachTo d D k ++ (if inReach d D k = true then [(k : Int)] else []) := by
  unfold reachTo
  rw [List.range_succ, List.filter_append, List.map_append]
  congr 1
  by_cases h : inReach d D k = true
  · rw [if_pos h]; simp [h]
  · rw [if_neg h]; simp [h]
theorem wayFrom_len (W : Int) (X d : List Int) : ∀ (k : Nat) (n : Int), (wayFrom W X d k n).length = k
  | 0, _ => rfl
  | k + 1, n => by simp [wayFrom, wayFrom_len W X d k]
/-- The k-th cell of a way. -/
def wayAt (W : Int) (X d : List Int) : Nat → Int → Int
  | 0, n => n
  | k + 1, n => nearerOf W X d (wayAt W X d k n)
theorem wayAt_next (W : Int) (X d : List Int) : ∀ (k : Nat) (n : Int), wayAt W X d (k + 1) n = wayAt W X d k (nearerOf W X d n)
  | 0, _ => rfl
  | k + 1, n => by
    have := wayAt_next W X d k n
    simp only [wayAt] at this ⊢
    rw [this]
theorem wayFrom_add (W : Int) (X d : List Int) : ∀ (k : Nat) (n : Int), wayFrom W X d (k + 1) n = wayFrom W X d k n ++ [wayAt W X d k n]
  | 0, n => rfl
  | k + 1, n => by
    show n :: wayFrom W X d (k + 1) (nearerOf W X d n) = n :: wayFrom W X d k (nearerOf W X d n) ++ [wayAt W X d (k + 1) n]
    rw [wayFrom_add W X d k, wayAt_next]
    rfl
end Go.Proofs.Ytbpiojnehomljaa.Wf

namespace Go.Proofs.Ytbpiojnehomljaa.Wf
open Go.RowKit Kit Rw Ld Bfs

theorem wb_new {w : World} {W H : Int} {v : Value} {X : List Int} (hv : Sees .i64 w v X) : Box (w.alloc (.cells #[.int .i64 W, .int .i64 H, v] 29 (0, 0))) w.heap.size #[.int .i64 W, .int .i64 H, v] 29 ∧ Sees .i64 (w.alloc (.cells #[.int .i64 W, .int .i64 H, v] 29 (0, 0))) v X ∧ w.grownBy (w.alloc (.cells #[.int .i64 W, .int .i64 H, v] 29 (0, 0))) none :=
  ⟨box_new _ _ _, hv.grown (World.grownBy_alloc _ _ none), World.grownBy_alloc _ _ none⟩
theorem open_nat {W H a : Int} {X : List Int} (h : isOpen W H X a = true) : ∃ p h' n : Nat, W = p ∧ H = h' ∧ a = n ∧ n < X.length ∧ isLand p h' X = true ∧ X.length ≤ 64 ∧ 1 ≤ X.length := by
  obtain ⟨hc, _⟩ := isOpen_of h
  obtain ⟨hL, h0, h1⟩ := isCell_of hc
  obtain ⟨hW, hH, hLen, _⟩ := isLand_of hL
  have := area hW hH
  exact ⟨W.toNat, H.toNat, a.toNat, by omega, by omega, by omega, by omega, by rw [show ((W.toNat : Nat) : Int) = W by omega, show ((H.toNat : Nat) : Int) = H by omega]; exact hL, by omega, by omega⟩
theorem reachOf_len (W H : Int) (X : List Int) (a D : Int) : (reachOf W H X a D).length ≤ X.length := by
  unfold reachOf
  split
  · exact reachTo_len _ _ _
  · simp
theorem wayOf_len (W H : Int) (X : List Int) (a b : Int) : (wayOf W H X a b).length ≤ 65 := by
  unfold wayOf
  split
  · rename_i h
    rw [wayFrom_len]
    obtain ⟨p, q, n, rfl, rfl, rfl, hn, hL, h64, _⟩ := open_nat h.1
    obtain ⟨p', q', m, e1, e2, rfl, hm, _, _, _⟩ := open_nat h.2
    have := dist_lt hL (a := (m : Int)) (by omega) (by omega) (n := (n : Int)) (by omega) (by omega)
    omega
  · simp
theorem near_self {W a : Int} {X : List Int} (hW : 1 ≤ W) : a ∉ near W a X := fun h => by
  obtain ⟨_, h⟩ := near_ways h
  omega
end Go.Proofs.Ytbpiojnehomljaa.Wf
