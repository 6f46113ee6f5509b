/- Plain facts on lands: what is near, how far apart cells are, how many there are of each kind. -/
import Derived.Test.YtbibkjponadipaaDoorBfs
namespace Go.Proofs.YtbibkjponadipaaDoor.Ld
open Go.RowKit Kit Rw
open Bfs (near_in)

theorem mx_comm (a b : Int) : mx (a - b) (b - a) = mx (b - a) (a - b) := by
  unfold mx
  split <;> split <;> omega
theorem apart_comm (W H : Int) (X : List Int) (a b : Int) : apart W H X a b = apart W H X b a := by
  unfold apart
  by_cases h : isCell W H X a = true ∧ isCell W H X b = true
  · rw [if_pos h, if_pos ⟨h.2, h.1⟩, mx_comm (a % W) (b % W), mx_comm (a / W) (b / W)]
  · rw [if_neg h, if_neg (fun e => h ⟨e.2, e.1⟩)]
theorem mx_self (a : Int) : mx (a - a) (a - a) = 0 := by unfold mx; split <;> omega
theorem apart_self {W H : Int} {X : List Int} {a : Int} (h : isCell W H X a = true) : apart W H X a a = 0 := by
  unfold apart
  rw [if_pos ⟨h, h⟩, mx_self, mx_self]; rfl

/-- What is near ascends. -/
theorem near_asc {W n : Int} {X : List Int} (hW : 1 ≤ W) : (near W n X).Pairwise (· < ·) := by
  have m1 : ∀ x ∈ n1 W n X, x = n - W := by intro x hx; unfold n1 at hx; split at hx <;> simp at hx; exact hx
  have m2 : ∀ x ∈ n2 W n X, x = n - 1 ∧ 0 < n % W := by intro x hx; unfold n2 at hx; split at hx <;> simp at hx; rename_i c; exact ⟨hx, c.1⟩
  have m3 : ∀ x ∈ n3 W n X, x = n + 1 ∧ n % W < W - 1 := by intro x hx; unfold n3 at hx; split at hx <;> simp at hx; rename_i c; exact ⟨hx, c.1⟩
  have m4 : ∀ x ∈ n4 W n X, x = n + W := by intro x hx; unfold n4 at hx; split at hx <;> simp at hx; exact hx
  have one : ∀ l : List Int, l.length ≤ 1 → l.Pairwise (· < ·) := by
    intro l hl
    match l, hl with
    | [], _ => exact List.Pairwise.nil
    | [x], _ => simp
  have hn0 := Int.emod_nonneg n (show W ≠ 0 by omega)
  have hn1 := Int.emod_lt_of_pos n (show 0 < W by omega)
  unfold near
  rw [List.pairwise_append, List.pairwise_append, List.pairwise_append]
  refine ⟨⟨⟨one _ (n1_len W n X), one _ (n2_len W n X), ?_⟩, one _ (n3_len W n X), ?_⟩, one _ (n4_len W n X), ?_⟩
  · intro a ha b hb
    have := m1 a ha; have := m2 b hb; omega
  · intro a ha b hb
    have := m3 b hb
    rcases List.mem_append.1 ha with ha | ha
    · have := m1 a ha; omega
    · have := m2 a ha; omega
  · intro a ha b hb
    have := m4 b hb
    rcases List.mem_append.1 ha with ha | ha
    · rcases List.mem_append.1 ha with ha | ha
      · have := m1 a ha; omega
      · have := m2 a ha; omega
    · have := m3 a ha; omega

/-- The four ways in which a cell may be near. -/
theorem near_ways {W n m : Int} {X : List Int} (h : m ∈ near W n X) : X.getD m.toNat 0 ≠ 2 ∧ ((W ≤ n ∧ m = n - W) ∨ (0 < n % W ∧ m = n - 1) ∨ (n % W < W - 1 ∧ m = n + 1) ∨ (n + W < (X.length : Int) ∧ m = n + W)) := by
  simp only [near, List.mem_append] at h
  rcases h with ((h | h) | h) | h
  · unfold n1 at h; split at h <;> simp at h
    rename_i c; subst h; exact ⟨c.2, .inl ⟨c.1, rfl⟩⟩
  · unfold n2 at h; split at h <;> simp at h
    rename_i c; subst h; exact ⟨c.2, .inr (.inl ⟨c.1, rfl⟩)⟩
  · unfold n3 at h; split at h <;> simp at h
    rename_i c; subst h; exact ⟨c.2, .inr (.inr (.inl ⟨c.1, rfl⟩))⟩
  · unfold n4 at h; split at h <;> simp at h
    rename_i c; subst h; exact ⟨c.2, .inr (.inr (.inr ⟨c.1, rfl⟩))⟩
theorem near_mk {W n m : Int} {X : List Int} (h2 : X.getD m.toNat 0 ≠ 2) (h : (W ≤ n ∧ m = n - W) ∨ (0 < n % W ∧ m = n - 1) ∨ (n % W < W - 1 ∧ m = n + 1) ∨ (n + W < (X.length : Int) ∧ m = n + W)) : m ∈ near W n X := by
  simp only [near, List.mem_append]
  rcases h with ⟨h, rfl⟩ | ⟨h, rfl⟩ | ⟨h, rfl⟩ | ⟨h, rfl⟩
  · exact .inl (.inl (.inl (by unfold n1; rw [if_pos ⟨h, h2⟩]; simp)))
  · exact .inl (.inl (.inr (by unfold n2; rw [if_pos ⟨h, h2⟩]; simp)))
  · exact .inl (.inr (by unfold n3; rw [if_pos ⟨h, h2⟩]; simp))
  · exact .inr (by unfold n4; rw [if_pos ⟨h, h2⟩]; simp)

/-- A step to a row's next cell, and to one that is a row further, in columns and rows. -/
theorem step_row {W n : Int} (hW : 0 < W) (h : n % W < W - 1) : (n + 1) % W = n % W + 1 ∧ (n + 1) / W = n / W := by
  have h0 := Int.emod_nonneg n (show W ≠ 0 by omega)
  have e := Int.mul_ediv_add_emod n W
  have e1 : n + 1 = (n % W + 1) + W * (n / W) := by omega
  constructor
  · rw [e1, Int.add_mul_emod_self_left]
    exact Int.emod_eq_of_lt (by omega) (by omega)
  · rw [e1, Int.add_mul_ediv_left _ _ (by omega), Int.ediv_eq_zero_of_lt (by omega) (by omega)]
    omega
theorem step_col {W n : Int} (hW : 0 < W) : (n + W) % W = n % W ∧ (n + W) / W = n / W + 1 := by
  constructor
  · simp
  · rw [Int.add_ediv_of_dvd_right (Int.dvd_refl W), Int.ediv_self (by omega)]
theorem mx_0 : mx 0 0 = 0 := rfl
theorem mx_1 : mx 1 (-1) = 1 := rfl
theorem mx_m : mx (-1) 1 = 1 := rfl
theorem near_apart {W H : Int} {X : List Int} {n m : Int} (hc : isCell W H X n = true) (h : m ∈ near W n X) : apart W H X n m = 1 := by
  obtain ⟨hL, h0, h1⟩ := isCell_of hc
  obtain ⟨⟨hW, _⟩, _⟩ := isLand_of hL
  obtain ⟨i0, i1, _⟩ := near_in hL h0 h1 h
  unfold apart
  rw [if_pos ⟨hc, isCell_mk hL i0 i1⟩]
  obtain ⟨_, hw⟩ := near_ways h
  rcases hw with ⟨c, rfl⟩ | ⟨c, rfl⟩ | ⟨c, rfl⟩ | ⟨c, rfl⟩
  · obtain ⟨s1, s2⟩ := step_col (W := W) (n := n - W) (by omega)
    rw [show n - W + W = n by omega] at s1 s2
    rw [s1, s2]
    unfold mx; split <;> split <;> omega
  · have hr : (n - 1) % W < W - 1 := by
      have e := Int.mul_ediv_add_emod n W
      have hlt := Int.emod_lt_of_pos n (show 0 < W by omega)
      have e1 : n - 1 = (n % W - 1) + W * (n / W) := by omega
      rw [e1, Int.add_mul_emod_self_left, Int.emod_eq_of_lt (by omega) (by omega)]
      omega
    obtain ⟨s1, s2⟩ := step_row (W := W) (n := n - 1) (by omega) hr
    rw [show n - 1 + 1 = n by omega] at s1 s2
    rw [s1, s2]
    unfold mx; split <;> split <;> omega
  · obtain ⟨s1, s2⟩ := step_row (W := W) (n := n) (by omega) c
    rw [s1, s2]
    unfold mx; split <;> split <;> omega
  · obtain ⟨s1, s2⟩ := step_col (W := W) (n := n) (by omega)
    rw [s1, s2]
    unfold mx; split <;> split <;> omega
/-- Cells are near one another both ways. -/
theorem near_back {W H : Int} {X : List Int} {n m : Int} (ho : isOpen W H X n = true) (h : m ∈ near W n X) : n ∈ near W m X := by
  obtain ⟨hc, h2⟩ := isOpen_of ho
  obtain ⟨hL, h0, h1⟩ := isCell_of hc
  obtain ⟨⟨hW, _⟩, _⟩ := isLand_of hL
  obtain ⟨i0, i1, _⟩ := near_in hL h0 h1 h
  obtain ⟨_, hw⟩ := near_ways h
  refine near_mk h2 ?_
  rcases hw with ⟨c, rfl⟩ | ⟨c, rfl⟩ | ⟨c, rfl⟩ | ⟨c, rfl⟩
  · exact .inr (.inr (.inr ⟨by omega, by omega⟩))
  · refine .inr (.inr (.inl ⟨?_, by omega⟩))
    have e := Int.mul_ediv_add_emod n W
    have hlt := Int.emod_lt_of_pos n (show 0 < W by omega)
    have e1 : n - 1 = (n % W - 1) + W * (n / W) := by omega
    rw [e1, Int.add_mul_emod_self_left, Int.emod_eq_of_lt (by omega) (by omega)]
    omega
  · refine .inr (.inl ⟨?_, by omega⟩)
    have := (step_row (W := W) (n := n) (by omega) c).1
    have := Int.emod_nonneg n (show W ≠ 0 by omega)
    omega
  · exact .inl ⟨by omega, by omega⟩
theorem nearOf_eq {W H : Int} {X : List Int} {n : Int} (h : isCell W H X n = true) : nearOf W H X n = near W n X := by unfold nearOf; rw [if_pos h]
theorem nearOf_no {W H : Int} {X : List Int} {n : Int} (h : ¬ isCell W H X n = true) : nearOf W H X n = [] := by unfold nearOf; rw [if_neg h]
theorem nearOf_mem {W H : Int} {X : List Int} {n m : Int} (h : m ∈ nearOf W H X n) : isCell W H X n = true ∧ m ∈ near W n X := by
  by_cases c : isCell W H X n = true
  · rw [nearOf_eq c] at h; exact ⟨c, h⟩
  · rw [nearOf_no c] at h; simp at h
theorem nearOf_open {W H : Int} {X : List Int} {n m : Int} (h : m ∈ nearOf W H X n) : isOpen W H X m = true := by
  obtain ⟨hc, hm⟩ := nearOf_mem h
  obtain ⟨hL, h0, h1⟩ := isCell_of hc
  obtain ⟨i0, i1, i2⟩ := near_in hL h0 h1 hm
  exact isOpen_mk (isCell_mk hL i0 i1) i2
theorem nearOf_apart {W H : Int} {X : List Int} {n m : Int} (h : m ∈ nearOf W H X n) : apart W H X n m = 1 := near_apart (nearOf_mem h).1 (nearOf_mem h).2
theorem nearOf_back {W H : Int} {X : List Int} {n m : Int} (ho : isOpen W H X n = true) (h : m ∈ nearOf W H X n) : n ∈ nearOf W H X m := by
  rw [nearOf_eq (isOpen_of (nearOf_open h)).1]
  exact near_back ho (nearOf_mem h).2
theorem nearOf_asc (W H : Int) (X : List Int) (n : Int) : (nearOf W H X n).Pairwise (· < ·) := by
  by_cases c : isCell W H X n = true
  · rw [nearOf_eq c]; exact near_asc (isLand_of (isCell_of c).1).1.1
  · rw [nearOf_no c]; exact List.Pairwise.nil

theorem sum3 : ∀ X : List Int, (∀ k ∈ X, 0 ≤ k ∧ k ≤ 2) → ((X.filter fun x => x == 0).length : Int) + ((X.filter fun x => x == 1).length : Int) + ((X.filter fun x => x == 2).length : Int) = (X.length : Int) := by
  intro X
  induction X with
  | nil => intro _; rfl
  | cons x X ih =>
    intro hk
    have hx := hk x (by simp)
    have := ih (fun k hk' => hk k (List.mem_cons_of_mem _ hk'))
    have hx3 : x = 0 ∨ x = 1 ∨ x = 2 := by omega
    rcases hx3 with rfl | rfl | rfl <;> simp at this ⊢ <;> omega
theorem count_sum {W H : Int} {X : List Int} (h : isLand W H X = true) : count W H X 0 + count W H X 1 + count W H X 2 = (X.length : Int) := by
  obtain ⟨_, _, _, hk⟩ := isLand_of h
  unfold count
  rw [if_pos h, if_pos h, if_pos h]
  exact sum3 X hk
theorem count_ge (W H : Int) (X : List Int) (k : Int) : 0 ≤ count W H X k ∧ count W H X k ≤ X.length := by
  unfold count
  split
  · have := List.length_filter_le (fun x => x == k) X; omega
  · omega
end Go.Proofs.YtbibkjponadipaaDoor.Ld
