/- Plain facts on watches: no program. -/
import Derived.Test.YtfdadeiemfmgkaaCrewF
namespace Go.Proofs.Ytfdadeiemfmgkaa.Wat
open Rg Crw

/-- Those who watch, in their order: none, if there is no crew. -/
def ring (L : List Mem) : List Int := if areCrew L = true then healthy L else []
theorem ring_len (L : List Mem) : (ring L).length ≤ 8 := by
  unfold ring
  split
  · rename_i h; have := crew_len h; have := healthy_len L; omega
  · simp
theorem ring_up (L : List Mem) : (ring L).Pairwise (· < ·) := by
  unfold ring
  split
  · rename_i h
    have hu := crew_up h
    have hp : (L.map (·.id)).Pairwise (· < ·) := by
      rw [List.pairwise_iff_getElem]
      intro i j hi hj hij
      simp only [List.length_map] at hi hj
      have := up_lt hu hij hj
      simpa [hi, hj] using this
    exact hp.sublist (List.Sublist.map _ List.filter_sublist)
  · exact List.Pairwise.nil
theorem ring_pos {L : List Mem} {x : Int} (hx : x ∈ ring L) : 1 ≤ x ∧ x ≤ 99 := by
  unfold ring at hx
  split at hx
  · rename_i h
    unfold healthy at hx
    obtain ⟨m, hm, rfl⟩ := List.mem_map.1 hx
    obtain ⟨j, hj, rfl⟩ := List.getElem_of_mem (List.mem_filter.1 hm).1
    have := (crew_at h hj).1
    simpa [hj] using this
  · simp at hx
theorem getD_mem {h : List Int} {j : Nat} (hj : j < h.length) : h.getD j 0 ∈ h := by
  have : h[j] = h.getD j 0 := by simp [hj]
  rw [← this]; exact List.getElem_mem hj
theorem up_inj {h : List Int} (hp : h.Pairwise (· < ·)) {i j : Nat} (hi : i < h.length) (hj : j < h.length) (e : h.getD i 0 = h.getD j 0) : i = j := by
  rw [List.pairwise_iff_getElem] at hp
  have ei : h[i] = h.getD i 0 := by simp [hi]
  have ej : h[j] = h.getD j 0 := by simp [hj]
  rcases Nat.lt_trichotomy i j with l | l | l
  · have := hp i j hi hj l; omega
  · exact l
  · have := hp j i hj hi l; omega

/-- Who watches at an hour. -/
def at_ (h : List Int) (t : Int) : Int := if h.length = 0 ∨ t < 0 then 0 else h.getD (t % (h.length : Int)).toNat 0
def place : List Int → Int → Nat → Int
  | [], _, _ => -1
  | y :: t, x, k => if x = y then (k : Int) else place t x (k + 1)
theorem place_hit : ∀ {h : List Int} {x : Int} {k j : Nat}, j < h.length → h.getD j 0 = x → (∀ m, m < j → h.getD m 0 ≠ x) → place h x k = ((k + j : Nat) : Int)
  | [], _, _, _, hj, _, _ => by simp at hj
  | y :: t, x, k, 0, _, e, _ => by simp at e; simp [place, e]
  | y :: t, x, k, j + 1, hj, e, hm => by
    have h0 := hm 0 (by omega)
    simp at h0 e hj
    unfold place
    rw [if_neg (fun e => h0 e.symm), place_hit (j := j) hj (by simpa using e) (fun m hm' => by have := hm (m + 1) (by omega); simpa using this)]
    congr 1; omega
theorem place_miss : ∀ {h : List Int} {x : Int} {k : Nat}, (∀ m, m < h.length → h.getD m 0 ≠ x) → place h x k = -1
  | [], _, _, _ => rfl
  | y :: t, x, k, hm => by
    have h0 := hm 0 (by simp)
    simp at h0
    unfold place
    rw [if_neg (fun e => h0 e.symm)]
    exact place_miss (fun m hm' => by have := hm (m + 1) (by simpa using hm'); simpa using this)
theorem place_of : ∀ (h : List Int) (x : Int) (k : Nat), (place h x k = -1 ∧ x ∉ h) ∨ ∃ j, j < h.length ∧ h.getD j 0 = x ∧ place h x k = ((k + j : Nat) : Int)
  | [], x, k => .inl ⟨rfl, by simp⟩
  | y :: t, x, k => by
    unfold place
    by_cases e : x = y
    · exact .inr ⟨0, by simp, by simp [e], by simp [e]⟩
    · rw [if_neg e]
      rcases place_of t x (k + 1) with ⟨h1, h2⟩ | ⟨j, hj, hx, hp⟩
      · exact .inl ⟨h1, by simp [e, h2]⟩
      · exact .inr ⟨j + 1, by simpa using hj, by simpa using hx, by rw [hp]; congr 1; omega⟩
theorem at_place {h : List Int} (hp : h.Pairwise (· < ·)) {p : Nat} (hl : p < h.length) {t : Int} (ht : 0 ≤ t) : at_ h t = h.getD p 0 ↔ t % (h.length : Int) = p := by
  have h1 := Int.emod_nonneg t (b := (h.length : Int)) (by omega)
  have h2 := Int.emod_lt_of_pos t (b := (h.length : Int)) (by omega)
  unfold at_
  rw [if_neg (by omega)]
  constructor
  · intro e
    have := up_inj hp (by omega) hl e
    omega
  · intro e
    rw [e]; rfl
theorem at_none {h : List Int} {id t : Int} (hid : id ≠ 0) (hn : id ∉ h) : at_ h t ≠ id := by
  unfold at_
  split
  · exact fun e => hid e.symm
  · rename_i hq
    have h1 := Int.emod_nonneg t (b := (h.length : Int)) (by omega)
    have h2 := Int.emod_lt_of_pos t (b := (h.length : Int)) (by omega)
    intro e
    exact hn (e ▸ getD_mem (by omega))

/-- How often somebody watches in k hours. -/
def cnt (h : List Int) (id frm : Int) : Nat → Int
  | 0 => 0
  | k + 1 => cnt h id frm k + (if at_ h (frm + k) = id then 1 else 0)
theorem cnt_bound (h : List Int) (id frm : Int) : ∀ k : Nat, 0 ≤ cnt h id frm k ∧ cnt h id frm k ≤ k
  | 0 => by simp [cnt]
  | k + 1 => by have := cnt_bound h id frm k; simp only [cnt]; split <;> omega
theorem cnt_none {h : List Int} {id frm : Int} (hn : ∀ t, at_ h t ≠ id) : ∀ k : Nat, cnt h id frm k = 0
  | 0 => rfl
  | k + 1 => by simp only [cnt]; rw [cnt_none hn k, if_neg (hn _)]; rfl
def inDays (f : Int) : Bool := decide (0 ≤ f ∧ f ≤ 100000)
def hours (h : List Int) (id frm n : Int) : Int := if n ≤ 1000 ∧ (0 ≤ frm ∧ frm ≤ 100000) ∧ id ≠ 0 then cnt h id frm n.toNat else 0
theorem eight {n : Nat} (h : n ≤ 8) (h0 : 0 < n) : n = 1 ∨ n = 2 ∨ n = 3 ∨ n = 4 ∨ n = 5 ∨ n = 6 ∨ n = 7 ∨ n = 8 := by omega
theorem cnt_place {h : List Int} (hp : h.Pairwise (· < ·)) (h8 : h.length ≤ 8) {p : Nat} (hl : p < h.length) {frm : Int} (hf : 0 ≤ frm) : ∀ k : Nat,
    cnt h (h.getD p 0) frm k = if (k : Int) ≤ ((p : Int) - frm) % (h.length : Int) then 0 else ((k : Int) - ((p : Int) - frm) % (h.length : Int) + (h.length : Int) - 1) / (h.length : Int)
  | 0 => by
    have := Int.emod_nonneg ((p : Int) - frm) (b := (h.length : Int)) (by omega)
    simp [cnt, this]
  | k + 1 => by
    have ih := cnt_place hp h8 hl hf k
    have hat := at_place hp hl (t := frm + k) (by omega)
    simp only [cnt, hat]
    rw [ih]
    clear ih hat
    have e8 : (h.length : Int) = 1 ∨ (h.length : Int) = 2 ∨ (h.length : Int) = 3 ∨ (h.length : Int) = 4 ∨ (h.length : Int) = 5 ∨ (h.length : Int) = 6 ∨ (h.length : Int) = 7 ∨ (h.length : Int) = 8 := by omega
    rcases e8 with e | e | e | e | e | e | e | e <;> (rw [e]; omega)

/-- The next hour of a turn from an hour on; the last one until an hour. -/
def nxt (n p hour : Int) : Int := hour + (p - hour) % n
def lst (n p hour : Int) : Int := hour - (hour - p) % n
theorem nxt_hit {n p : Nat} (h8 : n ≤ 8) (hp : p < n) {hour t : Int} (h1 : hour ≤ t) (h2 : t ≤ nxt n p hour) : t % (n : Int) = p ↔ t = nxt n p hour := by
  unfold nxt at *
  rcases eight h8 (by omega) with rfl | rfl | rfl | rfl | rfl | rfl | rfl | rfl <;> omega
theorem lst_hit {n p : Nat} (h8 : n ≤ 8) (hp : p < n) {hour t : Int} (h1 : t ≤ hour) (h2 : lst n p hour ≤ t) : t % (n : Int) = p ↔ t = lst n p hour := by
  unfold lst at *
  rcases eight h8 (by omega) with rfl | rfl | rfl | rfl | rfl | rfl | rfl | rfl <;> omega
theorem nxt_lst {n p : Nat} (h8 : n ≤ 8) (hp : p < n) (hour : Int) : nxt n p (lst n p hour + 1) = nxt n p (hour + 1) := by
  unfold nxt lst
  rcases eight h8 (by omega) with rfl | rfl | rfl | rfl | rfl | rfl | rfl | rfl <;> omega
theorem nxt_bd {n : Nat} (h8 : n ≤ 8) (h0 : 0 < n) (p hour : Int) : hour ≤ nxt n p hour ∧ nxt n p hour ≤ hour + 7 := by
  have h1 := Int.emod_nonneg (p - hour) (b := (n : Int)) (by omega)
  have h2 := Int.emod_lt_of_pos (p - hour) (b := (n : Int)) (by omega)
  unfold nxt; omega
theorem lst_bd {n : Nat} (h8 : n ≤ 8) (h0 : 0 < n) (p hour : Int) : hour - 7 ≤ lst n p hour ∧ lst n p hour ≤ hour := by
  have h1 := Int.emod_nonneg (hour - p) (b := (n : Int)) (by omega)
  have h2 := Int.emod_lt_of_pos (hour - p) (b := (n : Int)) (by omega)
  unfold lst; omega
def swap (h : List Int) (hour id : Int) : Int := if (0 ≤ hour ∧ hour ≤ 100000) ∧ 0 ≤ place h id 0 then nxt h.length (place h id 0) (hour + 1) else -1
def sleep (h : List Int) (id hour : Int) : Int :=
  if (0 ≤ hour ∧ hour ≤ 100000) ∧ 0 ≤ place h id 0 ∧ 0 ≤ lst h.length (place h id 0) hour then nxt h.length (place h id 0) (hour + 1) - lst h.length (place h id 0) hour - 1 else -1
/-- One who is in the ring, or not. -/
theorem in_or (L : List Mem) (id : Int) : (place (ring L) id 0 = -1 ∧ (∀ t, at_ (ring L) t ≠ id ∨ id = 0)) ∨
    ∃ p : Nat, p < (ring L).length ∧ place (ring L) id 0 = p ∧ id = (ring L).getD p 0 ∧ 1 ≤ id := by
  rcases place_of (ring L) id 0 with ⟨h1, h2⟩ | ⟨j, hj, hx, hp⟩
  · exact .inl ⟨h1, fun t => by
      by_cases e : id = 0
      · exact .inr e
      · exact .inl (at_none e h2)⟩
  · exact .inr ⟨j, hj, by rw [hp, Nat.zero_add], hx.symm, by have := ring_pos (getD_mem hj); omega⟩
/-- What the program counts. -/
def cdiv (a b : Int) : Int := (a + b - 1) / b
def most (a b : Int) : Int := if a < b then b else a
theorem hours_place {L : List Mem} {id frm k : Int} {p : Nat} (hp : p < (ring L).length) (hid : id = (ring L).getD p 0) (h1 : 1 ≤ id) (hf : 0 ≤ frm ∧ frm ≤ 100000) (hk : 0 ≤ k ∧ k ≤ 1000) :
    hours (ring L) id frm k = cdiv (most 0 (frm + k - nxt (ring L).length p frm)) (ring L).length := by
  have h8 := ring_len L
  unfold hours
  rw [if_pos ⟨hk.2, hf, by omega⟩, hid, cnt_place (ring_up L) h8 hp hf.1]
  have he : ((k.toNat : Nat) : Int) = k := by omega
  rw [he]
  unfold cdiv most nxt
  have h3 := Int.emod_nonneg ((p : Int) - frm) (b := ((ring L).length : Int)) (by omega)
  generalize ((p : Int) - frm) % ((ring L).length : Int) = d at *
  by_cases h : k ≤ d
  · rw [if_pos h, if_neg (by omega)]
    symm
    apply Int.ediv_eq_zero_of_lt <;> omega
  · rw [if_neg h, if_pos (by omega)]
    congr 1; omega
theorem hours_miss {L : List Mem} {id frm k : Int} (h : ∀ t, at_ (ring L) t ≠ id ∨ id = 0) : hours (ring L) id frm k = 0 := by
  unfold hours
  split
  · rename_i hq
    exact cnt_none (fun t => (h t).resolve_right hq.2.2) _
  · rfl
theorem hours_out {h : List Int} {id frm k : Int} (hq : ¬ ((0 ≤ frm ∧ frm ≤ 100000) ∧ (0 ≤ k ∧ k ≤ 1000))) : hours h id frm k = 0 := by
  unfold hours
  split
  · rename_i hr
    rw [show k.toNat = 0 by omega]; rfl
  · rfl
theorem hours_bd (h : List Int) (id frm k : Int) : 0 ≤ hours h id frm k ∧ hours h id frm k ≤ 1000 := by
  unfold hours
  split
  · have := cnt_bound h id frm k.toNat; omega
  · omega
end Go.Proofs.Ytfdadeiemfmgkaa.Wat
