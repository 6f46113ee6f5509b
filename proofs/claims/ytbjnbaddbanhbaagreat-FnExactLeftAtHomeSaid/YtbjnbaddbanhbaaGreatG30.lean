/- What the law of ways says, of the days and ways themselves. Plain facts. A strings.Builder of the call's own: written rune by rune (ASCII), and read. The shelf's contract of (*strings.Builder).String at this dump, laid by the shelf's own command, in plain words. -/
import Derived.Test.YtbjnbaddbanhbaaGreatG26
import Derived.Test.YtbjnbaddbanhbaaGreatG2
import Derived.Test.YtbjnbaddbanhbaaGreatMBase
import Derived.Lib.Builder
import Derived.Lib.OthersKept
import Derived.Shelf.Strings.Builder1
import Derived.Test.YtbjnbaddbanhbaaGreatProg
namespace Go.Proofs.YtbjnbaddbanhbaaGreat.Wf
open Go.RowKit Kit Rw Ld Bfs Gr

theorem daysOf_low (W H : Int) (X : List Int) (a b : Int) : -1 ≤ daysOf W H X a b := by
  unfold daysOf
  split
  · rename_i h
    obtain ⟨p, q, n, rfl, rfl, rfl, hn, hL, _⟩ := open_nat h.1
    obtain ⟨p', q', m, e1, e2, rfl, hm, _⟩ := open_nat h.2
    exact (dist_is hL (a := (n : Int)) (by omega) (by omega)).low m (by omega) (by omega)
  · omega
theorem daysOf_high (W H : Int) (X : List Int) (a b : Int) : daysOf W H X a b ≤ 64 := by
  unfold daysOf
  split
  · rename_i h
    obtain ⟨p, q, n, rfl, rfl, rfl, hn, hL, h64, _⟩ := open_nat h.1
    obtain ⟨p', q', m, e1, e2, rfl, hm, _⟩ := open_nat h.2
    have := dist_lt hL (a := (n : Int)) (by omega) (by omega) (n := (m : Int)) (by omega) (by omega)
    omega
  · omega
theorem daysOf_sym (W H : Int) (X : List Int) (a b : Int) : daysOf W H X a b = daysOf W H X b a := by
  unfold daysOf
  by_cases h : isOpen W H X a = true ∧ isOpen W H X b = true
  · rw [if_pos h, if_pos ⟨h.2, h.1⟩]; exact dist_sym h.1 h.2
  · rw [if_neg h, if_neg (fun k => h ⟨k.2, k.1⟩)]
theorem daysOf_pos {W H : Int} {X : List Int} {a b : Int} (h : 0 ≤ daysOf W H X a b) : isOpen W H X a = true ∧ isOpen W H X b = true ∧ daysOf W H X a b = at' (distL W X b) a := by
  unfold daysOf at h ⊢
  split at h
  · rename_i k; rw [if_pos k]; exact ⟨k.1, k.2, dist_sym k.1 k.2⟩
  · omega
theorem wayOf_days (W H : Int) (X : List Int) (a b : Int) : ((wayOf W H X a b).length : Int) = daysOf W H X a b + 1 := by
  unfold wayOf
  by_cases h : isOpen W H X a = true ∧ isOpen W H X b = true
  · rw [if_pos h, wayFrom_len]
    have h1 := daysOf_low W H X a b
    unfold daysOf at h1 ⊢
    rw [if_pos h, dist_sym h.1 h.2] at h1 ⊢
    omega
  · rw [if_neg h]
    unfold daysOf
    rw [if_neg h]; rfl
theorem wayFrom_at (W : Int) (X d : List Int) : ∀ (k i : Nat) (n : Int), i < k → (wayFrom W X d k n).getD i 0 = wayAt W X d i n
  | 0, i, _, h => absurd h (Nat.not_lt_zero _)
  | k + 1, 0, n, _ => rfl
  | k + 1, i + 1, n, h => by
    rw [wayAt_next]
    exact wayFrom_at W X d k i _ (by omega)
theorem wayFrom_drop (W : Int) (X d : List Int) : ∀ (i k : Nat) (n : Int), (wayFrom W X d (i + k) n).drop i = wayFrom W X d k (wayAt W X d i n)
  | 0, k, n => by simp [wayAt]
  | i + 1, k, n => by
    rw [show i + 1 + k = (i + k) + 1 by omega, wayAt_next]
    exact wayFrom_drop W X d i k _
/-- Along a way the days go down one by one. -/
theorem wayAt_days {p h a : Nat} {X : List Int} (ho : isOpen p h X a = true) {n : Int} (n0 : 0 ≤ n) (n1 : n < X.length) (hd : 0 ≤ at' (distL p X a) n) : ∀ i : Nat, (i : Int) ≤ at' (distL p X a) n →
    at' (distL p X a) (wayAt p X (distL p X a) i n) = at' (distL p X a) n - i ∧ 0 ≤ wayAt p X (distL p X a) i n ∧ wayAt p X (distL p X a) i n < X.length ∧ isOpen p h X (wayAt p X (distL p X a) i n) = true
  | 0, _ => ⟨by simp [wayAt], n0, n1, dist_open ho n0 n1 hd⟩
  | i + 1, hi => by
    obtain ⟨h1, h2, h3, _⟩ := wayAt_days ho n0 n1 hd i (by omega)
    have hc := (isOpen_of ho).1
    obtain ⟨hL, a0, a1⟩ := isCell_of hc
    have hne : wayAt p X (distL p X a) i n ≠ a := fun e => by
      rw [e, (dist_is hL a0 a1).src] at h1; omega
    have hk := nearer_day ho h2 h3 (by omega) hne
    have hin := near_in hL h2 h3 hk.2
    simp only [wayAt]
    refine ⟨by rw [hk.1]; omega, hin.1, hin.2.1, dist_open ho hin.1 hin.2.1 (by rw [hk.1]; omega)⟩
theorem wayAt_near {p h a : Nat} {X : List Int} (ho : isOpen p h X a = true) {n : Int} (n0 : 0 ≤ n) (n1 : n < X.length) (hd : 0 ≤ at' (distL p X a) n) (i : Nat) (hi : (i : Int) + 1 ≤ at' (distL p X a) n) :
    wayAt p X (distL p X a) (i + 1) n ∈ near p (wayAt p X (distL p X a) i n) X := by
  obtain ⟨h1, h2, h3, _⟩ := wayAt_days ho n0 n1 hd i (by omega)
  have hc := (isOpen_of ho).1
  obtain ⟨hL, a0, a1⟩ := isCell_of hc
  have hne : wayAt p X (distL p X a) i n ≠ a := fun e => by rw [e, (dist_is hL a0 a1).src] at h1; omega
  simp only [wayAt]
  exact (nearer_day ho h2 h3 (by omega) hne).2
theorem dist_zero {p h a : Nat} {X : List Int} (ho : isOpen p h X a = true) {n : Int} (n0 : 0 ≤ n) (n1 : n < X.length) (hd : at' (distL p X a) n = 0) : n = a := by
  obtain ⟨hL, a0, a1⟩ := isCell_of (isOpen_of ho).1
  by_cases e : n = a
  · exact e
  · obtain ⟨m, _, _, m2, _, m4⟩ := (dist_is hL a0 a1).pre n n0 n1 e (by omega)
    omega
/-- A way from a to b, as the law has it. -/
structure WayP (W H : Int) (X : List Int) (a b : Int) (d : Nat) (L : List Int) : Prop where
  len : L.length = d + 1
  way : isWayOf W H X L = true
  first : L.getD 0 0 = a
  last : L.getD d 0 = b
  far : apart W H X a b ≤ d
  days : ∀ i, i ≤ d → daysOf W H X (L.getD i 0) b = (d : Int) - i
  rest : ∀ i, i ≤ d → wayOf W H X (L.getD i 0) b = L.drop i
theorem apart_tri {p h : Nat} {X : List Int} {a m n : Int} (hc : isCell p h X a = true) (hm : isCell p h X m = true) (hn : isCell p h X n = true) : apart p h X a n ≤ apart p h X a m + apart p h X m n := by
  unfold apart
  rw [if_pos ⟨hc, hn⟩, if_pos ⟨hc, hm⟩, if_pos ⟨hm, hn⟩]
  unfold mx
  generalize a % (p : Int) = x1
  generalize m % (p : Int) = x2
  generalize n % (p : Int) = x3
  generalize a / (p : Int) = y1
  generalize m / (p : Int) = y2
  generalize n / (p : Int) = y3
  split <;> split <;> split <;> split <;> split <;> split <;> omega
theorem apart_dist {p h a : Nat} {X : List Int} (ho : isOpen p h X a = true) : ∀ (k : Nat) (n : Int), 0 ≤ n → n < X.length → at' (distL p X a) n = k → apart p h X a n ≤ k := by
  obtain ⟨hL, a0, a1⟩ := isCell_of (isOpen_of ho).1
  intro k
  induction k with
  | zero =>
    intro n n0 n1 hk
    have := dist_zero ho n0 n1 hk
    subst this
    rw [apart_self (isOpen_of ho).1]; omega
  | succ k ih =>
    intro n n0 n1 hk
    by_cases e : n = a
    · subst e; rw [apart_self (isOpen_of ho).1]; omega
    · obtain ⟨m, m0, m1, m2, m3, m4⟩ := (dist_is hL a0 a1).pre n n0 n1 e (by omega)
      have h1 := ih m m0 m1 (by omega)
      have cm := isCell_mk hL m0 m1
      have h2 := near_apart cm m3
      have := apart_tri (isOpen_of ho).1 cm (isCell_mk hL n0 n1)
      omega
theorem wayP {W H : Int} {X : List Int} {a b : Int} {d : Nat} (h : daysOf W H X a b = d) : WayP W H X a b d (wayOf W H X a b) := by
  obtain ⟨ha, hb, hd⟩ := daysOf_pos (by rw [h]; omega)
  rw [hd] at h
  obtain ⟨p, q, n, rfl, rfl, rfl, hn, hL, h64, _⟩ := open_nat ha
  obtain ⟨p', q', m, e1, e2, rfl, hm, _⟩ := open_nat hb
  have hw : wayOf p q X n m = wayFrom p X (distL p X m) (d + 1) n := by
    unfold wayOf
    rw [if_pos ⟨ha, hb⟩, h]
    congr 1
  have hwd := fun i (hi : i ≤ d) => wayAt_days hb (n := (n : Int)) (by omega) (by omega) (by rw [h]; omega) i (by rw [h]; omega)
  have hat : ∀ i, i ≤ d → (wayFrom p X (distL p X m) (d + 1) n).getD i 0 = wayAt p X (distL p X m) i n := fun i hi => wayFrom_at _ _ _ _ _ _ (by omega)
  rw [hw]
  refine ⟨wayFrom_len _ _ _ _ _, isWayOf_yes ⟨by rw [wayFrom_len]; omega, fun i hi => ?_, fun i hi => ?_⟩, hat 0 (by omega), ?_, ?_, fun i hi => ?_, fun i hi => ?_⟩
  · rw [wayFrom_len] at hi
    rw [hat i (by omega)]; exact (hwd i (by omega)).2.2.2
  · rw [wayFrom_len] at hi
    rw [hat i (by omega), hat (i + 1) (by omega)]
    exact wayAt_near hb (n := (n : Int)) (by omega) (by omega) (by rw [h]; omega) i (by rw [h]; omega)
  · rw [hat d (by omega)]
    have := hwd d (by omega)
    exact dist_zero hb this.2.1 this.2.2.1 (by rw [this.1, h]; omega)
  · rw [apart_comm]; exact apart_dist hb d n (by omega) (by omega) h
  · rw [hat i hi]
    have := hwd i hi
    rw [daysOf, if_pos ⟨this.2.2.2, hb⟩, dist_sym this.2.2.2 hb, this.1, h]
  · rw [hat i hi]
    have := hwd i hi
    unfold wayOf
    rw [if_pos ⟨this.2.2.2, hb⟩, this.1, h]
    have e := wayFrom_drop p X (distL p X m) i (d + 1 - i) n
    rw [show i + (d + 1 - i) = d + 1 by omega] at e
    rw [e]
    congr 1
    omega
/-- What lies near the beginning of a way. -/
theorem near_days {W H : Int} {X : List Int} {a b m : Int} {d : Nat} (h : daysOf W H X a b = d) (hm : m ∈ nearOf W H X a) : (d : Int) - 1 ≤ daysOf W H X m b ∧ 0 ≤ daysOf W H X m b := by
  obtain ⟨ha, hb, hd⟩ := daysOf_pos (by rw [h]; omega)
  rw [hd] at h
  have hmo := nearOf_open hm
  have hmn := (nearOf_mem hm).2
  obtain ⟨p, q, n, rfl, rfl, rfl, hn, hL, h64, _⟩ := open_nat ha
  obtain ⟨p', q', k, e1, e2, rfl, hk, _⟩ := open_nat hb
  obtain ⟨_, m0, m1⟩ := isCell_of (isOpen_of hmo).1
  have D := dist_is hL (a := (k : Int)) (by omega) (by omega)
  have h1 := D.nxt n (by omega) (by omega) (by rw [h]; omega) m hmn
  have h2 := D.nxt m m0 m1 h1.1 n (near_back ha hmn)
  unfold daysOf
  rw [if_pos ⟨hmo, hb⟩, dist_sym hmo hb]
  omega
theorem reachTo_asc (d : List Int) (D : Int) : ∀ k, (reachTo d D k).Pairwise (· < ·) ∧ ∀ x ∈ reachTo d D k, x < (k : Int)
  | 0 => by simp [reachTo]
  | k + 1 => by
    obtain ⟨h1, h2⟩ := reachTo_asc d D k
    rw [reachTo_add]
    split
    · refine ⟨List.pairwise_append.2 ⟨h1, by simp, fun x hx y hy => by simp at hy; subst hy; exact h2 x hx⟩, fun x hx => ?_⟩
      rcases List.mem_append.1 hx with hx | hx
      · have := h2 x hx; omega
      · simp at hx; omega
    · rw [List.append_nil]
      exact ⟨h1, fun x hx => by have := h2 x hx; omega⟩
theorem reachOf_asc (W H : Int) (X : List Int) (a D : Int) : (reachOf W H X a D).Pairwise (· < ·) := by
  unfold reachOf
  split
  · exact (reachTo_asc _ _ _).1
  · simp
theorem reachOf_sub {W H : Int} {X : List Int} {a D E : Int} (h : D ≤ E) : ∀ x ∈ reachOf W H X a D, x ∈ reachOf W H X a E := by
  unfold reachOf
  split
  · intro x hx
    unfold reachTo at hx ⊢
    obtain ⟨i, hi, rfl⟩ := List.mem_map.1 hx
    refine List.mem_map.2 ⟨i, List.mem_filter.2 ⟨(List.mem_filter.1 hi).1, ?_⟩, rfl⟩
    have := (List.mem_filter.1 hi).2
    unfold inReach at this ⊢
    rw [decide_eq_true_eq] at this ⊢
    omega
  · simp
theorem exists_far (d : List Int) : ∀ k : Nat, 0 < k → k ≤ d.length → ∃ r : Nat, r < k ∧ (∀ i : Nat, i < k → at' d i ≤ at' d r) ∧ ∀ i : Nat, i < r → at' d i < at' d r
  | 0, h, _ => absurd h (Nat.not_lt_zero _)
  | 1, _, _ => ⟨0, by omega, fun i hi => by rw [show i = 0 by omega]; exact Int.le_refl _, fun i hi => absurd hi (Nat.not_lt_zero _)⟩
  | k + 2, _, hk => by
    obtain ⟨r, h1, h2, h3⟩ := exists_far d (k + 1) (by omega) (by omega)
    by_cases c : at' d r < at' d (k + 1 : Nat)
    · refine ⟨k + 1, by omega, fun i hi => ?_, fun i hi => ?_⟩
      · by_cases e : i = k + 1
        · rw [e]; exact Int.le_refl _
        · have := h2 i (by omega); omega
      · have := h2 i (by omega); omega
    · refine ⟨r, by omega, fun i hi => ?_, h3⟩
      by_cases e : i = k + 1
      · rw [e]; omega
      · exact h2 i (by omega)
/-- The farthest cell, as the law has it. -/
theorem far_law {W H : Int} {X : List Int} {a : Int} : (0 ≤ farOf W H X a ↔ isOpen W H X a = true) ∧ (isOpen W H X a = true → (reachOf W H X a (daysOf W H X a (farOf W H X a))).length = (reachOf W H X a 99).length) := by
  by_cases ho : isOpen W H X a = true
  · obtain ⟨p, q, n, rfl, rfl, rfl, hn, hL, h64, _⟩ := open_nat ho
    have D := dist_is hL (a := (n : Int)) (by omega) (by omega)
    obtain ⟨r, h1, h2, h3⟩ := exists_far (distL p X n) X.length (by omega) (by rw [D.len]; exact Nat.le_refl _)
    have hf : farOf p q X n = (r : Int) := farOf_eq ho ⟨by omega, by rw [D.len]; omega, fun i i0 i1 => by
        have := h2 i.toNat (by rw [D.len] at i1; omega); rwa [show ((i.toNat : Nat) : Int) = i by omega] at this, fun i i0 i1 => by
        have := h3 i.toNat (by omega); rwa [show ((i.toNat : Nat) : Int) = i by omega] at this⟩
    rw [hf]
    refine ⟨⟨fun _ => ho, fun _ => by omega⟩, fun _ => ?_⟩
    have hs := h2 n hn
    rw [D.src] at hs
    have hro := dist_open ho (n := (r : Int)) (by omega) (by omega) hs
    have hdr : daysOf p q X n r = at' (distL p X n) r := by unfold daysOf; rw [if_pos ⟨ho, hro⟩]
    rw [hdr]
    unfold reachOf
    rw [if_pos ho, if_pos ho]
    unfold reachTo
    congr 2
    refine List.filter_congr fun i hi => ?_
    have hi' := List.mem_range.1 hi
    unfold inReach
    rw [decide_eq_decide]
    have := h2 i hi'
    have := dist_lt hL (a := (n : Int)) (by omega) (by omega) (n := (i : Int)) (by omega) (by omega)
    omega
  · have hf : farOf W H X a = -1 := by unfold farOf; rw [if_neg ho]
    rw [hf]
    exact ⟨⟨fun h => by omega, fun h => absurd h ho⟩, fun h => absurd h ho⟩
end Go.Proofs.YtbjnbaddbanhbaaGreat.Wf

namespace Go.Proofs.YtbjnbaddbanhbaaGreat.Bld
open Go.RowKit Kit Rw Rg

theorem szB : (Tryz.prog.info? 166).map (·.size) = some 2 := by kernel_rfl
theorem liesB : liesAt Tryz.prog Tryz.prog.depth 166 (2 / Tryz.prog.cellsOf 166) 0 166 1 = true := by kernel_rfl
theorem info_u8 : (Tryz.prog.info? 5).map (fun i => (i.zero, i.size, i.bytes)) = some (some (.int .u8 0), 1, 1) := by kernel_rfl
/-- A builder in block b that holds the bytes L; its rows lie behind it. -/
def Bd (w : World) (b : Nat) (L : List Int) : Prop :=
  ∃ p v, (p = .pointer none ∨ p = .pointer (some ⟨b, 0, none⟩)) ∧ Box w b #[p, v] 166 ∧ Own .u8 5 w (b + 1) v L
def Bu (w : World) (b : Nat) (v : Value) (L : List Int) : Prop := Box w b #[.pointer (some ⟨b, 0, none⟩), v] 166 ∧ Own .u8 5 w (b + 1) v L
theorem Bd.new (w : World) : Bd (w.alloc (.cells #[.pointer none, .slice none 0 0] 166 (0, 0))) w.heap.size [] :=
  ⟨_, _, .inl rfl, box_new _ _ _, ⟨World.ownsRow_nil _ _ _ _, by simp⟩⟩
theorem Bu.bd {w : World} {b : Nat} {v : Value} {L : List Int} (h : Bu w b v L) : Bd w b L := ⟨_, v, .inr rfl, h.1, h.2⟩
theorem Bd.lt {w : World} {b : Nat} {L : List Int} (h : Bd w b L) : b < w.heap.size := by obtain ⟨_, _, _, h, _⟩ := h; exact h.lt
theorem set2_0 {w : World} {b : Nat} {x y u : Value} {t : TypeId} (h : Box w b #[x, y] t) : Box (w.setCell ⟨b, 0, none⟩ u) b #[u, y] t := box_set h 0 u
theorem set2_1 {w : World} {b : Nat} {x y u : Value} {t : TypeId} (h : Box w b #[x, y] t) : Box (w.setCell ⟨b, 1, none⟩ u) b #[x, u] t := box_set h 1 u
theorem own_off {w : World} {b : Nat} {v : Value} {L : List Int} (h : Own .u8 5 w (b + 1) v L) : v.ownBlock = none ∨ v.ownBlock ≠ some b := .inr fun e => by have := h.1.lt _ e; omega
theorem grown_below' {w w' : World} {b : Nat} (h : w.grownBy w' (some b)) (hB : b < w.heap.size) : Below b w w' := (Below.refl b w).grown h (Nat.le_of_lt hB) (fun k hk => by injection hk; omega)
theorem ret_one {a : Int} (h : a = 1) : Ending.returned (.tuple #[.int .i64 a, .nilIface]) = .returned (.tuple #[.int .i64 1, .nilIface]) := by rw [h]
/-- How much is written. -/
def bufLen (w : World) (b : Nat) : Nat := match w.cell? ⟨b, 1, none⟩ with
  | some (.slice _ n _) => n
  | _ => 0
theorem Bd.bufLen {w : World} {b : Nat} {L : List Int} (h : Bd w b L) : bufLen w b = L.length := by
  obtain ⟨p, v, _, hb, ho⟩ := h
  obtain ⟨va, vn, vc, rfl, HN⟩ := ho.sees.shape
  unfold Bld.bufLen
  rw [hb.cell 1]
  exact HN.out.symm
/-- Whatever leaves the blocks from the builder on as they were. -/
theorem Bd.kept {w w' : World} {b : Nat} {L : List Int} (h : Bd w b L) (hs : w.heap.size ≤ w'.heap.size) (hk : ∀ k, b ≤ k → k < w.heap.size → w'.heap[k]? = w.heap[k]?) : Bd w' b L := by
  obtain ⟨p, v, hp, hb, ho, hw⟩ := h
  refine ⟨p, v, hp, (hk b (Nat.le_refl _) hb.lt).trans hb, ?_, hw⟩
  obtain ⟨h1, h2⟩ := ho
  refine ⟨h1, ?_⟩
  rcases h2 with h2 | ⟨g, cap, cur, hv, hg, hh, r⟩
  · exact .inl h2
  · have hlt : g < w.heap.size := by
      rcases Nat.lt_or_ge g w.heap.size with h' | h'
      · exact h'
      · rw [Array.getElem?_eq_none h'] at hh; cases hh
    exact .inr ⟨g, cap, cur, hv, hg, (hk g (by omega) hlt).trans hh, r⟩

set_option maxHeartbeats 1000000 in
set_option maxRecDepth 100000 in
theorem check_any (w : World) (b : Nat) (L : List Int) (h : Bd w b L) :
    Calls Tryz.prog 178 #[.pointer (some ⟨b, 0, none⟩)] w fun e w' => e = .returned (.tuple #[]) ∧ (∃ v, Bu w' b v L) ∧ w.grownBy w' (some b) := by
  obtain ⟨j, hj, hjs⟩ := Option.map_eq_some_iff.1 szB
  obtain ⟨p, v, hp, hb, ho⟩ := h
  have HO := Lib.hid ho
  have HB := Lib.hid hb
  rcases hp with rfl | rfl
  · have h0 : w.cell? ⟨b, 0, none⟩ = some (.pointer none) := hb.cell 0
    have hsh : w.shape? b = some (166, 2) := by
      have h' : w.heap[b]? = _ := hb
      simp [World.shape?, h']
    have hfz := hb.free 0
    clear hb ho
    go_enter Tryz.func178, Tryz.ntmps178
    go_wp2
    rw [Lib.run_to_unsafe w ⟨b, 0, none⟩ Tryz.underlying163 Tryz.underlying197 hj (by rw [hjs]; decide) hsh (Nat.zero_lt_succ 1)]
    simp only [Result.andThen]
    rw [Oper.upon_value]
    go_wp2
    rw [run_callFunc_extern Tryz.func193 (by kernel_rfl) (by kernel_rfl) (by kernel_rfl) (e := Extern.AbiNoEscape.same) (by kernel_rfl)]
    rw [Lib.run_noEscape]
    simp only [Result.andThen]
    rw [Oper.upon_value]
    go_wp2
    rw [Lib.run_from_unsafe w ⟨b, 0, none⟩ Tryz.underlying197 Tryz.underlying163 hj hsh liesB]
    simp only [Result.andThen]
    rw [Oper.upon_value]
    go_wp2
    go_end0
    exact ⟨rfl, ⟨v, set2_0 HB.out, HO.out.kept (grown_set w b 0 _) (own_off HO.out)⟩, grown_set w b 0 _⟩
  · have h0 : w.cell? ⟨b, 0, none⟩ = some (.pointer (some ⟨b, 0, none⟩)) := hb.cell 0
    clear hb ho
    go_enter Tryz.func178, Tryz.ntmps178
    go_wp2
    rw [Lib.run_neq_ptr_same w _ Tryz.underlying163 hj]
    go_wp2
    go_end0
    exact ⟨rfl, ⟨v, HB.out, HO.out⟩, World.grownBy.refl _ _⟩

set_option maxHeartbeats 1000000 in
set_option maxRecDepth 100000 in
theorem rune_any (w : World) (base : Nat) (v : Value) (L : List Int) (r : Nat) (hr : r = 115 ∨ r = 46) (hv : Own .u8 5 w base v L) (hl : L.length ≤ 1000000000) (hb : base ≤ w.heap.size) :
    Calls Tryz.prog 179 #[v, .int .i32 (r : Int)] w fun e w' => ∃ u, e = .returned u ∧ Own .u8 5 w' base u (L ++ [(r : Int)]) ∧ w.grownBy w' v.ownBlock := by
  obtain ⟨i0, hi, hz0, hz1, hz2⟩ := info_parts info_u8
  have HV := Lib.hid hv
  have hr0 : (0 : Int) ≤ (r : Int) := by omega
  have hr1 : (r : Int) ≤ 127 := by omega
  have hc1 : IntKind.u32.wrap (r : Int) = (r : Int) := by rcases hr with rfl | rfl <;> decide
  have hc2 : IntKind.u8.wrap (r : Int) = (r : Int) := by rcases hr with rfl | rfl <;> decide
  have HWF : Hid ((Lit.int .u8 (r : Int)).wf = true) := by show _ = _; rcases hr with rfl | rfl <;> decide
  clear hr
  clear hv
  go_enter Tryz.func179, Tryz.ntmps179
  go_wp2_with (at_builtin; go_loud (refine wpList_append_one _ rfl _ _ 164 rfl base 5 i0 (.int .u8 0) 1 Tryz.underlying164 hi hz0 hz1 hz2 rfl .u8 _ L rfl HV.out (r : Int) rfl HWF.out (by omega) (by decide) hb ?_); intro v3 w3 hown3 hgrow3; have HO3 := Lib.hid hown3; have HG3 := Lib.hid hgrow3; clear hown3 hgrow3)
  go_ret
  exact ⟨_, rfl, HO3.out, HG3.out⟩

set_option maxHeartbeats 1000000 in
set_option maxRecDepth 100000 in
/-- One rune more. -/
theorem write_any (w : World) (b : Nat) (L : List Int) (r : Nat) (hr : r = 115 ∨ r = 46) (h : Bd w b L) (hl : L.length ≤ 3000000) :
    Calls Tryz.prog 157 #[.pointer (some ⟨b, 0, none⟩), .int .i32 (r : Int)] w fun e w' => e = .returned (.tuple #[.int .i64 1, .nilIface]) ∧ Bd w' b (L ++ [(r : Int)]) ∧ Below b w w' := by
  have HC := Lib.hid (check_any w b L h)
  have HR := Lib.hid hr
  have HLT := Lib.hid h.lt
  clear h hr
  go_enter Tryz.func157, Tryz.ntmps157
  go_wp2_with fail
  refine HC.out.mono ?_
  rintro e w1 ⟨rfl, ⟨v, hb1, ho1⟩, hg1⟩
  obtain ⟨va, vn, vc, rfl, HN⟩ := ho1.sees.shape
  have hvn : vn ≤ 3000000 := by rw [← HN.out]; exact hl
  have c1 : w1.cell? ⟨b, 1, none⟩ = some (.slice va vn vc) := hb1.cell 1
  have HB1 := Lib.hid hb1
  have HO1 := Lib.hid ho1
  have HG1 := Lib.hid (grown_below' hg1 HLT.out)
  clear hb1 ho1 hg1 HC
  go_wp2_with fail
  refine (rune_any w1 (b + 1) _ L r HR.out HO1.out (by omega) HB1.out.lt).mono ?_
  rintro e w2 ⟨u, rfl, ho2, hg2⟩
  obtain ⟨ua, un, uc, rfl, HUN⟩ := ho2.sees.shape
  have hun : un = vn + 1 := by rw [← HUN.out, ← HN.out]; simp
  subst hun
  have hne : (Value.slice va vn vc).ownBlock ≠ some b := fun e => by have := HO1.out.1.lt _ e; omega
  have HB2 := Lib.hid (HB1.out.kept hg2 hne)
  have HB3 := Lib.hid (set2_1 (u := .slice ua (vn + 1) uc) HB2.out)
  have HO2 := Lib.hid ho2
  have HG2 : Hid (Below b w w2) := HG1.out.trans ((Below.refl b w1).grown hg2 (Nat.le_of_lt HB1.out.lt) (fun k hk => by have := HO1.out.1.lt _ hk; omega))
  have HO3 := Lib.hid (HO2.out.kept (grown_set w2 b 1 (.slice ua (vn + 1) uc)) (own_off HO2.out))
  have HG3 : Hid (Below b w (w2.setCell ⟨b, 1, none⟩ (.slice ua (vn + 1) uc))) := HG2.out.trans (grown_below' (grown_set w2 b 1 (.slice ua (vn + 1) uc)) HB2.out.lt)
  have d1 := HB2.out.cell 1
  have f1 := HB2.out.free 1
  have e1 : World.cell? _ ⟨b, 1, none⟩ = some (.slice ua (vn + 1) uc) := HB3.out.cell 1
  clear ho2 hg2 c1
  go_wp2
  go_ret2
  exact ⟨ret_one (by omega), ⟨_, _, .inr rfl, HB3.out, HO3.out⟩, HG3.out⟩
end Go.Proofs.YtbjnbaddbanhbaaGreat.Bld

namespace Go.Proofs
open Go.Shelf
def Tryz.lays169_ren : Go.Shelf.Ren := ⟨fun | 169 => 158 | n => n, fun | 70 => 163 | 9 => 9 | 0 => 0 | 72 => 166 | 37 => 164 | 127 => 185 | 3 => 3 | 5 => 5 | n => n, fun | n => n⟩
theorem Tryz.lays169 : Go.Proofs.Lays.n169 Tryz.prog Tryz.lays169_ren := {
  mixed := by kernel_rfl
  f169 := Tryz.func158.trans (congrArg some (by kernel_rfl))
  t0 := Tryz.underlying0
  a0 := Tryz.isAgg0
  z0 := Tryz.sizeOf0
  v0 := Tryz.zeroValue0
  t3 := Tryz.underlying3
  a3 := Tryz.isAgg3
  z3 := Tryz.sizeOf3
  v3 := Tryz.zeroValue3
  t9 := Tryz.underlying9
  a9 := Tryz.isAgg9
  z9 := Tryz.sizeOf9
  v9 := Tryz.zeroValue9
  t37 := Tryz.underlying164
  a37 := Tryz.isAgg164
  z37 := Tryz.sizeOf164
  v37 := Tryz.zeroValue164
  t70 := Tryz.underlying163
  a70 := Tryz.isAgg163
  z70 := Tryz.sizeOf163
  v70 := Tryz.zeroValue163
  t72 := Tryz.underlying166
  a72 := Tryz.isAgg166
  z72 := Tryz.sizeOf166
  v72 := Tryz.zeroValue166
  t127 := Tryz.underlying185
  a127 := Tryz.isAgg185
  z127 := Tryz.sizeOf185
  v127 := Tryz.zeroValue185 }
theorem Tryz.Builder_Extra_169 : Builder.Extra Tryz.prog Tryz.lays169_ren := {
  sizeBuilder := by kernel_rfl
  liesBuilder := by kernel_rfl
  t5 := Tryz.underlying5
  a5 := Tryz.isAgg5
  z5 := Tryz.sizeOf5
  v5 := Tryz.zeroValue5
  infoByte := by kernel_rfl
  cellsByte := by kernel_rfl
  sizeByte := by kernel_rfl
  neB5 := by decide }
end Go.Proofs
