/- What the law of ways says, of the days and ways themselves. Plain facts. Contracts of the model's IsLand, IsCell and IsOpen. -/
import Derived.Test.YtbpiojnehomljaaG15
import Derived.Test.YtbpiojnehomljaaMBase
import Derived.IntWalk
import Derived.Deep.RegionWith
namespace Go.Proofs.Ytbpiojnehomljaa.Wf
open Go.RowKit Kit Rw Ld Bfs Gr

theorem daysOf_low (W H : Int) (X : List Int) (a b : Int) : -1 ≤ daysOf W H X a b := by
  unfold daysOf
  split
  · rename_i h
    obtain ⟨p, q, n, rfl, rfl, rfl, hn, hL, _⟩ := open_nat h.1
    obtain ⟨p', q', m, e1, e2, rfl, hm, _⟩ := open_nat h.2
    exact (dist_is hL (a := (n : Int)) (by omega) (by omega)).low m (by omega) (by omega)
  · omega
theorem daysOf_high (W H : Int) (X : List Int) (a b : Int) : daysOf W H X a b ≤ 64 := by
  unfold daysOf
  split
  · rename_i h
    obtain ⟨p, q, n, rfl, rfl, rfl, hn, hL, h64, _⟩ := open_nat h.1
    obtain ⟨p', q', m, e1, e2, rfl, hm, _⟩ := open_nat h.2
    have := dist_lt hL (a := (n : Int)) (by omega) (by omega) (n := (m : Int)) (by omega) (by omega)
    omega
  · omega
theorem daysOf_sym (W H : Int) (X : List Int) (a b : Int) : daysOf W H X a b = daysOf W H X b a := by
  unfold daysOf
  by_cases h : isOpen W H X a = true ∧ isOpen W H X b = true
  · rw [if_pos h, if_pos ⟨h.2, h.1⟩]; exact dist_sym h.1 h.2
  · rw [if_neg h, if_neg (fun k => h ⟨k.2, k.1⟩)]
theorem daysOf_pos {W H : Int} {X : List Int} {a b : Int} (h : 0 ≤ daysOf W H X a b) : isOpen W H X a = true ∧ isOpen W H X b = true ∧ daysOf W H X a b = at' (distL W X b) a := by
  unfold daysOf at h ⊢
  split at h
  · rename_i k; rw [if_pos k]; exact ⟨k.1, k.2, dist_sym k.1 k.2⟩
  · omega
theorem wayOf_days (W H : Int) (X : List Int) (a b : Int) : ((wayOf W H X a b).length : Int) = daysOf W H X a b + 1 := by
  unfold wayOf
  by_cases h : isOpen W H X a = true ∧ isOpen W H X b = true
  · rw [if_pos h, wayFrom_len]
    have h1 := daysOf_low W H X a b
    unfold daysOf at h1 ⊢
    rw [if_pos h, dist_sym h.1 h.2] at h1 ⊢
    omega
  · rw [if_neg h]
    unfold daysOf
    rw [if_neg h]; rfl
theorem wayFrom_at (W : Int) (X d : List Int) : ∀ (k i : Nat) (n : Int), i < k → (wayFrom W X d k n).getD i 0 = wayAt W X d i n
  | 0, i, _, h => absurd h (Nat.not_lt_zero _)
  | k + 1, 0, n, _ => rfl
  | k + 1, i + 1, n, h => by
    rw [wayAt_next]
    exact wayFrom_at W X d k i _ (by omega)
theorem wayFrom_drop (W : Int) (X d : List Int) : ∀ (i k : Nat) (n : Int), (wayFrom W X d (i + k) n).drop i = wayFrom W X d k (wayAt W X d i n)
  | 0, k, n => by simp [wayAt]
  | i + 1, k, n => by
    rw [show i + 1 + k = (i + k) + 1 by omega, wayAt_next]
    exact wayFrom_drop W X d i k _
/-- Along a way the days go down one by one. -/
theorem wayAt_days {p h a : Nat} {X : List Int} (ho : isOpen p h X a = true) {n : Int} (n0 : 0 ≤ n) (n1 : n < X.length) (hd : 0 ≤ at' (distL p X a) n) : ∀ i : Nat, (i : Int) ≤ at' (distL p X a) n →
    at' (distL p X a) (wayAt p X (distL p X a) i n) = at' (distL p X a) n - i ∧ 0 ≤ wayAt p X (distL p X a) i n ∧ wayAt p X (distL p X a) i n < X.length ∧ isOpen p h X (wayAt p X (distL p X a) i n) = true
  | 0, _ => ⟨by simp [wayAt], n0, n1, dist_open ho n0 n1 hd⟩
  | i + 1, hi => by
    obtain ⟨h1, h2, h3, _⟩ := wayAt_days ho n0 n1 hd i (by omega)
    have hc := (isOpen_of ho).1
    obtain ⟨hL, a0, a1⟩ := isCell_of hc
    have hne : wayAt p X (distL p X a) i n ≠ a := fun e => by
      rw [e, (dist_is hL a0 a1).src] at h1; omega
    have hk := nearer_day ho h2 h3 (by omega) hne
    have hin := near_in hL h2 h3 hk.2
    simp only [wayAt]
    refine ⟨by rw [hk.1]; omega, hin.1, hin.2.1, dist_open ho hin.1 hin.2.1 (by rw [hk.1]; omega)⟩
theorem wayAt_near {p h a : Nat} {X : List Int} (ho : isOpen p h X a = true) {n : Int} (n0 : 0 ≤ n) (n1 : n < X.length) (hd : 0 ≤ at' (distL p X a) n) (i : Nat) (hi : (i : Int) + 1 ≤ at' (distL p X a) n) :
    wayAt p X (distL p X a) (i + 1) n ∈ near p (wayAt p X (distL p X a) i n) X := by
  obtain ⟨h1, h2, h3, _⟩ := wayAt_days ho n0 n1 hd i (by omega)
  have hc := (isOpen_of ho).1
  obtain ⟨hL, a0, a1⟩ := isCell_of hc
  have hne : wayAt p X (distL p X a) i n ≠ a := fun e => by rw [e, (dist_is hL a0 a1).src] at h1; omega
  simp only [wayAt]
  exact (nearer_day ho h2 h3 (by omega) hne).2
theorem dist_zero {p h a : Nat} {X : List Int} (ho : isOpen p h X a = true) {n : Int} (n0 : 0 ≤ n) (n1 : n < X.length) (hd : at' (distL p X a) n = 0) : n = a := by
  obtain ⟨hL, a0, a1⟩ := isCell_of (isOpen_of ho).1
  by_cases e : n = a
  · exact e
  · obtain ⟨m, _, _, m2, _, m4⟩ := (dist_is hL a0 a1).pre n n0 n1 e (by omega)
    omega
/-- A way from a to b, as the law has it. -/
structure WayP (W H : Int) (X : List Int) (a b : Int) (d : Nat) (L : List Int) : Prop where
  len : L.length = d + 1
  way : isWayOf W H X L = true
  first : L.getD 0 0 = a
  last : L.getD d 0 = b
  far : apart W H X a b ≤ d
  days : ∀ i, i ≤ d → daysOf W H X (L.getD i 0) b = (d : Int) - i
  rest : ∀ i, i ≤ d → wayOf W H X (L.getD i 0) b = L.drop i
theorem apart_tri {p h : Nat} {X : List Int} {a m n : Int} (hc : isCell p h X a = true) (hm : isCell p h X m = true) (hn : isCell p h X n = true) : apart p h X a n ≤ apart p h X a m + apart p h X m n := by
  unfold apart
  rw [if_pos ⟨hc, hn⟩, if_pos ⟨hc, hm⟩, if_pos ⟨hm, hn⟩]
  unfold mx
  generalize a % (p : Int) = x1
  generalize m % (p : Int) = x2
  generalize n % (p : Int) = x3
  generalize a / (p : Int) = y1
  generalize m / (p : Int) = y2
  generalize n / (p : Int) = y3
  split <;> split <;> split <;> split <;> split <;> split <;> omega
theorem apart_dist {p h a : Nat} {X : List Int} (ho : isOpen p h X a = true) : ∀ (k : Nat) (n : Int), 0 ≤ n → n < X.length → at' (distL p X a) n = k → apart p h X a n ≤ k := by
  obtain ⟨hL, a0, a1⟩ := isCell_of (isOpen_of ho).1
  intro k
  induction k with
  | zero =>
    intro n n0 n1 hk
    have := dist_zero ho n0 n1 hk
    subst this
    rw [apart_self (isOpen_of ho).1]; omega
  | succ k ih =>
    intro n n0 n1 hk
    by_cases e : n = a
    · subst e; rw [apart_self (isOpen_of ho).1]; omega
    · obtain ⟨m, m0, m1, m2, m3, m4⟩ := (dist_is hL a0 a1).pre n n0 n1 e (by omega)
      have h1 := ih m m0 m1 (by omega)
      have cm := isCell_mk hL m0 m1
      have h2 := near_apart cm m3
      have := apart_tri (isOpen_of ho).1 cm (isCell_mk hL n0 n1)
      omega
theorem wayP {W H : Int} {X : List Int} {a b : Int} {d : Nat} (h : daysOf W H X a b = d) : WayP W H X a b d (wayOf W H X a b) := by
  obtain ⟨ha, hb, hd⟩ := daysOf_pos (by rw [h]; omega)
  rw [hd] at h
  obtain ⟨p, q, n, rfl, rfl, rfl, hn, hL, h64, _⟩ := open_nat ha
  obtain ⟨p', q', m, e1, e2, rfl, hm, _⟩ := open_nat hb
  have hw : wayOf p q X n m = wayFrom p X (distL p X m) (d + 1) n := by
    unfold wayOf
    rw [if_pos ⟨ha, hb⟩, h]
    congr 1
  have hwd := fun i (hi : i ≤ d) => wayAt_days hb (n := (n : Int)) (by omega) (by omega) (by rw [h]; omega) i (by rw [h]; omega)
  have hat : ∀ i, i ≤ d → (wayFrom p X (distL p X m) (d + 1) n).getD i 0 = wayAt p X (distL p X m) i n := fun i hi => wayFrom_at _ _ _ _ _ _ (by omega)
  rw [hw]
  refine ⟨wayFrom_len _ _ _ _ _, isWayOf_yes ⟨by rw [wayFrom_len]; omega, fun i hi => ?_, fun i hi => ?_⟩, hat 0 (by omega), ?_, ?_, fun i hi => ?_, fun i hi => ?_⟩
  · rw [wayFrom_len] at hi
    rw [hat i (by omega)]; exact (hwd i (by omega)).2.2.2
  · rw [wayFrom_len] at hi
    rw [hat i (by omega), hat (i + 1) (by omega)]
    exact wayAt_near hb (n := (n : Int)) (by omega) (by omega) (by rw [h]; omega) i (by rw [h]; omega)
  · rw [hat d (by omega)]
    have := hwd d (by omega)
    exact dist_zero hb this.2.1 this.2.2.1 (by rw [this.1, h]; omega)
  · rw [apart_comm]; exact apart_dist hb d n (by omega) (by omega) h
  · rw [hat i hi]
    have := hwd i hi
    rw [daysOf, if_pos ⟨this.2.2.2, hb⟩, dist_sym this.2.2.2 hb, this.1, h]
  · rw [hat i hi]
    have := hwd i hi
    unfold wayOf
    rw [if_pos ⟨this.2.2.2, hb⟩, this.1, h]
    have e := wayFrom_drop p X (distL p X m) i (d + 1 - i) n
    rw [show i + (d + 1 - i) = d + 1 by omega] at e
    rw [e]
    congr 1
    omega
/-- What lies near the beginning of a way. -/
theorem near_days {W H : Int} {X : List Int} {a b m : Int} {d : Nat} (h : daysOf W H X a b = d) (hm : m ∈ nearOf W H X a) : (d : Int) - 1 ≤ daysOf W H X m b ∧ 0 ≤ daysOf W H X m b := by
  obtain ⟨ha, hb, hd⟩ := daysOf_pos (by rw [h]; omega)
  rw [hd] at h
  have hmo := nearOf_open hm
  have hmn := (nearOf_mem hm).2
  obtain ⟨p, q, n, rfl, rfl, rfl, hn, hL, h64, _⟩ := open_nat ha
  obtain ⟨p', q', k, e1, e2, rfl, hk, _⟩ := open_nat hb
  obtain ⟨_, m0, m1⟩ := isCell_of (isOpen_of hmo).1
  have D := dist_is hL (a := (k : Int)) (by omega) (by omega)
  have h1 := D.nxt n (by omega) (by omega) (by rw [h]; omega) m hmn
  have h2 := D.nxt m m0 m1 h1.1 n (near_back ha hmn)
  unfold daysOf
  rw [if_pos ⟨hmo, hb⟩, dist_sym hmo hb]
  omega
theorem reachTo_asc (d : List Int) (D : Int) : ∀ k, (reachTo d D k).Pairwise (· < ·) ∧ ∀ x ∈ reachTo d D k, x < (k : Int)
  | 0 => by simp [reachTo]
  | k + 1 => by
    obtain ⟨h1, h2⟩ := reachTo_asc d D k
    rw [reachTo_add]
    split
    · refine ⟨List.pairwise_append.2 ⟨h1, by simp, fun x hx y hy => by simp at hy; subst hy; exact h2 x hx⟩, fun x hx => ?_⟩
      rcases List.mem_append.1 hx with hx | hx
      · have := h2 x hx; omega
      · simp at hx; omega
    · rw [List.append_nil]
      exact ⟨h1, fun x hx => by have := h2 x hx; omega⟩
theorem reachOf_asc (W H : Int) (X : List Int) (a D : Int) : (reachOf W H X a D).Pairwise (· < ·) := by
  unfold reachOf
  split
  · exact (reachTo_asc _ _ _).1
  · simp
theorem reachOf_sub {W H : Int} {X : List Int} {a D E : Int} (h : D ≤ E) : ∀ x ∈ reachOf W H X a D, x ∈ reachOf W H X a E := by
  unfold reachOf
  split
  · intro x hx
    unfold reachTo at hx ⊢
    obtain ⟨i, hi, rfl⟩ := List.mem_map.1 hx
    refine List.mem_map.2 ⟨i, List.mem_filter.2 ⟨(List.mem_filter.1 hi).1, ?_⟩, rfl⟩
    have := (List.mem_filter.1 hi).2
    unfold inReach at this ⊢
    rw [decide_eq_true_eq] at this ⊢
    omega
  · simp
theorem exists_far (d : List Int) : ∀ k : Nat, 0 < k → k ≤ d.length → ∃ r : Nat, r < k ∧ (∀ i : Nat, i < k → at' d i ≤ at' d r) ∧ ∀ i : Nat, i < r → at' d i < at' d r
  | 0, h, _ => absurd h (Nat.not_lt_zero _)
  | 1, _, _ => ⟨0, by omega, fun i hi => by rw [show i = 0 by omega]; exact Int.le_refl _, fun i hi => absurd hi (Nat.not_lt_zero _)⟩
  | k + 2, _, hk => by
    obtain ⟨r, h1, h2, h3⟩ := exists_far d (k + 1) (by omega) (by omega)
    by_cases c : at' d r < at' d (k + 1 : Nat)
    · refine ⟨k + 1, by omega, fun i hi => ?_, fun i hi => ?_⟩
      · by_cases e : i = k + 1
        · rw [e]; exact Int.le_refl _
        · have := h2 i (by omega); omega
      · have := h2 i (by omega); omega
    · refine ⟨r, by omega, fun i hi => ?_, h3⟩
      by_cases e : i = k + 1
      · rw [e]; omega
      · exact h2 i (by omega)
/-- The farthest cell, as the law has it. -/
theorem far_law {W H : Int} {X : List Int} {a : Int} : (0 ≤ farOf W H X a ↔ isOpen W H X a = true) ∧ (isOpen W H X a = true → (reachOf W H X a (daysOf W H X a (farOf W H X a))).length = (reachOf W H X a 99).length) := by
  by_cases ho : isOpen W H X a = true
  · obtain ⟨p, q, n, rfl, rfl, rfl, hn, hL, h64, _⟩ := open_nat ho
    have D := dist_is hL (a := (n : Int)) (by omega) (by omega)
    obtain ⟨r, h1, h2, h3⟩ := exists_far (distL p X n) X.length (by omega) (by rw [D.len]; exact Nat.le_refl _)
    have hf : farOf p q X n = (r : Int) := farOf_eq ho ⟨by omega, by rw [D.len]; omega, fun i i0 i1 => by
        have := h2 i.toNat (by rw [D.len] at i1; omega); rwa [show ((i.toNat : Nat) : Int) = i by omega] at this, fun i i0 i1 => by
        have := h3 i.toNat (by omega); rwa [show ((i.toNat : Nat) : Int) = i by omega] at this⟩
    rw [hf]
    refine ⟨⟨fun _ => ho, fun _ => by omega⟩, fun _ => ?_⟩
    have hs := h2 n hn
    rw [D.src] at hs
    have hro := dist_open ho (n := (r : Int)) (by omega) (by omega) hs
    have hdr : daysOf p q X n r = at' (distL p X n) r := by unfold daysOf; rw [if_pos ⟨ho, hro⟩]
    rw [hdr]
    unfold reachOf
    rw [if_pos ho, if_pos ho]
    unfold reachTo
    congr 2
    refine List.filter_congr fun i hi => ?_
    have hi' := List.mem_range.1 hi
    unfold inReach
    rw [decide_eq_decide]
    have := h2 i hi'
    have := dist_lt hL (a := (n : Int)) (by omega) (by omega) (n := (i : Int)) (by omega) (by omega)
    omega
  · have hf : farOf W H X a = -1 := by unfold farOf; rw [if_neg ho]
    rw [hf]
    exact ⟨⟨fun h => by omega, fun h => absurd h ho⟩, fun h => absurd h ho⟩
end Go.Proofs.Ytbpiojnehomljaa.Wf

namespace Go.Proofs.Ytbpiojnehomljaa.LandS
open Go.RowKit Kit Rw Ld Md

set_option maxHeartbeats 1000000 in
theorem sIsLand_any (w : World) (W H : Int) (v : Value) (X : List Int) (hv : Sees .i64 w v X) :
    Calls Try.prog 127 #[.agg #[.int .i64 W, .int .i64 H, v]] w fun e w' => e = .returned (.bool (isLand W H X)) ∧ w.grownBy w' none := by
  have hl := hv.len
  have HG := Lib.hid (World.grownBy_alloc w (.cells #[.int .i64 W, .int .i64 H, v] 29 (0, 0)) none)
  have HV := Lib.hid (hv.grown HG.out)
  obtain ⟨c0, c1, c2⟩ := (box_new w #[.int .i64 W, .int .i64 H, v] 29).three
  obtain ⟨a, cap, rfl, _⟩ := hv
  by_cases hW : 1 ≤ W ∧ W ≤ 8
  · by_cases hH : 1 ≤ H ∧ H ≤ 8
    · have hA := area hW hH
      have HW := Lib.hid hW
      have HH := Lib.hid hH
      have hp : IntKind.i64.wrap (W * H) = W * H := IntWalk.i64_in _ (by omega)
      clear hW hH
      by_cases hLen : (X.length : Int) = W * H
      · have hLen2 : ((X.length : Int) == W * H) = true := by simpa using hLen
        have hLen3 : ((X.length : Int) != W * H) = false := by simpa using hLen
        have HLen := Lib.hid hLen
        clear hLen
        go_enter Try.func127, Try.ntmps127
        go_wp2_with (first
          | (go_at_call_of 66 (Value.int IntKind.i64 W); refine (l1In_yes _ HW.out).mono ?_; rintro e w' ⟨rfl, rfl⟩)
          | (go_at_call_of 66 (Value.int IntKind.i64 H); refine (l1In_yes _ HH.out).mono ?_; rintro e w' ⟨rfl, rfl⟩))
        clear hLen2 hLen3 hp
        generalize w.alloc (.cells #[.int .i64 W, .int .i64 H, .slice a X.length cap] 29 (0, 0)) = W1 at *
        go_loop [3] (fun i => ∃ j : Nat, j ≤ X.length ∧ i = .int .i64 j ∧ Hid (∀ m, m < j → 0 ≤ X.getD m 0 ∧ X.getD m 0 ≤ 2)) (fun i => X.length - (intOf i).toNat)
        case atStart => exact ⟨0, Nat.zero_le _, rfl, fun m hm => absurd hm (Nat.not_lt_zero _)⟩
        case round =>
          obtain ⟨j, hj, rfl, HE⟩ := hrel
          by_cases hlt : j < X.length
          · obtain ⟨x, hx⟩ : ∃ x, x = X.getD j 0 := ⟨_, rfl⟩
            obtain ⟨b, o, rfl, hcj⟩ := HV.out.at_row hlt
            rw [← hx] at hcj
            have HX := Lib.hid hx
            clear hx
            by_cases hk : 0 ≤ x ∧ x ≤ 2
            · have HK := Lib.hid hk
              clear hk
              go_wp2_with fail
              refine (l1In_yes _ HK.out).mono ?_
              rintro e w' ⟨rfl, rfl⟩
              go_wp2
              go_round
              case rel =>
                refine ⟨j + 1, by omega, by go_num, fun m hm => ?_⟩
                by_cases h : m = j
                · subst h; rw [← HX.out]; exact HK.out
                · exact HE.out m (by omega)
              case measure => simp [intOf]; omega
            · have HK := Lib.hid hk
              have HL : Hid (isLand W H X = false) := isLand_no (fun h => hk (by rw [HX.out]; exact h.2.2.2 _ (mem_getD hlt)))
              clear hk
              go_wp2_with fail
              refine (l1In_no _ HK.out).mono ?_
              rintro e w' ⟨rfl, rfl⟩
              go_wp2
              go_ret
              exact ⟨ret_bool HL.out.symm, HG.out⟩
          · have HL : Hid (isLand W H X = true) := isLand_mk ⟨HW.out, HH.out, HLen.out, fun k hk => by
              obtain ⟨m, hm, rfl⟩ := List.getElem_of_mem hk
              have := HE.out m (by omega)
              simpa [hm] using this⟩
            go_wp2
            go_ret
            exact ⟨ret_bool HL.out.symm, HG.out⟩
      · have hLen2 : ((X.length : Int) == W * H) = false := by simpa using hLen
        have hLen3 : ((X.length : Int) != W * H) = true := by simpa using hLen
        have HL := Lib.hid (isLand_no (W := W) (H := H) (X := X) (fun h => hLen h.2.2.1))
        clear hLen
        go_enter Try.func127, Try.ntmps127
        go_wp2_with (first
          | (go_at_call_of 66 (Value.int IntKind.i64 W); refine (l1In_yes _ HW.out).mono ?_; rintro e w' ⟨rfl, rfl⟩)
          | (go_at_call_of 66 (Value.int IntKind.i64 H); refine (l1In_yes _ HH.out).mono ?_; rintro e w' ⟨rfl, rfl⟩))
        go_ret
        exact ⟨ret_bool HL.out.symm, HG.out⟩
    · have HW := Lib.hid hW
      have HH := Lib.hid hH
      have HL := Lib.hid (isLand_no (W := W) (H := H) (X := X) (fun h => hH h.2.1))
      clear hW hH
      go_enter Try.func127, Try.ntmps127
      go_wp2_with fail
      refine (l1In_yes _ HW.out).mono ?_
      rintro e w' ⟨rfl, rfl⟩
      go_wp2_with fail
      refine (l1In_no _ HH.out).mono ?_
      rintro e w' ⟨rfl, rfl⟩
      go_wp2
      go_ret
      exact ⟨ret_bool HL.out.symm, HG.out⟩
  · have HW := Lib.hid hW
    have HL := Lib.hid (isLand_no (W := W) (H := H) (X := X) (fun h => hW h.1))
    clear hW
    go_enter Try.func127, Try.ntmps127
    go_wp2_with fail
    refine (l1In_no _ HW.out).mono ?_
    rintro e w' ⟨rfl, rfl⟩
    go_wp2
    go_ret
    exact ⟨ret_bool HL.out.symm, HG.out⟩

set_option maxHeartbeats 400000 in
theorem sIsCell_any (w : World) (W H n : Int) (v : Value) (X : List Int) (hv : Sees .i64 w v X) :
    Calls Try.prog 114 #[.agg #[.int .i64 W, .int .i64 H, v], .int .i64 n] w fun e w' => e = .returned (.bool (isCell W H X n)) ∧ w.grownBy w' none := by
  have hl := hv.len
  have hgr := World.grownBy_alloc w (.cells #[.int .i64 W, .int .i64 H, v] 29 (0, 0)) none
  have HG := Lib.hid hgr
  have HV := Lib.hid (hv.grown hgr)
  have HB := Lib.hid (box_new w #[.int .i64 W, .int .i64 H, v] 29)
  obtain ⟨c0, c1, c2⟩ := HB.out.three
  obtain ⟨a, cap, rfl, _⟩ := hv
  clear hgr
  have hs := sIsLand_any _ W H _ X HV.out
  by_cases hL : isLand W H X = true
  · rw [hL] at hs
    have HS := Lib.hid hs
    have HL := Lib.hid hL
    clear hs hL
    go_enter Try.func114, Try.ntmps114
    go_wp2_with fail
    refine HS.out.mono ?_
    rintro e w2 ⟨rfl, hg⟩
    have HG2 := Lib.hid (grownN_trans HG.out hg)
    obtain ⟨d0, d1, d2⟩ := (HB.out.grown hg).three
    clear hg
    go_wp2_with fail
    refine (l1In_any n 0 ((X.length : Int) - 1) _).mono ?_
    rintro e w3 ⟨rfl, rfl⟩
    go_wp2
    go_ret
    refine ⟨ret_bool ?_, HG2.out⟩
    simp [isCell, HL.out]
  · have hL2 : isLand W H X = false := by simpa using hL
    rw [hL2] at hs
    have HS := Lib.hid hs
    have HL := Lib.hid hL2
    clear hs hL hL2
    go_enter Try.func114, Try.ntmps114
    go_wp2_with fail
    refine HS.out.mono ?_
    rintro e w2 ⟨rfl, hg⟩
    have HG2 := Lib.hid (grownN_trans HG.out hg)
    clear hg
    go_wp2
    go_ret
    refine ⟨ret_bool ?_, HG2.out⟩
    simp [isCell, HL.out]

set_option maxHeartbeats 400000 in
theorem sIsOpen_any (w : World) (W H n : Int) (v : Value) (X : List Int) (hv : Sees .i64 w v X) :
    Calls Try.prog 88 #[.agg #[.int .i64 W, .int .i64 H, v], .int .i64 n] w fun e w' => e = .returned (.bool (isOpen W H X n)) ∧ w.grownBy w' none := by
  have hl := hv.len
  have hgr := World.grownBy_alloc w (.cells #[.int .i64 W, .int .i64 H, v] 29 (0, 0)) none
  have HG := Lib.hid hgr
  have HV := Lib.hid (hv.grown hgr)
  have HB := Lib.hid (box_new w #[.int .i64 W, .int .i64 H, v] 29)
  obtain ⟨c0, c1, c2⟩ := HB.out.three
  obtain ⟨a, cap, rfl, _⟩ := hv
  clear hgr
  have hs := sIsCell_any _ W H n _ X HV.out
  by_cases hC : isCell W H X n = true
  · rw [hC] at hs
    obtain ⟨hL, h0, h1⟩ := isCell_of hC
    obtain ⟨m, rfl⟩ : ∃ m : Nat, n = m := ⟨n.toNat, by omega⟩
    have hm : m < X.length := by omega
    obtain ⟨x, hx⟩ : ∃ x, x = X.getD m 0 := ⟨_, rfl⟩
    have HX := Lib.hid hx
    have HS := Lib.hid hs
    have HC := Lib.hid hC
    clear hs hC hL hx
    go_enter Try.func88, Try.ntmps88
    go_wp2_with fail
    refine HS.out.mono ?_
    rintro e w2 ⟨rfl, hg⟩
    have HG2 := Lib.hid (grownN_trans HG.out hg)
    obtain ⟨d0, d1, d2⟩ := (HB.out.grown hg).three
    obtain ⟨b, o, rfl, hcj⟩ := (HV.out.grown hg).at_row hm
    rw [← HX.out] at hcj
    clear hg
    go_wp2
    go_ret
    refine ⟨ret_bool ?_, HG2.out⟩
    simp only [isOpen, HC.out, HX.out, Bool.true_and, Int.toNat_natCast]
    rw [Bool.eq_iff_iff]
    simp
  · have hC2 : isCell W H X n = false := by simpa using hC
    rw [hC2] at hs
    have HS := Lib.hid hs
    have HC := Lib.hid hC2
    clear hs hC hC2
    go_enter Try.func88, Try.ntmps88
    go_wp2_with fail
    refine HS.out.mono ?_
    rintro e w2 ⟨rfl, hg⟩
    have HG2 := Lib.hid (grownN_trans HG.out hg)
    clear hg
    go_wp2
    go_ret
    refine ⟨ret_bool ?_, HG2.out⟩
    simp [isOpen, HC.out]
end Go.Proofs.Ytbpiojnehomljaa.LandS
