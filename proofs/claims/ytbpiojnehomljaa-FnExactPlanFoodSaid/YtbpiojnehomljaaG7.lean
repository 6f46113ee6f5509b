/- Contract of the laws' helper on the size of a row of bools. Plain facts on pasts and rules: no program. Plain facts on a ring of days and on the worst days: no program. A part of a row, from an element on. No condition. -/
import Derived.Test.YtbpiojnehomljaaG2
import Derived.Test.YtbpiojnehomljaaG1
namespace Go.Proofs.Ytbpiojnehomljaa.LawsBo
open Go.RowKit Kit Rw Rg
theorem szB_any (w : World) (v : Value) (X : List Bool) (left : Int) (hv : SeesG encB w v X) (hl : 0 ≤ left) (hl' : left ≤ 1048576) :
    Calls Try.prog 56 #[v, .int .i64 left] w fun e w' => e = .returned (.int .i64 (if (X.length : Int) ≤ left then left - X.length else -1)) ∧ w = w' := by
  have hlen := hv.len
  obtain ⟨a, cap, rfl, _⟩ := hv
  by_cases h : (X.length : Int) ≤ left
  · rw [if_pos h]
    go_enter Try.func56, Try.ntmps56
    go_wp2
    go_ret
    exact ⟨rfl, rfl⟩
  · rw [if_neg h]
    have h2 : left - (X.length : Int) < 0 := by omega
    go_enter Try.func56, Try.ntmps56
    go_wp2
    go_ret
    exact ⟨rfl, rfl⟩

theorem szB_yes (w : World) (v : Value) (X : List Bool) (left : Int) (hv : SeesG encB w v X) (h : (X.length : Int) ≤ left) (hl : 0 ≤ left) (hl' : left ≤ 1048576) :
    Calls Try.prog 56 #[v, .int .i64 left] w fun e w' => e = .returned (.int .i64 (left - (X.length : Int))) ∧ w.grownBy w' none := by
  have := szB_any w v X left hv hl hl'
  rw [if_pos h] at this
  exact this.mono fun e w' h => ⟨h.1, by rw [← h.2]; exact World.grownBy.refl _ _⟩
theorem szB_no (w : World) (v : Value) (X : List Bool) (left : Int) (hv : SeesG encB w v X) (h : ¬ (X.length : Int) ≤ left) (hl : 0 ≤ left) (hl' : left ≤ 1048576) :
    Calls Try.prog 56 #[v, .int .i64 left] w fun e w' => e = .returned (.int .i64 (-1)) ∧ w.grownBy w' none := by
  have := szB_any w v X left hv hl hl'
  rw [if_neg h] at this
  exact this.mono fun e w' h => ⟨h.1, by rw [← h.2]; exact World.grownBy.refl _ _⟩
end Go.Proofs.Ytbpiojnehomljaa.LawsBo

namespace Go.Proofs.Ytbpiojnehomljaa.Stm

def storms (L : List Bool) : Nat := L.countP id
def calm (L : List Bool) : Nat := (L.reverse.takeWhile (fun b => !b)).length
def isRule (m w : Int) : Bool := decide (1 ≤ w ∧ w ≤ 10) && decide (0 ≤ m ∧ m ≤ w - 1)
/-- The storms among the last w of L. -/
def late (w : Int) (L : List Bool) : Nat := storms (L.drop (L.length - w.toNat))
def keeps (m w : Int) (L : List Bool) : Bool := isRule m w && (List.range L.length).all fun i => decide ((late w (L.take (i + 1)) : Int) ≤ m)
def mayStorm (m w : Int) (L : List Bool) : Bool := isRule m w && decide ((late (w - 1) L : Int) < m)
def addDay (L : List Bool) (b : Bool) : List Bool := (L ++ [b]).drop (L.length + 1 - 10)
theorem storms_nil : storms [] = 0 := rfl
theorem storms_app (L M : List Bool) : storms (L ++ M) = storms L + storms M := by simp [storms]
theorem storms_le (L : List Bool) : storms L ≤ L.length := List.countP_le_length
theorem storms_next {L : List Bool} {j : Nat} (hj : j < L.length) : storms (L.take (j + 1)) = storms (L.take j) + (if L.getD j false = true then 1 else 0) := by
  rw [List.take_add_one, storms_app]
  congr 1
  cases h : L[j] <;> simp [hj, h, storms]
theorem calm_step {L : List Bool} {n : Nat} (h : ∀ m, m < n → L.getD (L.length - 1 - m) false = false) (hn : n ≤ L.length) : n ≤ calm L := by
  have : ∀ (n : Nat) (R : List Bool), n ≤ R.length → (∀ m, m < n → R.getD m false = false) → n ≤ (R.takeWhile (fun b => !b)).length := by
    intro n
    induction n with
    | zero => intro R _ _; omega
    | succ n ih =>
      intro R hl hm
      match R, hl with
      | x :: R, hl =>
        have hx : x = false := by simpa using hm 0 (by omega)
        subst hx
        have := ih R (by simpa using hl) (fun m h => by simpa using hm (m + 1) (by omega))
        simpa using this
  refine this n L.reverse (by simpa using hn) (fun m hm => ?_)
  have := h m hm
  rw [List.getD_eq_getElem?_getD] at this ⊢
  rw [List.getElem?_reverse (by omega)]
  exact this
theorem calm_stop {L : List Bool} {n : Nat} (h : n < L.length) (hs : L.getD (L.length - 1 - n) false = true) : calm L ≤ n := by
  have : ∀ (n : Nat) (R : List Bool), R.getD n false = true → (R.takeWhile (fun b => !b)).length ≤ n := by
    intro n
    induction n with
    | zero => intro R hm; match R with | [] => simp | x :: R => simp at hm; subst hm; simp
    | succ n ih =>
      intro R hm
      match R with
      | [] => simp
      | x :: R =>
        have := ih R (by simpa using hm)
        cases x <;> simp <;> omega
  refine this n L.reverse ?_
  rw [List.getD_eq_getElem?_getD] at hs ⊢
  rw [List.getElem?_reverse h]
  exact hs
theorem calm_le (L : List Bool) : calm L ≤ L.length := by
  have := (List.takeWhile_sublist (fun b => !b) (l := L.reverse)).length_le
  simpa [calm] using this
end Go.Proofs.Ytbpiojnehomljaa.Stm

namespace Go.Proofs.Ytbpiojnehomljaa.Stm

theorem storms_true (L : List Bool) : storms (L ++ [true]) = storms L + 1 := by simp [storms_app, storms]
theorem storms_false (L : List Bool) : storms (L ++ [false]) = storms L := by simp [storms_app, storms]
theorem storms_one (L : List Bool) (s : Bool) : storms (L ++ [s]) = storms L + (if s = true then 1 else 0) := by cases s <;> simp [storms_true, storms_false]
theorem storms_rep (k : Nat) : storms (List.replicate k false) = 0 := by simp [storms]
theorem storms_cons (b : Bool) (L : List Bool) : storms (b :: L) = storms L + (if b = true then 1 else 0) := by cases b <;> simp [storms]
/-- The storms among the last k of L. -/
def lastN (k : Nat) (L : List Bool) : Nat := storms (L.drop (L.length - k))
theorem late_lastN (n : Nat) (L : List Bool) : late (n : Int) L = lastN n L := rfl
theorem lastN_zero (L : List Bool) : lastN 0 L = 0 := by simp [lastN, storms]
theorem lastN_next (k : Nat) (L : List Bool) (s : Bool) : lastN (k + 1) (L ++ [s]) = lastN k L + (if s = true then 1 else 0) := by
  unfold lastN
  rw [List.length_append, List.length_singleton, show L.length + 1 - (k + 1) = L.length - k by omega, List.drop_append_of_le_length (by omega), storms_one]
theorem lastN_le (k : Nat) (L : List Bool) : lastN k L ≤ k := by
  unfold lastN
  refine Nat.le_trans (storms_le _) ?_
  rw [List.length_drop]; omega
theorem lastN_mono {k l : Nat} (h : k ≤ l) (L : List Bool) : lastN k L ≤ lastN l L := by
  unfold lastN
  have : L.drop (L.length - k) = (L.drop (L.length - l)).drop (L.length - k - (L.length - l)) := by rw [List.drop_drop]; congr 1; omega
  rw [this]
  exact (List.drop_sublist _ _).countP_le

/-- The last n - 1 days behind L, oldest first. -/
def win (n : Nat) (L : List Bool) : List Bool := (List.replicate (n - 1) false ++ L).drop L.length
theorem win_nil (n : Nat) : win n [] = List.replicate (n - 1) false := by simp [win]
theorem win_len (n : Nat) (L : List Bool) : (win n L).length = n - 1 := by simp [win]
theorem win_next (n : Nat) (L : List Bool) (s : Bool) : win n (L ++ [s]) = (win n L ++ [s]).drop 1 := by
  unfold win
  rw [← List.append_assoc, List.length_append, List.length_singleton, ← List.drop_drop, List.drop_append_of_le_length (by simp)]
theorem storms_win (n : Nat) (L : List Bool) : storms (win n L) = lastN (n - 1) L := by
  unfold win lastN
  rw [List.drop_append, storms_app, List.drop_replicate, storms_rep, Nat.zero_add, List.length_replicate]

/-- A ring of n days, today at t, behind the days L. -/
def Ring (n : Nat) (D : List Bool) (t : Nat) (L : List Bool) : Prop := ∃ B A, D = B ++ false :: A ∧ t = B.length ∧ A ++ B = win n L ∧ 1 ≤ n
section
variable {n t : Nat} {D L : List Bool}
theorem Ring.start (h : 1 ≤ n) : Ring n (List.replicate n false) 0 [] := by
  refine ⟨[], List.replicate (n - 1) false, ?_, rfl, by simp [win_nil], h⟩
  rw [List.nil_append, ← List.replicate_succ]; congr 1; omega
theorem Ring.len (h : Ring n D t L) : D.length = n := by
  obtain ⟨B, A, rfl, _, h2, h3⟩ := h
  have := congrArg List.length h2
  rw [win_len] at this
  simp at this ⊢; omega
theorem Ring.lt (h : Ring n D t L) : t < n := by
  have hl := h.len
  obtain ⟨B, A, rfl, rfl, _, _⟩ := h
  simp at hl; omega
theorem Ring.count (h : Ring n D t L) : storms D = lastN (n - 1) L := by
  obtain ⟨B, A, rfl, rfl, h2, _⟩ := h
  rw [← storms_win, ← h2, storms_app, storms_app, storms_cons]
  simp; omega
theorem Ring.today (h : Ring n D t L) (s : Bool) : storms (D.set t s) = lastN n (L ++ [s]) := by
  obtain ⟨B, A, rfl, rfl, h2, h3⟩ := h
  obtain ⟨k, rfl⟩ : ∃ k, n = k + 1 := ⟨n - 1, by omega⟩
  have h4 := storms_win (k + 1) L
  rw [← h2, storms_app] at h4
  simp only [Nat.add_sub_cancel] at h4
  rw [lastN_next, ← h4, List.set_append_right _ _ (by omega), Nat.sub_self, List.set_cons_zero, storms_app, storms_cons]
  omega
theorem Ring.next (h : Ring n D t L) (s : Bool) : Ring n ((D.set t s).set ((t + 1) % n) false) ((t + 1) % n) (L ++ [s]) := by
  have hl := h.len
  obtain ⟨B, A, rfl, rfl, h2, h3⟩ := h
  rw [List.set_append_right _ _ (by omega), Nat.sub_self, List.set_cons_zero]
  match A, h2, hl with
  | y :: A, h2, hl =>
    have hm : (B.length + 1) % n = B.length + 1 := Nat.mod_eq_of_lt (by simp at hl; omega)
    rw [hm]
    refine ⟨B ++ [s], A, ?_, by simp, ?_, h3⟩
    · rw [List.set_append_right _ _ (by omega), show B.length + 1 - B.length = 1 by omega]; simp
    · rw [win_next, ← h2]; simp
  | [], h2, hl =>
    have hn : n = B.length + 1 := by simp at hl; omega
    have hm : (B.length + 1) % n = 0 := by rw [hn]; exact Nat.mod_self _
    rw [hm]
    match B, h2 with
    | [], h2 => exact ⟨[], [], by simp, rfl, by rw [win_next, ← h2]; simp, h3⟩
    | y :: B, h2 => exact ⟨[], B ++ [s], by simp, rfl, by rw [win_next, ← h2]; simp, h3⟩
end

/-- Whether there may be a storm behind L: for a rule that is one. -/
def may (m n : Nat) (L : List Bool) : Bool := decide (lastN (n - 1) L < m)
theorem mayStorm_may {m n : Nat} {L : List Bool} (h : isRule (m : Int) (n : Int) = true) : mayStorm (m : Int) (n : Int) L = may m n L := by
  have hb : 1 ≤ n := by unfold isRule at h; simp at h; omega
  unfold mayStorm may
  rw [h, Bool.true_and, show ((n : Int) - 1) = ((n - 1 : Nat) : Int) by omega, late_lastN]
  exact decide_eq_decide.2 (by omega)
theorem rule_nat {m n : Int} (h : isRule m n = true) : ∃ M N : Nat, m = M ∧ n = N ∧ M < N ∧ N ≤ 10 := by
  unfold isRule at h
  simp at h
  exact ⟨m.toNat, n.toNat, by omega, by omega, by omega, by omega⟩

/-- The trailing storms of L. -/
def run (L : List Bool) : Nat := (L.reverse.takeWhile id).length
theorem run_true (L : List Bool) : run (L ++ [true]) = run L + 1 := by simp [run]
theorem run_false (L : List Bool) : run (L ++ [false]) = 0 := by simp [run]
theorem run_le_lastN : ∀ (k : Nat) (R : List Bool), min k (R.takeWhile id).length ≤ storms (R.take k)
  | 0, R => by simp
  | k + 1, [] => by simp
  | k + 1, true :: R => by
    have := run_le_lastN k R
    simp [storms_cons]; omega
  | k + 1, false :: R => by simp
theorem storms_reverse (L : List Bool) : storms L.reverse = storms L := by simp [storms]
theorem run_lastN (k : Nat) (L : List Bool) : min k (run L) ≤ lastN k L := by
  have h := run_le_lastN k L.reverse
  rw [List.take_reverse, storms_reverse] at h
  exact h
theorem may_run {m n : Nat} {L : List Bool} (hm : m < n) (h : may m n L = true) : run L < m := by
  have := run_lastN (n - 1) L
  unfold may at h
  simp at h; omega

/-- The days till k of them have been without storm, storms as early as can be; so many at most are looked at. -/
def wd (m n : Nat) : Nat → List Bool → Nat → Nat
  | 0, _, _ => 0
  | f + 1, L, k => if k = 0 then 0 else 1 + wd m n f (L ++ [may m n L]) (if may m n L = true then k else k - 1)
def mu (L : List Bool) (k : Nat) : Nat := k * 20 + (10 - min (run L) 10)
theorem wd_le (m n : Nat) : ∀ (f : Nat) (L : List Bool) (k : Nat), wd m n f L k ≤ f
  | 0, _, _ => by simp [wd]
  | f + 1, L, k => by
    unfold wd
    split
    · omega
    · have := wd_le m n f (L ++ [may m n L]) (if may m n L = true then k else k - 1); omega
theorem mu_next {m n : Nat} {L : List Bool} {k : Nat} (hm : m < n) (hn : n ≤ 10) (hk : k ≠ 0) : mu (L ++ [may m n L]) (if may m n L = true then k else k - 1) < mu L k := by
  by_cases h : may m n L = true
  · have := may_run hm h
    rw [h, if_pos rfl]
    unfold mu
    rw [run_true]; omega
  · have h' : may m n L = false := by simpa using h
    rw [h', if_neg (by simp)]
    unfold mu
    rw [run_false]; omega
theorem wd_same {m n : Nat} (hm : m < n) (hn : n ≤ 10) : ∀ (f g : Nat) (L : List Bool) (k : Nat), mu L k ≤ f → mu L k ≤ g → wd m n f L k = wd m n g L k
  | 0, g, L, k, hf, _ => by
    have : k = 0 := by unfold mu at hf; omega
    subst this
    cases g <;> simp [wd]
  | f + 1, 0, L, k, _, hg => by
    have : k = 0 := by unfold mu at hg; omega
    subst this
    simp [wd]
  | f + 1, g + 1, L, k, hf, hg => by
    unfold wd
    by_cases hk : k = 0
    · rw [if_pos hk, if_pos hk]
    · rw [if_neg hk, if_neg hk]
      have := mu_next (L := L) hm hn hk
      rw [wd_same hm hn f g _ _ (by omega) (by omega)]
/-- The worst days. -/
def worst (m n : Nat) (L : List Bool) (k : Nat) : Nat := wd m n (mu L k) L k
theorem worst_zero (m n : Nat) (L : List Bool) : worst m n L 0 = 0 := by
  unfold worst
  cases mu L 0 <;> simp [wd]
theorem worst_next {m n : Nat} {L : List Bool} {k : Nat} (hm : m < n) (hn : n ≤ 10) (hk : k ≠ 0) : worst m n L k = 1 + worst m n (L ++ [may m n L]) (if may m n L = true then k else k - 1) := by
  have h := mu_next (L := L) hm hn hk
  have e : mu L k = (mu L k - 1) + 1 := by omega
  unfold worst
  rw [e, wd, if_neg hk, wd_same hm hn _ (mu (L ++ [may m n L]) (if may m n L = true then k else k - 1)) _ _ (by omega) (Nat.le_refl _)]
theorem worst_storm {m n : Nat} {L : List Bool} {k : Nat} (hm : m < n) (hn : n ≤ 10) (hk : k ≠ 0) (h : may m n L = true) : worst m n L k = 1 + worst m n (L ++ [true]) k := by
  have := worst_next (L := L) hm hn hk
  rwa [h, if_pos rfl] at this
theorem worst_calm {m n : Nat} {L : List Bool} {k : Nat} (hm : m < n) (hn : n ≤ 10) (hk : k ≠ 0) (h : may m n L = false) : worst m n L k = 1 + worst m n (L ++ [false]) (k - 1) := by
  have := worst_next (L := L) hm hn hk
  rwa [h, if_neg (by simp)] at this
theorem worst_le (m n : Nat) (L : List Bool) (k : Nat) : worst m n L k ≤ k * 20 + 10 := by
  refine Nat.le_trans (wd_le _ _ _ _ _) ?_
  unfold mu; omega
theorem worst_ge {m n : Nat} (hm : m < n) (hn : n ≤ 10) : ∀ (f : Nat) (L : List Bool) (k : Nat), mu L k ≤ f → k ≤ worst m n L k
  | 0, L, k, h => by unfold mu at h; omega
  | f + 1, L, k, h => by
    by_cases hk : k = 0
    · omega
    · have hmu := mu_next (L := L) hm hn hk
      rw [worst_next hm hn hk]
      have := worst_ge hm hn f (L ++ [may m n L]) (if may m n L = true then k else k - 1) (by omega)
      split at this <;> rename_i h1 <;> simp only [h1, if_true, if_false, Bool.false_eq_true] at this ⊢ <;> omega
/-- Who is freer, with more calm days to come, waits no less. -/
theorem worst_more {m n : Nat} (hm : m < n) (hn : n ≤ 10) : ∀ (f : Nat) (L M : List Bool) (k d : Nat), mu M k ≤ f → (∀ j, j ≤ n - 1 → lastN j L ≤ lastN j M + d) → worst m n M k ≤ worst m n L (k + d)
  | 0, L, M, k, d, hf, _ => by
    have : k = 0 := by unfold mu at hf; omega
    subst this
    rw [worst_zero]; omega
  | f + 1, L, M, k, d, hf, hc => by
    by_cases hk : k = 0
    · subst hk; rw [worst_zero]; omega
    · have hmu := mu_next (L := M) hm hn hk
      have step : ∀ (s t : Bool) (d' : Nat), (if s = true then 1 else 0) + d ≤ (if t = true then 1 else 0) + d' → ∀ j, j ≤ n - 1 → lastN j (L ++ [s]) ≤ lastN j (M ++ [t]) + d' := by
        intro s t d' hst j hj
        match j with
        | 0 => rw [lastN_zero]; omega
        | j + 1 =>
          have := hc j (by omega)
          rw [lastN_next, lastN_next]; omega
      cases hM : may m n M <;> cases hL : may m n L
      · rw [hM, if_neg (by simp)] at hmu
        rw [worst_calm hm hn hk hM, worst_calm hm hn (by omega) hL, show k + d - 1 = (k - 1) + d by omega]
        have := worst_more hm hn f (L ++ [false]) (M ++ [false]) (k - 1) d (by omega) (step false false d (by simp))
        omega
      · rw [hM, if_neg (by simp)] at hmu
        rw [worst_calm hm hn hk hM, worst_storm hm hn (by omega) hL, show k + d = (k - 1) + (d + 1) by omega]
        have := worst_more hm hn f (L ++ [true]) (M ++ [false]) (k - 1) (d + 1) (by omega) (step true false (d + 1) (by first | (simp; done) | (simp; omega)))
        omega
      · have hd : 1 ≤ d := by
          have := hc (n - 1) (Nat.le_refl _)
          unfold may at hM hL
          simp at hM hL; omega
        rw [hM, if_pos rfl] at hmu
        rw [worst_storm hm hn hk hM, worst_calm hm hn (by omega) hL, show k + d - 1 = k + (d - 1) by omega]
        have := worst_more hm hn f (L ++ [false]) (M ++ [true]) k (d - 1) (by omega) (step false true (d - 1) (by first | (simp; done) | (simp; omega)))
        omega
      · rw [hM, if_pos rfl] at hmu
        rw [worst_storm hm hn hk hM, worst_storm hm hn (by omega) hL]
        have := worst_more hm hn f (L ++ [true]) (M ++ [true]) k d (by omega) (step true true d (by simp))
        omega
theorem worst_day {m n : Nat} {L : List Bool} {k : Nat} (hm : m < n) (hn : n ≤ 10) (hk : k ≠ 0) : 1 + worst m n (L ++ [false]) (k - 1) ≤ worst m n L k := by
  cases h : may m n L
  · rw [worst_calm hm hn hk h]; omega
  · rw [worst_storm hm hn hk h]
    have := worst_more hm hn _ (L ++ [true]) (L ++ [false]) (k - 1) 1 (Nat.le_refl _) (fun j hj => by
      match j with
      | 0 => rw [lastN_zero]; omega
      | j + 1 => rw [lastN_next, lastN_next]; simp)
    rw [show k - 1 + 1 = k by omega] at this
    omega
theorem worst_alike {m n : Nat} {L M : List Bool} {k : Nat} (hm : m < n) (hn : n ≤ 10) (h : ∀ j, j ≤ n - 1 → lastN j L = lastN j M) : worst m n L k = worst m n M k := by
  have h1 := worst_more hm hn _ L M k 0 (Nat.le_refl _) (fun j hj => by rw [h j hj]; omega)
  have h2 := worst_more hm hn _ M L k 0 (Nat.le_refl _) (fun j hj => by rw [h j hj]; omega)
  simp only [Nat.add_zero] at h1 h2
  omega
theorem lastN_addDay {j : Nat} (L : List Bool) (s : Bool) (hj : j ≤ 10) : lastN j (addDay L s) = lastN j (L ++ [s]) := by
  unfold lastN addDay
  rw [List.drop_drop]
  congr 2
  simp only [List.length_drop, List.length_append, List.length_singleton]
  omega
theorem addDay_len (L : List Bool) (s : Bool) : (addDay L s).length ≤ 10 := by unfold addDay; simp; omega
/-- The function's answer. -/
def worstOf (m n : Int) (L : List Bool) (k : Int) : Int := if isRule m n = true ∧ 0 ≤ k ∧ k ≤ 200 ∧ L.length ≤ 400 then (worst m.toNat n.toNat L k.toNat : Int) else -1
end Go.Proofs.Ytbpiojnehomljaa.Stm

namespace Go.Proofs.Ytbpiojnehomljaa.Rg
open Go.RowKit Kit Rw
theorem flat_drop {α : Type} {e : Enc α} {L : List α} {i : Nat} (hi : i ≤ L.length) : flat e (L.drop i) = (flat e L).drop (i * e.size) := by
  have h0 : (flat e (L.take i)).length = i * e.size := by rw [flat_len, List.length_take, Nat.min_eq_left hi]
  have h1 : flat e L = flat e (L.take i) ++ flat e (L.drop i) := by rw [← flat_app, List.take_append_drop]
  rw [h1, ← h0, List.drop_left]
/-- 'v[i:]', as the walk writes it. -/
theorem seesG_from {α : Type} {e : Enc α} {w : World} {a : Option Addr} {n cap i k : Nat} {L : List α} (h : SeesG e w (.slice a n cap) L) (hi : i ≤ L.length) (hk : k = i * e.size) :
    SeesG e w (.slice (if cap = i then a else a.map (fun x => x.add k)) (n - i) (cap - i)) (L.drop i) := by
  obtain ⟨a', c, e', h1, h2, h3, h4, h5⟩ := h
  injection e' with e1 e2 e3
  subst e1; subst e2; subst e3; subst hk
  refine ⟨_, _, by rw [List.length_drop], by rw [List.length_drop]; omega, by omega, fun h => ?_, fun x hx => h4 x (List.mem_of_mem_drop hx), ?_⟩
  · have ha : a = none := by
      split at h
      · exact h
      · simpa using h
    have := h3 ha; omega
  · by_cases hlt : i < L.length
    · rcases h5 with h5 | ⟨b, o, rfl, hc⟩
      · rw [h5] at hlt; simp at hlt
      · rw [if_neg (by omega)]
        refine .inr ⟨b, o + i * e.size, by simp [Kit.add_plain], fun j hj => ?_⟩
        rw [List.length_drop] at hj
        have hm : i * e.size + j < L.length * e.size := by
          have : i * e.size + (L.length - i) * e.size = L.length * e.size := by rw [← Nat.add_mul]; congr 1; omega
          omega
        have := hc _ hm
        rw [Nat.add_assoc, this, flat_drop hi, List.getElem?_drop]
    · exact .inl (List.drop_of_length_le (by omega))
end Go.Proofs.Ytbpiojnehomljaa.Rg
