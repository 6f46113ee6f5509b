/- Plain facts on a ring of days and on the worst days: no program. A part of a row, from an element on. No condition. Contracts of the model's functions of chapter 6. -/
import Derived.Test.YtonalkamfgpokaaGreatG6
import Derived.Test.YtonalkamfgpokaaGreatG1
import Derived.IntWalk
import Derived.Deep.RegionWith
import Derived.Deep.QuietTactic
import Derived.BigQuiet
namespace Go.Proofs.YtonalkamfgpokaaGreat.Stm

theorem storms_true (L : List Bool) : storms (L ++ [true]) = storms L + 1 := by simp [storms_app, storms]
theorem storms_false (L : List Bool) : storms (L ++ [false]) = storms L := by simp [storms_app, storms]
theorem storms_one (L : List Bool) (s : Bool) : storms (L ++ [s]) = storms L + (if s = true then 1 else 0) := by cases s <;> simp [storms_true, storms_false]
theorem storms_rep (k : Nat) : storms (List.replicate k false) = 0 := by simp [storms]
theorem storms_cons (b : Bool) (L : List Bool) : storms (b :: L) = storms L + (if b = true then 1 else 0) := by cases b <;> simp [storms]
/-- The storms among the last k of L. -/
def lastN (k : Nat) (L : List Bool) : Nat := storms (L.drop (L.length - k))
theorem late_lastN (n : Nat) (L : List Bool) : late (n : Int) L = lastN n L := rfl
theorem lastN_zero (L : List Bool) : lastN 0 L = 0 := by simp [lastN, storms]
theorem lastN_next (k : Nat) (L : List Bool) (s : Bool) : lastN (k + 1) (L ++ [s]) = lastN k L + (if s = true then 1 else 0) := by
  unfold lastN
  rw [List.length_append, List.length_singleton, show L.length + 1 - (k + 1) = L.length - k by omega, List.drop_append_of_le_length (by omega), storms_one]
/-- The last n - 1 days behind L, oldest first. -/
def win (n : Nat) (L : List Bool) : List Bool := (List.replicate (n - 1) false ++ L).drop L.length
theorem win_nil (n : Nat) : win n [] = List.replicate (n - 1) false := by simp [win]
theorem win_len (n : Nat) (L : List Bool) : (win n L).length = n - 1 := by simp [win]
theorem win_next (n : Nat) (L : List Bool) (s : Bool) : win n (L ++ [s]) = (win n L ++ [s]).drop 1 := by
  unfold win
  rw [← List.append_assoc, List.length_append, List.length_singleton, ← List.drop_drop, List.drop_append_of_le_length (by simp)]
theorem storms_win (n : Nat) (L : List Bool) : storms (win n L) = lastN (n - 1) L := by
  unfold win lastN
  rw [List.drop_append, storms_app, List.drop_replicate, storms_rep, Nat.zero_add, List.length_replicate]

/-- A ring of n days, today at t, behind the days L. -/
def Ring (n : Nat) (D : List Bool) (t : Nat) (L : List Bool) : Prop := ∃ B A, D = B ++ false :: A ∧ t = B.length ∧ A ++ B = win n L ∧ 1 ≤ n
section
variable {n t : Nat} {D L : List Bool}
theorem Ring.start (h : 1 ≤ n) : Ring n (List.replicate n false) 0 [] := by
  refine ⟨[], List.replicate (n - 1) false, ?_, rfl, by simp [win_nil], h⟩
  rw [List.nil_append, ← List.replicate_succ]; congr 1; omega
theorem Ring.len (h : Ring n D t L) : D.length = n := by
  obtain ⟨B, A, rfl, _, h2, h3⟩ := h
  have := congrArg List.length h2
  rw [win_len] at this
  simp at this ⊢; omega
theorem Ring.lt (h : Ring n D t L) : t < n := by
  have hl := h.len
  obtain ⟨B, A, rfl, rfl, _, _⟩ := h
  simp at hl; omega
theorem Ring.count (h : Ring n D t L) : storms D = lastN (n - 1) L := by
  obtain ⟨B, A, rfl, rfl, h2, _⟩ := h
  rw [← storms_win, ← h2, storms_app, storms_app, storms_cons]
  simp; omega
theorem Ring.today (h : Ring n D t L) (s : Bool) : storms (D.set t s) = lastN n (L ++ [s]) := by
  obtain ⟨B, A, rfl, rfl, h2, h3⟩ := h
  obtain ⟨k, rfl⟩ : ∃ k, n = k + 1 := ⟨n - 1, by omega⟩
  have h4 := storms_win (k + 1) L
  rw [← h2, storms_app] at h4
  simp only [Nat.add_sub_cancel] at h4
  rw [lastN_next, ← h4, List.set_append_right _ _ (by omega), Nat.sub_self, List.set_cons_zero, storms_app, storms_cons]
  omega
theorem Ring.next (h : Ring n D t L) (s : Bool) : Ring n ((D.set t s).set ((t + 1) % n) false) ((t + 1) % n) (L ++ [s]) := by
  have hl := h.len
  obtain ⟨B, A, rfl, rfl, h2, h3⟩ := h
  rw [List.set_append_right _ _ (by omega), Nat.sub_self, List.set_cons_zero]
  match A, h2, hl with
  | y :: A, h2, hl =>
    have hm : (B.length + 1) % n = B.length + 1 := Nat.mod_eq_of_lt (by simp at hl; omega)
    rw [hm]
    refine ⟨B ++ [s], A, ?_, by simp, ?_, h3⟩
    · rw [List.set_append_right _ _ (by omega), show B.length + 1 - B.length = 1 by omega]; simp
    · rw [win_next, ← h2]; simp
  | [], h2, hl =>
    have hn : n = B.length + 1 := by simp at hl; omega
    have hm : (B.length + 1) % n = 0 := by rw [hn]; exact Nat.mod_self _
    rw [hm]
    match B, h2 with
    | [], h2 => exact ⟨[], [], by simp, rfl, by rw [win_next, ← h2]; simp, h3⟩
    | y :: B, h2 => exact ⟨[], B ++ [s], by simp, rfl, by rw [win_next, ← h2]; simp, h3⟩
end

/-- Whether there may be a storm behind L: for a rule that is one. -/
def may (m n : Nat) (L : List Bool) : Bool := decide (lastN (n - 1) L < m)
theorem mayStorm_may {m n : Nat} {L : List Bool} (h : isRule (m : Int) (n : Int) = true) : mayStorm (m : Int) (n : Int) L = may m n L := by
  have hb : 1 ≤ n := by unfold isRule at h; simp at h; omega
  unfold mayStorm may
  rw [h, Bool.true_and, show ((n : Int) - 1) = ((n - 1 : Nat) : Int) by omega, late_lastN]
  exact decide_eq_decide.2 (by omega)
theorem rule_nat {m n : Int} (h : isRule m n = true) : ∃ M N : Nat, m = M ∧ n = N ∧ M < N ∧ N ≤ 10 := by
  unfold isRule at h
  simp at h
  exact ⟨m.toNat, n.toNat, by omega, by omega, by omega, by omega⟩

/-- The trailing storms of L. -/
def run (L : List Bool) : Nat := (L.reverse.takeWhile id).length
theorem run_true (L : List Bool) : run (L ++ [true]) = run L + 1 := by simp [run]
theorem run_false (L : List Bool) : run (L ++ [false]) = 0 := by simp [run]
theorem run_le_lastN : ∀ (k : Nat) (R : List Bool), min k (R.takeWhile id).length ≤ storms (R.take k)
  | 0, R => by simp
  | k + 1, [] => by simp
  | k + 1, true :: R => by
    have := run_le_lastN k R
    simp [storms_cons]; omega
  | k + 1, false :: R => by simp
theorem storms_reverse (L : List Bool) : storms L.reverse = storms L := by simp [storms]
theorem run_lastN (k : Nat) (L : List Bool) : min k (run L) ≤ lastN k L := by
  have h := run_le_lastN k L.reverse
  rw [List.take_reverse, storms_reverse] at h
  exact h
theorem may_run {m n : Nat} {L : List Bool} (hm : m < n) (h : may m n L = true) : run L < m := by
  have := run_lastN (n - 1) L
  unfold may at h
  simp at h; omega

/-- The days till k of them have been without storm, storms as early as can be; so many at most are looked at. -/
def wd (m n : Nat) : Nat → List Bool → Nat → Nat
  | 0, _, _ => 0
  | f + 1, L, k => if k = 0 then 0 else 1 + wd m n f (L ++ [may m n L]) (if may m n L = true then k else k - 1)
def mu (L : List Bool) (k : Nat) : Nat := k * 20 + (10 - min (run L) 10)
theorem mu_next {m n : Nat} {L : List Bool} {k : Nat} (hm : m < n) (hn : n ≤ 10) (hk : k ≠ 0) : mu (L ++ [may m n L]) (if may m n L = true then k else k - 1) < mu L k := by
  by_cases h : may m n L = true
  · have := may_run hm h
    rw [h, if_pos rfl]
    unfold mu
    rw [run_true]; omega
  · have h' : may m n L = false := by simpa using h
    rw [h', if_neg (by simp)]
    unfold mu
    rw [run_false]; omega
/-- The worst days. -/
def worst (m n : Nat) (L : List Bool) (k : Nat) : Nat := wd m n (mu L k) L k
theorem lastN_addDay {j : Nat} (L : List Bool) (s : Bool) (hj : j ≤ 10) : lastN j (addDay L s) = lastN j (L ++ [s]) := by
  unfold lastN addDay
  rw [List.drop_drop]
  congr 2
  simp only [List.length_drop, List.length_append, List.length_singleton]
  omega
theorem addDay_len (L : List Bool) (s : Bool) : (addDay L s).length ≤ 10 := by unfold addDay; simp; omega
/-- The function's answer. -/
def worstOf (m n : Int) (L : List Bool) (k : Int) : Int := if isRule m n = true ∧ 0 ≤ k ∧ k ≤ 200 ∧ L.length ≤ 400 then (worst m.toNat n.toNat L k.toNat : Int) else -1
end Go.Proofs.YtonalkamfgpokaaGreat.Stm

namespace Go.Proofs.YtonalkamfgpokaaGreat.Rg
open Go.RowKit Kit Rw
theorem flat_drop {α : Type} {e : Enc α} {L : List α} {i : Nat} (hi : i ≤ L.length) : flat e (L.drop i) = (flat e L).drop (i * e.size) := by
  have h0 : (flat e (L.take i)).length = i * e.size := by rw [flat_len, List.length_take, Nat.min_eq_left hi]
  have h1 : flat e L = flat e (L.take i) ++ flat e (L.drop i) := by rw [← flat_app, List.take_append_drop]
  rw [h1, ← h0, List.drop_left]
/-- 'v[i:]', as the walk writes it. -/
theorem seesG_from {α : Type} {e : Enc α} {w : World} {a : Option Addr} {n cap i k : Nat} {L : List α} (h : SeesG e w (.slice a n cap) L) (hi : i ≤ L.length) (hk : k = i * e.size) :
    SeesG e w (.slice (if cap = i then a else a.map (fun x => x.add k)) (n - i) (cap - i)) (L.drop i) := by
  obtain ⟨a', c, e', h1, h2, h3, h4, h5⟩ := h
  injection e' with e1 e2 e3
  subst e1; subst e2; subst e3; subst hk
  refine ⟨_, _, by rw [List.length_drop], by rw [List.length_drop]; omega, by omega, fun h => ?_, fun x hx => h4 x (List.mem_of_mem_drop hx), ?_⟩
  · have ha : a = none := by
      split at h
      · exact h
      · simpa using h
    have := h3 ha; omega
  · by_cases hlt : i < L.length
    · rcases h5 with h5 | ⟨b, o, rfl, hc⟩
      · rw [h5] at hlt; simp at hlt
      · rw [if_neg (by omega)]
        refine .inr ⟨b, o + i * e.size, by simp [Kit.add_plain], fun j hj => ?_⟩
        rw [List.length_drop] at hj
        have hm : i * e.size + j < L.length * e.size := by
          have : i * e.size + (L.length - i) * e.size = L.length * e.size := by rw [← Nat.add_mul]; congr 1; omega
          omega
        have := hc _ hm
        rw [Nat.add_assoc, this, flat_drop hi, List.getElem?_drop]
    · exact .inl (List.drop_of_length_le (by omega))
end Go.Proofs.YtonalkamfgpokaaGreat.Rg

namespace Go.Proofs.YtonalkamfgpokaaGreat.StormS
open Go.RowKit Kit Rw Rg Stm Md

set_option maxHeartbeats 1000000 in
theorem sStorms_any (w : World) (v : Value) (L : List Bool) (hv : SeesG encB w v L) :
    Calls Tryz.prog 140 #[v] w fun e w' => e = .returned (.int .i64 (storms L)) ∧ w = w' := by
  have hl := hv.len
  have HV := Lib.hid hv
  obtain ⟨a, cap, rfl, _⟩ := hv
  go_enter Tryz.func140, Tryz.ntmps140
  go_wp2
  go_loop [3, 4] (fun s i => ∃ j : Nat, j ≤ L.length ∧ i = .int .i64 j ∧ s = .int .i64 (storms (L.take j))) (fun _ i => L.length - (intOf i).toNat)
  case atStart => exact ⟨0, Nat.zero_le _, rfl, by simp [storms]⟩
  case round =>
    obtain ⟨j, hj, rfl, rfl⟩ := hrel
    obtain ⟨y, hy⟩ : ∃ y, y = storms (L.take j) := ⟨_, rfl⟩
    have hyj : y ≤ j := by rw [hy]; exact Nat.le_trans (storms_le _) (by simp; omega)
    rw [← hy]
    have HY := Lib.hid hy
    clear hy
    by_cases hlt : j < L.length
    · obtain ⟨x, hx⟩ : ∃ x, x = L.getD j false := ⟨_, rfl⟩
      obtain ⟨b, o, rfl, hb, hcj⟩ := HV.out.at_rowB hlt
      have HN := Lib.hid (storms_next hlt)
      rw [← hx] at hcj
      have HX := Lib.hid hx
      clear hx hb
      cases x
      · go_wp2
        go_round
        case rel => exact ⟨j + 1, by omega, by go_num, by rw [HN.out, ← HY.out, ← HX.out]; go_num⟩
        case measure => simp [intOf]; omega
      · go_wp2
        go_round
        case rel => exact ⟨j + 1, by omega, by go_num, by rw [HN.out, ← HY.out, ← HX.out]; go_num⟩
        case measure => simp [intOf]; omega
    · have : j = L.length := by omega
      subst this
      go_wp2
      go_ret
      exact ⟨ret_i64 (by rw [HY.out, List.take_length]), rfl⟩

theorem two {w : World} {b : Nat} {x y : Value} {T : TypeId} (h : Box w b #[x, y] T) : w.cell? ⟨b, 0, none⟩ = some x ∧ w.cell? ⟨b, 1, none⟩ = some y := ⟨h.cell 0, h.cell 1⟩
set_option maxHeartbeats 1000000 in
theorem sIsRule_any (w : World) (m n : Int) (hm : (Lit.int .i64 m).wf = true) (hn : (Lit.int .i64 n).wf = true) :
    Calls Tryz.prog 139 #[.agg #[.int .i64 m, .int .i64 n]] w fun e w' => e = .returned (.bool (isRule m n)) ∧ w.grownBy w' none := by
  have hgr := World.grownBy_alloc w (.cells #[.int .i64 m, .int .i64 n] 38 (0, 0)) none
  have HG := Lib.hid hgr
  obtain ⟨c0, c1⟩ := two (box_new w #[.int .i64 m, .int .i64 n] 38)
  clear hgr
  by_cases h : 1 ≤ n ∧ n ≤ 10
  · have HH := Lib.hid h
    have hd : decide (1 ≤ n ∧ n ≤ 10) = true := decide_eq_true h
    have hs := l1In_any n 1 10
    rw [hd] at hs
    have HS := Lib.hid hs
    have HI : Hid (isRule m n = decide (0 ≤ m ∧ m ≤ n - 1)) := by show _ = _; unfold isRule; rw [hd, Bool.true_and]
    clear hs hd
    have hw1 : IntKind.i64.wrap (n - 1) = n - 1 := IntWalk.i64_in _ (by omega)
    go_enter Tryz.func139, Tryz.ntmps139
    go_wp2_with fail
    refine (HS.out _).mono ?_
    rintro e w2 ⟨rfl, rfl⟩
    go_wp2_with fail
    refine (l1In_any _ _ _ _).mono ?_
    rintro e w2 ⟨rfl, rfl⟩
    go_wp2
    go_ret
    exact ⟨ret_bool (by rw [HI.out, Bool.decide_and]), HG.out⟩
  · have hd : decide (1 ≤ n ∧ n ≤ 10) = false := decide_eq_false h
    have hs := l1In_any n 1 10
    rw [hd] at hs
    have HS := Lib.hid hs
    have HI : Hid (isRule m n = false) := by show _ = _; unfold isRule; rw [hd, Bool.false_and]
    clear hs hd
    go_enter Tryz.func139, Tryz.ntmps139
    go_wp2_with fail
    refine (HS.out _).mono ?_
    rintro e w2 ⟨rfl, rfl⟩
    go_wp2
    go_ret
    exact ⟨ret_bool HI.out.symm, HG.out⟩

def mx (a b : Int) : Int := if a < b then b else a
theorem sMax_any (a b : Int) (w : World) :
    Calls Tryz.prog 141 #[.int .i64 a, .int .i64 b] w fun e w' => e = .returned (.int .i64 (mx a b)) ∧ w = w' := by
  by_cases h : a < b
  · have hm : mx a b = b := if_pos h
    rw [hm]
    go_enter Tryz.func141, Tryz.ntmps141
    go_wp2
    go_ret
    exact ⟨rfl, rfl⟩
  · have hm : mx a b = a := if_neg h
    rw [hm]
    go_enter Tryz.func141, Tryz.ntmps141
    go_wp2
    go_ret
    exact ⟨rfl, rfl⟩
theorem wrap_after {l n : Int} (h0 : 0 ≤ l) (h1 : l ≤ 9223372036854775807) (hn : 1 ≤ n ∧ n ≤ 10) : ∃ y, IntKind.i64.wrap (l + 1) = y ∧ IntKind.i64.wrap (y - n) = l + 1 - n := by
  by_cases h : l ≤ 9223372036854775806
  · exact ⟨l + 1, IntWalk.i64_in _ (by omega), IntWalk.i64_in _ (by omega)⟩
  · have : l = 9223372036854775807 := by omega
    subst this
    refine ⟨-9223372036854775808, by decide, ?_⟩
    obtain ⟨h2, h3⟩ := hn
    have : n = 1 ∨ n = 2 ∨ n = 3 ∨ n = 4 ∨ n = 5 ∨ n = 6 ∨ n = 7 ∨ n = 8 ∨ n = 9 ∨ n = 10 := by omega
    rcases this with rfl | rfl | rfl | rfl | rfl | rfl | rfl | rfl | rfl | rfl <;> decide
set_option maxHeartbeats 1000000 in
theorem sMayStorm_any (w : World) (m n : Int) (hm : (Lit.int .i64 m).wf = true) (hn : (Lit.int .i64 n).wf = true) (v : Value) (L : List Bool) (hv : SeesG encB w v L) :
    Calls Tryz.prog 88 #[.agg #[.int .i64 m, .int .i64 n], v] w fun e w' => e = .returned (.bool (mayStorm m n L)) ∧ w.grownBy w' none := by
  have hl := hv.len
  have hgr := World.grownBy_alloc w (.cells #[.int .i64 m, .int .i64 n] 38 (0, 0)) none
  have HG := Lib.hid hgr
  have HV := Lib.hid (hv.grown hgr)
  have HB := Lib.hid (box_new w #[.int .i64 m, .int .i64 n] 38)
  obtain ⟨c0, c1⟩ := two HB.out
  clear hgr
  have hs := fun w => sIsRule_any w m n hm hn
  obtain ⟨a, cap, rfl, hlc, hcm, _⟩ := hv
  by_cases h : isRule m n = true
  · rw [h] at hs
    have HS := Lib.hid hs
    have HI := Lib.hid h
    have hb : 1 ≤ n ∧ n ≤ 10 := by unfold isRule at h; simp at h; omega
    obtain ⟨y, hw1, hw2⟩ := wrap_after (l := L.length) (by omega) (by omega) hb
    obtain ⟨i, hi⟩ : ∃ i, i = L.length - (n - 1).toNat := ⟨_, rfl⟩
    have hmx : mx 0 ((L.length : Int) + 1 - n) = i := by unfold mx; split <;> omega
    have hM := fun w => sMax_any 0 ((L.length : Int) + 1 - n) w
    rw [hmx] at hM
    have HM := Lib.hid hM
    have hil : i ≤ L.length := by omega
    have HR : Hid (mayStorm m n L = decide ((storms (L.drop i) : Int) < m)) := by show _ = _; unfold mayStorm late; rw [h, Bool.true_and, ← hi]
    clear hs h hb hmx hM hi
    go_enter Tryz.func88, Tryz.ntmps88
    go_wp2_with fail
    generalize w.alloc (.cells #[.int .i64 m, .int .i64 n] 38 (0, 0)) = W1 at *
    have HK := Lib.hid (two HB.out)
    refine wp_region_held_drew (S := fun w' => w'.cell? ⟨w.heap.size, 0, none⟩ = some (.int .i64 m) ∧ w'.cell? ⟨w.heap.size, 1, none⟩ = some (.int .i64 n)) (by kernel_rfl) HK.out (fun hHeld => ?_)
    refine wpAnyH_take (i := 0) (v := ?_) rfl (by kernel_rfl) (by kernel_rfl) (by kernel_rfl) (fun _ _ _ h => h) (Or.inl ⟨by rfl, ?_⟩) (by assumption) ?_; rotate_left; (focus (intro wS hSw; (try dsimp only at hSw); go_simp <;> with_reducible rfl)); (try simp only [Act.put, List.getElem_toArray, List.getElem_cons_succ, List.getElem_cons_zero, List.setIfInBounds_toArray, List.set_cons_zero, List.set_cons_succ])
    refine wpAnyH_ready (rs := [1]) (by kernel_rfl) (by simp) ?_; refine AllReadyH.cons rfl (fun K hK => ?_) AllReadyH.nil; go_simp; (go_at_call 139; refine (HS.out _).mono ?_; rintro e w2 ⟨rfl, hg2⟩; have HQ2 := Lib.hid (grownN_trans (grown_drew (World.grownBy.refl W1 none)) hg2); have HK2 := Lib.hid (two (HB.out.grown HQ2.out)); clear hg2)
    refine hK.out _ _ ?_ (fun hHeld => ?_)
    · exact HK2.out
    clear hK K
    (try simp only [Act.put, List.getElem_toArray, List.getElem_cons_succ, List.getElem_cons_zero, List.setIfInBounds_toArray, List.set_cons_zero, List.set_cons_succ])
    refine wpAnyH_take (i := 2) (v := ?_) rfl (by kernel_rfl) (by kernel_rfl) (by kernel_rfl) (fun _ _ _ h => h) (Or.inl ⟨by rfl, ?_⟩) (by assumption) ?_; rotate_left; (focus (intro wS hSw; (try dsimp only at hSw); go_simp <;> with_reducible rfl)); (try simp only [Act.put, List.getElem_toArray, List.getElem_cons_succ, List.getElem_cons_zero, List.setIfInBounds_toArray, List.set_cons_zero, List.set_cons_succ])
    refine wpAnyH_take (i := 3) (v := ?_) rfl (by kernel_rfl) (by kernel_rfl) (by kernel_rfl) (fun _ _ _ h => h) (Or.inl ⟨by rfl, ?_⟩) (by assumption) ?_; rotate_left; (focus (intro wS hSw; (try dsimp only at hSw); go_simp <;> with_reducible rfl)); (try simp only [Act.put, List.getElem_toArray, List.getElem_cons_succ, List.getElem_cons_zero, List.setIfInBounds_toArray, List.set_cons_zero, List.set_cons_succ])
    refine wpAnyH_take (i := 4) (v := ?_) rfl (by kernel_rfl) (by kernel_rfl) (by kernel_rfl) (fun _ _ _ h => h) (Or.inl ⟨by rfl, ?_⟩) (by assumption) ?_; rotate_left; (focus (intro wS hSw; (try dsimp only at hSw); go_simp <;> with_reducible rfl)); (try simp only [Act.put, List.getElem_toArray, List.getElem_cons_succ, List.getElem_cons_zero, List.setIfInBounds_toArray, List.set_cons_zero, List.set_cons_succ])
    refine wpAnyH_take (i := 5) (v := ?_) rfl (by kernel_rfl) (by kernel_rfl) (by kernel_rfl) (fun _ _ _ h => h) (Or.inl ⟨by rfl, ?_⟩) (by assumption) ?_; rotate_left; (focus (intro wS hSw; (try dsimp only at hSw); go_simp <;> with_reducible rfl)); (try simp only [Act.put, List.getElem_toArray, List.getElem_cons_succ, List.getElem_cons_zero, List.setIfInBounds_toArray, List.set_cons_zero, List.set_cons_succ])
    refine wpAnyH_take (i := 6) (v := ?_) rfl (by kernel_rfl) (by kernel_rfl) (by kernel_rfl) (fun _ _ _ h => h) (Or.inl ⟨by rfl, ?_⟩) (by assumption) ?_; rotate_left; (focus (intro wS hSw; (try dsimp only at hSw); go_simp <;> with_reducible rfl)); (try simp only [Act.put, List.getElem_toArray, List.getElem_cons_succ, List.getElem_cons_zero, List.setIfInBounds_toArray, List.set_cons_zero, List.set_cons_succ])
    refine wpAnyH_take (i := 7) (v := ?_) rfl (by kernel_rfl) (by kernel_rfl) (by kernel_rfl) (fun _ _ _ h => h) (Or.inl ⟨by rfl, ?_⟩) (by assumption) ?_; rotate_left; (focus (intro wS hSw; (try dsimp only at hSw); go_simp <;> with_reducible rfl)); (try simp only [Act.put, List.getElem_toArray, List.getElem_cons_succ, List.getElem_cons_zero, List.setIfInBounds_toArray, List.set_cons_zero, List.set_cons_succ])
    refine wpAnyH_take (i := 8) (v := ?_) rfl (by kernel_rfl) (by kernel_rfl) (by kernel_rfl) (fun _ _ _ h => h) (Or.inl ⟨by rfl, ?_⟩) (by assumption) ?_; rotate_left; (focus (intro wS hSw; (try dsimp only at hSw); go_simp <;> with_reducible rfl)); (try simp only [Act.put, List.getElem_toArray, List.getElem_cons_succ, List.getElem_cons_zero, List.setIfInBounds_toArray, List.set_cons_zero, List.set_cons_succ])
    refine wpAnyH_take (i := 9) (v := ?_) rfl (by kernel_rfl) (by kernel_rfl) (by kernel_rfl) (fun _ _ _ h => h) (Or.inl ⟨by rfl, ?_⟩) (by assumption) ?_; rotate_left; (focus (intro wS hSw; (try dsimp only at hSw); go_simp <;> with_reducible rfl)); (try simp only [Act.put, List.getElem_toArray, List.getElem_cons_succ, List.getElem_cons_zero, List.setIfInBounds_toArray, List.set_cons_zero, List.set_cons_succ])
    refine wpAnyH_take (i := 13) (v := ?_) rfl (by kernel_rfl) (by kernel_rfl) (by kernel_rfl) (fun _ _ _ h => h) (Or.inl ⟨by rfl, ?_⟩) (by assumption) ?_; rotate_left; (focus (intro wS hSw; (try dsimp only at hSw); go_simp <;> with_reducible rfl)); (try simp only [Act.put, List.getElem_toArray, List.getElem_cons_succ, List.getElem_cons_zero, List.setIfInBounds_toArray, List.set_cons_zero, List.set_cons_succ])
    refine wpAnyH_take (i := 14) (v := ?_) rfl (by kernel_rfl) (by kernel_rfl) (by kernel_rfl) (fun _ _ _ h => h) (Or.inl ⟨by rfl, ?_⟩) (by assumption) ?_; rotate_left; (focus (intro wS hSw; (try dsimp only at hSw); go_simp <;> with_reducible rfl)); (try simp only [Act.put, List.getElem_toArray, List.getElem_cons_succ, List.getElem_cons_zero, List.setIfInBounds_toArray, List.set_cons_zero, List.set_cons_succ])
    refine wpAnyH_ready (rs := [10]) (by kernel_rfl) (by simp) ?_; refine AllReadyH.cons rfl (fun K hK => ?_) AllReadyH.nil; go_simp; (go_at_call 141; refine (HM.out _).mono ?_; rintro e w3 ⟨rfl, rfl⟩)
    refine hK.out _ _ ?_ (fun hHeld => ?_)
    · exact HK2.out
    clear hK K
    (try simp only [Act.put, List.getElem_toArray, List.getElem_cons_succ, List.getElem_cons_zero, List.setIfInBounds_toArray, List.set_cons_zero, List.set_cons_succ])
    refine wpAnyH_take (i := 11) (v := ?_) rfl (by kernel_rfl) (by kernel_rfl) (by kernel_rfl) (fun _ _ _ h => h) (Or.inl ⟨by rfl, ?_⟩) (by assumption) ?_; rotate_left; (focus (intro wS hSw; (try dsimp only at hSw); go_simp <;> with_reducible rfl)); (try simp only [Act.put, List.getElem_toArray, List.getElem_cons_succ, List.getElem_cons_zero, List.setIfInBounds_toArray, List.set_cons_zero, List.set_cons_succ])
    refine wpAnyH_ready (rs := [12]) (by kernel_rfl) (by simp) ?_; refine AllReadyH.cons rfl (fun K hK => ?_) AllReadyH.nil; go_simp; (go_at_call 140; refine (sStorms_any _ _ _ (seesG_from (HV.out.grown HQ2.out) hil (by simp [encB]))).mono ?_; rintro e w4 ⟨rfl, rfl⟩)
    refine hK.out _ _ ?_ (fun hHeld => ?_)
    · exact HK2.out
    clear hK K
    (try simp only [Act.put, List.getElem_toArray, List.getElem_cons_succ, List.getElem_cons_zero, List.setIfInBounds_toArray, List.set_cons_zero, List.set_cons_succ])
    refine wpAnyH_take (i := 15) (v := ?_) rfl (by kernel_rfl) (by kernel_rfl) (by kernel_rfl) (fun _ _ _ h => h) (Or.inl ⟨by rfl, ?_⟩) (by assumption) ?_; rotate_left; (focus (intro wS hSw; (try dsimp only at hSw); go_simp <;> with_reducible rfl)); (try simp only [Act.put, List.getElem_toArray, List.getElem_cons_succ, List.getElem_cons_zero, List.setIfInBounds_toArray, List.set_cons_zero, List.set_cons_succ])
    refine wpAnyH_take (i := 16) (v := ?_) rfl (by kernel_rfl) (by kernel_rfl) (by kernel_rfl) (fun _ _ _ h => h) (Or.inl ⟨by rfl, ?_⟩) (by assumption) ?_; rotate_left; (focus (intro wS hSw; (try dsimp only at hSw); go_simp <;> with_reducible rfl)); (try simp only [Act.put, List.getElem_toArray, List.getElem_cons_succ, List.getElem_cons_zero, List.setIfInBounds_toArray, List.set_cons_zero, List.set_cons_succ])
    refine wpAnyH_take (i := 17) (v := ?_) rfl (by kernel_rfl) (by kernel_rfl) (by kernel_rfl) (fun _ _ _ h => h) (Or.inl ⟨by rfl, ?_⟩) (by assumption) ?_; rotate_left; (focus (intro wS hSw; (try dsimp only at hSw); go_simp <;> with_reducible rfl)); (try simp only [Act.put, List.getElem_toArray, List.getElem_cons_succ, List.getElem_cons_zero, List.setIfInBounds_toArray, List.set_cons_zero, List.set_cons_succ])
    refine wpAnyH_done (by kernel_rfl) ?_ _
    (try simp only [Act.put, List.getElem_toArray, List.getElem_cons_succ, List.getElem_cons_zero, List.setIfInBounds_toArray, List.set_cons_zero, List.set_cons_succ])
    go_wp2
    all_goals
      go_ret
      exact ⟨ret_bool HR.out.symm, grownN_trans HG.out HQ2.out⟩
  · have h2 : isRule m n = false := by simpa using h
    rw [h2] at hs
    have HS := Lib.hid hs
    have HF : Hid (mayStorm m n L = false) := by show _ = _; unfold mayStorm; rw [h2, Bool.false_and]
    clear hs h h2
    go_enter Tryz.func88, Tryz.ntmps88
    go_wp2_with fail
    generalize w.alloc (.cells #[.int .i64 m, .int .i64 n] 38 (0, 0)) = W1 at *
    have HK := Lib.hid (two HB.out)
    refine wp_region_held_drew (S := fun w' => w'.cell? ⟨w.heap.size, 0, none⟩ = some (.int .i64 m) ∧ w'.cell? ⟨w.heap.size, 1, none⟩ = some (.int .i64 n)) (by kernel_rfl) HK.out (fun hHeld => ?_)
    refine wpAnyH_take (i := 0) (v := ?_) rfl (by kernel_rfl) (by kernel_rfl) (by kernel_rfl) (fun _ _ _ h => h) (Or.inl ⟨by rfl, ?_⟩) (by assumption) ?_; rotate_left; (focus (intro wS hSw; (try dsimp only at hSw); go_simp <;> with_reducible rfl)); (try simp only [Act.put, List.getElem_toArray, List.getElem_cons_succ, List.getElem_cons_zero, List.setIfInBounds_toArray, List.set_cons_zero, List.set_cons_succ])
    refine wpAnyH_ready (rs := [1]) (by kernel_rfl) (by simp) ?_; refine AllReadyH.cons rfl (fun K hK => ?_) AllReadyH.nil; go_simp; (go_at_call 139; refine (HS.out _).mono ?_; rintro e w2 ⟨rfl, hg2⟩; have HQ2 := Lib.hid (grownN_trans (grown_drew (World.grownBy.refl W1 none)) hg2); have HK2 := Lib.hid (two (HB.out.grown HQ2.out)); clear hg2)
    refine hK.out _ _ ?_ (fun hHeld => ?_)
    · exact HK2.out
    clear hK K
    (try simp only [Act.put, List.getElem_toArray, List.getElem_cons_succ, List.getElem_cons_zero, List.setIfInBounds_toArray, List.set_cons_zero, List.set_cons_succ])
    refine wpAnyH_take (i := 2) (v := ?_) rfl (by kernel_rfl) (by kernel_rfl) (by kernel_rfl) (fun _ _ _ h => h) (Or.inl ⟨by rfl, ?_⟩) (by assumption) ?_; rotate_left; (focus (intro wS hSw; (try dsimp only at hSw); go_simp <;> with_reducible rfl)); (try simp only [Act.put, List.getElem_toArray, List.getElem_cons_succ, List.getElem_cons_zero, List.setIfInBounds_toArray, List.set_cons_zero, List.set_cons_succ])
    refine wpAnyH_take (i := 3) (v := undef) rfl (by kernel_rfl) (by kernel_rfl) (by kernel_rfl) (fun _ _ _ h => h) (Or.inr ⟨by rfl, rfl⟩) (by assumption) ?_; (try simp only [Act.put, List.getElem_toArray, List.getElem_cons_succ, List.getElem_cons_zero, List.setIfInBounds_toArray, List.set_cons_zero, List.set_cons_succ])
    refine wpAnyH_take (i := 4) (v := undef) rfl (by kernel_rfl) (by kernel_rfl) (by kernel_rfl) (fun _ _ _ h => h) (Or.inr ⟨by rfl, rfl⟩) (by assumption) ?_; (try simp only [Act.put, List.getElem_toArray, List.getElem_cons_succ, List.getElem_cons_zero, List.setIfInBounds_toArray, List.set_cons_zero, List.set_cons_succ])
    refine wpAnyH_take (i := 5) (v := undef) rfl (by kernel_rfl) (by kernel_rfl) (by kernel_rfl) (fun _ _ _ h => h) (Or.inr ⟨by rfl, rfl⟩) (by assumption) ?_; (try simp only [Act.put, List.getElem_toArray, List.getElem_cons_succ, List.getElem_cons_zero, List.setIfInBounds_toArray, List.set_cons_zero, List.set_cons_succ])
    refine wpAnyH_take (i := 6) (v := undef) rfl (by kernel_rfl) (by kernel_rfl) (by kernel_rfl) (fun _ _ _ h => h) (Or.inr ⟨by rfl, rfl⟩) (by assumption) ?_; (try simp only [Act.put, List.getElem_toArray, List.getElem_cons_succ, List.getElem_cons_zero, List.setIfInBounds_toArray, List.set_cons_zero, List.set_cons_succ])
    refine wpAnyH_take (i := 7) (v := undef) rfl (by kernel_rfl) (by kernel_rfl) (by kernel_rfl) (fun _ _ _ h => h) (Or.inr ⟨by rfl, rfl⟩) (by assumption) ?_; (try simp only [Act.put, List.getElem_toArray, List.getElem_cons_succ, List.getElem_cons_zero, List.setIfInBounds_toArray, List.set_cons_zero, List.set_cons_succ])
    refine wpAnyH_take (i := 8) (v := undef) rfl (by kernel_rfl) (by kernel_rfl) (by kernel_rfl) (fun _ _ _ h => h) (Or.inr ⟨by rfl, rfl⟩) (by assumption) ?_; (try simp only [Act.put, List.getElem_toArray, List.getElem_cons_succ, List.getElem_cons_zero, List.setIfInBounds_toArray, List.set_cons_zero, List.set_cons_succ])
    refine wpAnyH_take (i := 9) (v := undef) rfl (by kernel_rfl) (by kernel_rfl) (by kernel_rfl) (fun _ _ _ h => h) (Or.inr ⟨by rfl, rfl⟩) (by assumption) ?_; (try simp only [Act.put, List.getElem_toArray, List.getElem_cons_succ, List.getElem_cons_zero, List.setIfInBounds_toArray, List.set_cons_zero, List.set_cons_succ])
    refine wpAnyH_take (i := 10) (v := undef) rfl (by kernel_rfl) (by kernel_rfl) (by kernel_rfl) (fun _ _ _ h => h) (Or.inr ⟨by rfl, rfl⟩) (by assumption) ?_; (try simp only [Act.put, List.getElem_toArray, List.getElem_cons_succ, List.getElem_cons_zero, List.setIfInBounds_toArray, List.set_cons_zero, List.set_cons_succ])
    refine wpAnyH_take (i := 11) (v := undef) rfl (by kernel_rfl) (by kernel_rfl) (by kernel_rfl) (fun _ _ _ h => h) (Or.inr ⟨by rfl, rfl⟩) (by assumption) ?_; (try simp only [Act.put, List.getElem_toArray, List.getElem_cons_succ, List.getElem_cons_zero, List.setIfInBounds_toArray, List.set_cons_zero, List.set_cons_succ])
    refine wpAnyH_take (i := 12) (v := undef) rfl (by kernel_rfl) (by kernel_rfl) (by kernel_rfl) (fun _ _ _ h => h) (Or.inr ⟨by rfl, rfl⟩) (by assumption) ?_; (try simp only [Act.put, List.getElem_toArray, List.getElem_cons_succ, List.getElem_cons_zero, List.setIfInBounds_toArray, List.set_cons_zero, List.set_cons_succ])
    refine wpAnyH_take (i := 13) (v := undef) rfl (by kernel_rfl) (by kernel_rfl) (by kernel_rfl) (fun _ _ _ h => h) (Or.inr ⟨by rfl, rfl⟩) (by assumption) ?_; (try simp only [Act.put, List.getElem_toArray, List.getElem_cons_succ, List.getElem_cons_zero, List.setIfInBounds_toArray, List.set_cons_zero, List.set_cons_succ])
    refine wpAnyH_take (i := 14) (v := undef) rfl (by kernel_rfl) (by kernel_rfl) (by kernel_rfl) (fun _ _ _ h => h) (Or.inr ⟨by rfl, rfl⟩) (by assumption) ?_; (try simp only [Act.put, List.getElem_toArray, List.getElem_cons_succ, List.getElem_cons_zero, List.setIfInBounds_toArray, List.set_cons_zero, List.set_cons_succ])
    refine wpAnyH_take (i := 15) (v := undef) rfl (by kernel_rfl) (by kernel_rfl) (by kernel_rfl) (fun _ _ _ h => h) (Or.inr ⟨by rfl, rfl⟩) (by assumption) ?_; (try simp only [Act.put, List.getElem_toArray, List.getElem_cons_succ, List.getElem_cons_zero, List.setIfInBounds_toArray, List.set_cons_zero, List.set_cons_succ])
    refine wpAnyH_take (i := 16) (v := ?_) rfl (by kernel_rfl) (by kernel_rfl) (by kernel_rfl) (fun _ _ _ h => h) (Or.inl ⟨by rfl, ?_⟩) (by assumption) ?_; rotate_left; (focus (intro wS hSw; (try dsimp only at hSw); go_simp <;> with_reducible rfl)); (try simp only [Act.put, List.getElem_toArray, List.getElem_cons_succ, List.getElem_cons_zero, List.setIfInBounds_toArray, List.set_cons_zero, List.set_cons_succ])
    refine wpAnyH_take (i := 17) (v := ?_) rfl (by kernel_rfl) (by kernel_rfl) (by kernel_rfl) (fun _ _ _ h => h) (Or.inl ⟨by rfl, ?_⟩) (by assumption) ?_; rotate_left; (focus (intro wS hSw; (try dsimp only at hSw); go_simp <;> with_reducible rfl)); (try simp only [Act.put, List.getElem_toArray, List.getElem_cons_succ, List.getElem_cons_zero, List.setIfInBounds_toArray, List.set_cons_zero, List.set_cons_succ])
    refine wpAnyH_done (by kernel_rfl) ?_ _
    (try simp only [Act.put, List.getElem_toArray, List.getElem_cons_succ, List.getElem_cons_zero, List.setIfInBounds_toArray, List.set_cons_zero, List.set_cons_succ])
    go_wp2
    go_ret
    exact ⟨ret_bool HF.out.symm, grownN_trans HG.out HQ2.out⟩
end Go.Proofs.YtonalkamfgpokaaGreat.StormS
