/- Contracts of the model's functions on watches. -/
import Derived.Test.YtfdadeiemfmgkaaWatF
import Derived.Test.YtfdadeiemfmgkaaCrS
import Derived.Test.YtfdadeiemfmgkaaCrH
namespace Go.Proofs.Ytfdadeiemfmgkaa.WatS
open Go.RowKit Kit Rw Rg Crw CrS Wat

set_option maxRecDepth 20000 in
set_option maxHeartbeats 1000000 in
theorem sAt_any (w : World) (v : Value) (L : List Mem) (t : Int) (ht : -9223372036854775808 ≤ t ∧ t ≤ 9223372036854775807) (hv : SeesG encM w v L) (hn : L.length ≤ 1000000000) :
    Calls Try.prog 21 #[v, .int .i64 t] w fun e w' => e = .returned (.int .i64 (at_ (ring L) t)) ∧ w.grownBy w' none := by
  have HV := Lib.hid hv
  have HH := Lib.hid (CrH.sHealthy_any w v L hv hn)
  have HL := Lib.hid (healthy_len L)
  go_enter Try.func21, Try.ntmps21
  go_wp2_with fail
  refine HH.out.mono ?_
  rintro e w2 ⟨u, rfl, ho, hg⟩
  have HG := Lib.hid hg
  have HO := Lib.hid ho.sees
  have hvg := hv.grown hg
  clear ho hg hv
  have HA := Lib.hid (sAreCrew_any w2 v L hvg)
  clear hvg
  obtain ⟨a, n, cap, rfl, HN⟩ := HO.out.shape
  go_wp2_with fail
  refine HA.out.mono ?_
  rintro e w3 ⟨rfl, hg⟩
  have HG3 := Lib.hid (grownN_trans HG.out hg)
  have HO3 := Lib.hid (HO.out.grown hg)
  clear hg HO
  cases hc : areCrew L
  · have HR : Hid (at_ (ring L) t = 0) := by show _ = _; unfold ring; rw [hc]; rfl
    clear hc
    go_wp2
    go_ret
    exact ⟨ret_i64 HR.out.symm, HG3.out⟩
  · have HE : Hid (ring L = healthy L) := by show _ = _; unfold ring; rw [if_pos hc]
    clear hc
    by_cases h0 : n = 0
    · subst h0
      have HR : Hid (at_ (ring L) t = 0) := by show _ = _; rw [HE.out]; unfold at_; rw [if_pos (.inl HN.out)]
      go_wp2
      go_ret
      exact ⟨ret_i64 HR.out.symm, HG3.out⟩
    · by_cases h1 : t < 0
      · have HR : Hid (at_ (ring L) t = 0) := by show _ = _; unfold at_; rw [if_pos (.inr h1)]
        have hb : ((n : Int) == 0) = false := by simp; omega
        go_wp2
        go_ret
        exact ⟨ret_i64 HR.out.symm, HG3.out⟩
      · obtain ⟨q, rfl⟩ : ∃ q : Nat, t = q := ⟨t.toNat, by omega⟩
        obtain ⟨r, hr⟩ : ∃ r, r = q % n := ⟨_, rfl⟩
        have hrn : r < n := by rw [hr]; exact Nat.mod_lt _ (by omega)
        have hm : Int.tmod (q : Int) (n : Int) = (r : Int) := by rw [hr]; rfl
        have hb : ((n : Int) == 0) = false := by simp; omega
        have HR : Hid (at_ (ring L) q = (healthy L).getD r 0) := by
          show _ = _
          rw [HE.out]; unfold at_; rw [if_neg (by rw [HN.out]; omega), HN.out, hr]; rfl
        obtain ⟨b, o, rfl, hcj⟩ := HO3.out.at_row (j := r) (by rw [HN.out]; exact hrn)
        clear hr
        go_wp2
        go_ret
        exact ⟨ret_i64 HR.out.symm, HG3.out⟩

set_option maxRecDepth 20000 in
set_option maxHeartbeats 1000000 in
theorem sHours_any (w : World) (v : Value) (L : List Mem) (id frm k : Int) (hid : (Lit.int .i64 id).wf = true) (hf : -9223372036854775808 ≤ frm ∧ frm ≤ 9223372036854775807) (hk : -9223372036854775808 ≤ k ∧ k ≤ 9223372036854775807) (hv : SeesG encM w v L) (hn : L.length ≤ 1000000000) :
    Calls Try.prog 25 #[v, .int .i64 id, .int .i64 frm, .int .i64 k] w fun e w' => e = .returned (.int .i64 (hours (ring L) id frm k)) ∧ w.grownBy w' none := by
  have HV := Lib.hid hv
  by_cases hq : 0 < k ∧ k ≤ 1000 ∧ (0 ≤ frm ∧ frm ≤ 100000) ∧ id ≠ 0
  · obtain ⟨m, rfl⟩ : ∃ m : Nat, k = m := ⟨k.toNat, by omega⟩
    obtain ⟨hq1, hq2, hq3, hq4⟩ := hq
    have hb : inb frm 0 100000 = true := decide_eq_true hq3
    have HR : Hid (hours (ring L) id frm m = cnt (ring L) id frm m) := by show _ = _; unfold hours; rw [if_pos ⟨hq2, hq3, hq4⟩]; rfl
    have HS := Lib.hid (fun (w' : World) (hg : w.grownBy w' none) (t : Int) ht => sAt_any w' v L t ht (hv.grown hg) hn)
    clear hv
    have hne : (id == 0) = false := by simpa using hq4
    go_enter Try.func25, Try.ntmps25
    go_wp2
    go_loopw [9, 10] (fun c i wr => ∃ j : Nat, j ≤ m ∧ i = .int .i64 j ∧ c = .int .i64 (cnt (ring L) id frm j) ∧ Hid (w.grownBy wr none)) (fun _ i _ => m - (intOf i).toNat)
    case atStart => exact ⟨0, Nat.zero_le _, rfl, rfl, World.grownBy.refl _ _⟩
    case round =>
      rename_i _ _ wr
      obtain ⟨j, hj, rfl, rfl, HG⟩ := hrel
      have hcb := cnt_bound (ring L) id frm j
      obtain ⟨c, hc⟩ : ∃ c, c = cnt (ring L) id frm j := ⟨_, rfl⟩
      rw [← hc] at hcb ⊢
      have HC := Lib.hid hc
      clear hc
      by_cases hlt : j < m
      · have HA := Lib.hid (HS.out wr HG.out (frm + j) (by omega))
        cases hd : decide (at_ (ring L) (frm + j) = id)
        · have HX : Hid (cnt (ring L) id frm (j + 1) = c) := by show _ = _; simp only [cnt]; rw [if_neg (of_decide_eq_false hd), ← HC.out]; omega
          have hne2 : (at_ (ring L) (frm + j) == id) = false := by simpa using of_decide_eq_false hd
          clear hd
          go_wp2_with (first | (go_at_call 61; refine (l1In_b _ _ _ _).mono ?_; rintro e w6 ⟨rfl, rfl⟩; try rw [hb]) | (go_at_call 21; refine HA.out.mono ?_; rintro e w7 ⟨rfl, hg⟩; have HG7 := Lib.hid (grownN_trans HG.out hg); clear hg))
          go_roundw
          case rel => exact ⟨j + 1, by omega, by go_num, by rw [HX.out], HG7⟩
          case measure => simp [intOf]; omega
        · have HX : Hid (cnt (ring L) id frm (j + 1) = c + 1) := by show _ = _; simp only [cnt]; rw [if_pos (of_decide_eq_true hd), ← HC.out]
          have he := of_decide_eq_true hd
          rw [he] at HA
          clear hd he
          go_wp2_with (first | (go_at_call 61; refine (l1In_b _ _ _ _).mono ?_; rintro e w6 ⟨rfl, rfl⟩; try rw [hb]) | (go_at_call 21; refine HA.out.mono ?_; rintro e w7 ⟨rfl, hg⟩; have HG7 := Lib.hid (grownN_trans HG.out hg); clear hg))
          go_roundw
          case rel => exact ⟨j + 1, by omega, by go_num, by rw [HX.out], HG7⟩
          case measure => simp [intOf]; omega
      · have : j = m := by omega
        subst this
        go_wp2
        go_ret
        exact ⟨ret_i64 (by rw [HR.out, HC.out]), HG.out⟩
  · have HR : Hid (hours (ring L) id frm k = 0) := by
      show _ = _
      unfold hours
      split
      · rename_i h
        rw [show k.toNat = 0 by omega]; rfl
      · rfl
    have HQ := Lib.hid hq
    by_cases h1 : 0 < k
    · by_cases h2 : k ≤ 1000
      · by_cases h3 : 0 ≤ frm ∧ frm ≤ 100000
        · have hb : inb frm 0 100000 = true := decide_eq_true h3
          obtain rfl : id = 0 := by omega
          clear hq h3
          go_enter Try.func25, Try.ntmps25
          go_wp2
          refine wp_loop_rounds 1 ?_
          rw [rounds_succ]
          go_wp2_with (go_at_call 61; refine (l1In_b _ _ _ _).mono ?_; rintro e w6 ⟨rfl, rfl⟩; try rw [hb])
          go_ret
          exact ⟨ret_i64 HR.out.symm, World.grownBy.refl _ _⟩
        · have hb : inb frm 0 100000 = false := decide_eq_false h3
          clear hq h3
          go_enter Try.func25, Try.ntmps25
          go_wp2
          refine wp_loop_rounds 1 ?_
          rw [rounds_succ]
          go_wp2_with (go_at_call 61; refine (l1In_b _ _ _ _).mono ?_; rintro e w6 ⟨rfl, rfl⟩; try rw [hb])
          go_ret
          exact ⟨ret_i64 HR.out.symm, World.grownBy.refl _ _⟩
      · clear hq
        go_enter Try.func25, Try.ntmps25
        go_wp2
        refine wp_loop_rounds 1 ?_
        rw [rounds_succ]
        go_wp2
        go_ret
        exact ⟨ret_i64 HR.out.symm, World.grownBy.refl _ _⟩
    · clear hq
      go_enter Try.func25, Try.ntmps25
      go_wp2
      refine wp_loop_rounds 1 ?_
      rw [rounds_succ]
      go_wp2
      go_ret
      exact ⟨ret_i64 HR.out.symm, World.grownBy.refl _ _⟩
end Go.Proofs.Ytfdadeiemfmgkaa.WatS
