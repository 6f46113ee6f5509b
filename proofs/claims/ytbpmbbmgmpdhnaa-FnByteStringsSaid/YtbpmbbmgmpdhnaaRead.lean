/- Contracts of ReadUvarint of the program and of its model. -/
import Derived.Test.YtbpmbbmgmpdhnaaPut
import Derived.Test.YtbpmbbmgmpdhnaaMinR
namespace Go.Proofs.Ytbpmbbmgmpdhnaa.Rdv
open Go.RowKit Kit Rw Var LawsB Put Mn

def tup (r : Int × Int × Bool) : Value := .tuple #[.int .i64 r.1, .int .i64 r.2.1, .bool r.2.2]

set_option maxRecDepth 20000 in
set_option maxHeartbeats 1000000 in
theorem read_any (w : World) (v : Value) (L : List Int) (n : Int) (hv : Sees .u8 w v L) (hn : (Lit.int .i64 n).wf = true) :
    Calls Try.prog 19 #[v, .int .i64 n] w fun e w' => e = .returned (tup (rd L n)) ∧ w.grownBy w' none := by
  have HW := Lib.hid hv.wf
  have hL := hv.len
  have hn64 := i64_of hn
  clear hn
  obtain ⟨a, cap, rfl, hlc, hcm, hnil, hwf, hcell⟩ := hv
  have HC := Lib.hid hcell
  clear hwf hcell
  by_cases hin : 0 ≤ n ∧ n ≤ (L.length : Int)
  · obtain ⟨m, rfl⟩ : ∃ c : Nat, n = c := ⟨n.toNat, by omega⟩
    have hdec : decide (0 ≤ (m : Int) ∧ (m : Int) ≤ (L.length : Int)) = true := by simpa using hin
    have hm : m ≤ L.length := by omega
    by_cases hlt : m < L.length
    · rcases HC.out with hX | ⟨b, o, rfl, hc⟩
      · simp [hX] at hlt
      have HCC := Lib.hid hc
      clear hc hnil HC
      go_enter Try.func19, Try.ntmps19
      go_wp2_with (first | (go_at_call 66; refine (inRange_any _ _ _ _).mono ?_; rintro e w' ⟨rfl, rfl⟩) | (go_at_call 67; refine (min_any _ _ _).mono ?_; rintro e w1 ⟨rfl, hg⟩; have HG := Lib.hid hg; clear hg))
      obtain ⟨N, hN⟩ : ∃ N : Nat, least (((L.length - m : Nat)) : Int) 6 = (N : Int) ∧ N ≤ 6 ∧ N ≤ L.length - m ∧ (N = 6 ∨ N = L.length - m) := by
        by_cases h : (6 : Int) < ((L.length - m : Nat) : Int)
        · exact ⟨6, by rw [least_lt h]; rfl, by omega, by omega, .inl rfl⟩
        · exact ⟨L.length - m, by rw [least_ge (by omega)], by omega, by omega, .inr rfl⟩
      rw [hN.1]
      have hN1 := hN.2.1
      have hN2 := hN.2.2.1
      have HN3 := Lib.hid hN.2.2.2
      clear hN
      go_loopw [8, 9, 10, 11, 23] (fun q _ _ _ i wr => ∃ k : Nat, ∃ r : Int, k ≤ N ∧ i = .int .i64 k ∧ q = .int .i64 r ∧ Hid (0 ≤ r ∧ r < 128 ^ k) ∧ Hid (rdk (L.drop m) 0 0 = rdk (L.drop (m + k)) k r) ∧ Hid (w.grownBy wr none))
        (fun _ _ _ _ i _ => N - (intOf i).toNat)
      case atStart => exact ⟨0, 0, Nat.zero_le _, rfl, rfl, ⟨Int.le_refl _, by decide⟩, rfl, HG⟩
      case round =>
        obtain ⟨k, r, hk, rfl, rfl, HR, HK, HG1⟩ := hrel
        by_cases hkN : k < N
        · have hcj : wr.cell? ⟨b, o + (m + k), none⟩ = some (.int .u8 (L.getD (m + k) 0)) := HG1.out.cell (HCC.out (m + k) (by omega)) (by simp)
          rw [← Nat.add_assoc] at hcj
          obtain ⟨x, hx⟩ : ∃ x, x = L.getD (m + k) 0 := ⟨_, rfl⟩
          rw [← hx] at hcj
          have hx0 : 0 ≤ x ∧ x ≤ 255 := by rw [hx]; exact u8_of (HW.out _ (mem_getD (by omega)))
          have HX := Lib.hid hx
          clear hx
          have hand : bits .and .i64 x 127 = x % 128 := and_127 _ (by omega) (by omega)
          obtain ⟨hor, hq0, hq1⟩ := or_group r (x % 128) k (by omega) HR.out (by omega)
          obtain ⟨q, hq⟩ : ∃ q, q = r + x % 128 * 128 ^ k := ⟨_, rfl⟩
          rw [← hq] at hor hq0 hq1
          have HQ := Lib.hid hq
          have HQ1 := Lib.hid hq1
          clear hq hq1
          by_cases hx1 : x < 128
          · have HL := Lib.hid (rdk_last (L := L) (m := m) (k := k) (r := r) (x := x) (by omega) (by omega) HX.out hx0.1 hx1)
            by_cases hmax : q > 1000000000000
            · by_cases hz : 0 < x
              · skip
                have HE : Hid (rd L m = (0, 0, false)) := rd_none hm (by rw [HK.out, HL.out, ← HQ.out, if_pos (by exact .inr hmax)])
                go_wp2
                go_ret3
                exact ⟨by rw [HE.out]; rfl, HG1.out⟩
              · by_cases hk0 : ((k : Int) == 0) = true
                · skip
                  have HE : Hid (rd L m = (0, 0, false)) := rd_none hm (by rw [HK.out, HL.out, ← HQ.out, if_pos (by exact .inr hmax)])
                  go_wp2
                  go_ret3
                  exact ⟨by rw [HE.out]; rfl, HG1.out⟩
                · replace hk0 : ((k : Int) == 0) = false := by simpa using hk0
                  have HE : Hid (rd L m = (0, 0, false)) := rd_none hm (by rw [HK.out, HL.out, ← HQ.out, if_pos (by exact .inr hmax)])
                  go_wp2
                  go_ret3
                  exact ⟨by rw [HE.out]; rfl, HG1.out⟩
            · by_cases hz : 0 < x
              · skip
                have HE : Hid (rd L m = (q, (m : Int) + ((k + 1 : Nat) : Int), true)) := rd_some hm (by rw [HK.out, HL.out, ← HQ.out, if_neg (by omega)])
                go_wp2
                go_ret3
                exact ⟨by rw [HE.out]; unfold tup; go_num, HG1.out⟩
              · by_cases hk0 : ((k : Int) == 0) = true
                · have hk1 : k = 0 := by simpa using hk0
                  have HE : Hid (rd L m = (q, (m : Int) + ((k + 1 : Nat) : Int), true)) := rd_some hm (by rw [HK.out, HL.out, ← HQ.out, if_neg (by omega)])
                  clear hk1
                  go_wp2
                  go_ret3
                  exact ⟨by rw [HE.out]; unfold tup; go_num, HG1.out⟩
                · replace hk0 : ((k : Int) == 0) = false := by simpa using hk0
                  have hk1 : k ≠ 0 := by simpa using hk0
                  have HE : Hid (rd L m = (0, 0, false)) := rd_none hm (by rw [HK.out, HL.out, ← HQ.out, if_pos (by omega)])
                  clear hk1
                  go_wp2
                  go_ret3
                  exact ⟨by rw [HE.out]; rfl, HG1.out⟩
          · have HL := Lib.hid (rdk_more (L := L) (m := m) (k := k) (r := r) (x := x) (by omega) (by omega) HX.out (by omega) hx0.2)
            go_wp2
            go_roundw
            case rel => exact ⟨k + 1, q, by omega, by go_num, rfl, ⟨hq0, HQ1.out⟩, by show _ = _; rw [HK.out, HL.out, ← HQ.out], HG1⟩
            case measure => simp [intOf]; omega
        · have hkk : k = N := by omega
          subst hkk
          have HE : Hid (rd L m = (0, 0, false)) := rd_none hm (by rw [HK.out]; exact rdk_out (by have := HN3.out; omega))
          go_wp2
          go_ret3
          exact ⟨by rw [HE.out]; rfl, HG1.out⟩
    · have hml : m = L.length := by omega
      subst hml
      have HE : Hid (rd L (L.length : Nat) = (0, 0, false)) := rd_none (Nat.le_refl _) (by rw [show L.drop L.length = [] from List.drop_length]; rfl)
      have hl0 : least 0 6 = 0 := rfl
      clear HC
      cases a with
      | none =>
        have hc0 := hnil rfl
        subst hc0
        have hL0 : L.length = 0 := by omega
        have HL0 := Lib.hid hL0
        clear hnil
        go_enter Try.func19, Try.ntmps19
        go_wp2_with (first | (go_at_call 66; refine (inRange_any _ _ _ _).mono ?_; rintro e w' ⟨rfl, rfl⟩) | (go_at_call 67; refine (min_any _ _ _).mono ?_; rintro e w1 ⟨rfl, hg⟩; have HG := Lib.hid hg; clear hg))
        refine wp_loop_rounds 1 ?_
        rw [rounds_succ]
        go_wp2
        go_ret3
        exact ⟨by rw [HE.out]; rfl, HG.out⟩
      | some ad =>
        clear hnil
        go_enter Try.func19, Try.ntmps19
        go_wp2_with (first | (go_at_call 66; refine (inRange_any _ _ _ _).mono ?_; rintro e w' ⟨rfl, rfl⟩) | (go_at_call 67; refine (min_any _ _ _).mono ?_; rintro e w1 ⟨rfl, hg⟩; have HG := Lib.hid hg; clear hg))
        all_goals
          refine wp_loop_rounds 1 ?_
          rw [rounds_succ]
          go_wp2
          go_ret3
          exact ⟨by rw [HE.out]; rfl, HG.out⟩
  · have hdec : decide (0 ≤ n ∧ n ≤ (L.length : Int)) = false := by simpa using hin
    have HE := Lib.hid (rd_out hin)
    clear hin HC hnil
    go_enter Try.func19, Try.ntmps19
    go_wp2_with (first | (go_at_call 66; refine (inRange_any _ _ _ _).mono ?_; rintro e w' ⟨rfl, rfl⟩))
    go_ret3
    exact ⟨by rw [HE.out]; rfl, World.grownBy.refl _ _⟩

set_option maxRecDepth 20000 in
set_option maxHeartbeats 1000000 in
theorem sRead_any (w : World) (v : Value) (L : List Int) (n : Int) (hv : Sees .u8 w v L) (hL : L.length ≤ 1000000000000000000) (hn : (Lit.int .i64 n).wf = true) :
    Calls Try.prog 22 #[v, .int .i64 n] w fun e w' => e = .returned (tup (rd L n)) ∧ w.grownBy w' none := by
  have HW := Lib.hid hv.wf
  have hn64 := i64_of hn
  clear hn
  obtain ⟨a, cap, rfl, hlc, hcm, hnil, hwf, hcell⟩ := hv
  have HC := Lib.hid hcell
  clear hwf hcell hnil
  by_cases hin : 0 ≤ n ∧ n ≤ (L.length : Int)
  · obtain ⟨m, rfl⟩ : ∃ c : Nat, n = c := ⟨n.toNat, by omega⟩
    have hm : m ≤ L.length := by omega
    go_enter Try.func22, Try.ntmps22
    go_wp2
    go_loopw [7, 8, 9] (fun q i _ wr => ∃ k : Nat, ∃ r : Int, k ≤ 6 ∧ i = .int .i64 k ∧ q = .int .i64 r ∧ Hid (0 ≤ r ∧ r < 128 ^ k) ∧ Hid (rdk (L.drop m) 0 0 = rdk (L.drop (m + k)) k r) ∧ Hid (w.grownBy wr none))
      (fun _ i _ _ => 6 - (intOf i).toNat)
    case atStart => exact ⟨0, 0, Nat.zero_le _, rfl, rfl, ⟨Int.le_refl _, by decide⟩, rfl, World.grownBy.refl _ _⟩
    case round =>
      obtain ⟨k, r, hk, rfl, rfl, HR, HK, HG1⟩ := hrel
      by_cases hk6 : k < 6
      · by_cases hlt : m + k < L.length
        · rcases HC.out with hX | ⟨b, o, rfl, hc⟩
          · simp [hX] at hlt
          have hcj : wr.cell? ⟨b, o + (m + k), none⟩ = some (.int .u8 (L.getD (m + k) 0)) := HG1.out.cell (hc (m + k) (by omega)) (by simp)
          obtain ⟨x, hx⟩ : ∃ x, x = L.getD (m + k) 0 := ⟨_, rfl⟩
          rw [← hx] at hcj
          have hx0 : 0 ≤ x ∧ x ≤ 255 := by rw [hx]; exact u8_of (HW.out _ (mem_getD (by omega)))
          have HX := Lib.hid hx
          clear hx hc
          have hand : bits .and .i64 x 127 = x % 128 := and_127 _ (by omega) (by omega)
          obtain ⟨hor, hq0, hq1⟩ := or_group r (x % 128) k (by omega) HR.out (by omega)
          obtain ⟨q, hq⟩ : ∃ q, q = r + x % 128 * 128 ^ k := ⟨_, rfl⟩
          rw [← hq] at hor hq0 hq1
          have HQ := Lib.hid hq
          have HQ1 := Lib.hid hq1
          clear hq hq1
          by_cases hx1 : x < 128
          · have HL := Lib.hid (rdk_last (L := L) (m := m) (k := k) (r := r) (x := x) (by omega) (by omega) HX.out hx0.1 hx1)
            by_cases hmax : q > 1000000000000
            · by_cases hz : (x == 0) = true
              · have hz1 : x = 0 := by simpa using hz
                by_cases hk0 : 0 < k
                · skip
                  have HE : Hid (rd L m = (0, 0, false)) := rd_none hm (by rw [HK.out, HL.out, ← HQ.out, if_pos (by exact .inl ⟨hz1, hk0⟩)])
                  clear hz1
                  go_wp2
                  go_ret3
                  exact ⟨by rw [HE.out]; rfl, HG1.out⟩
                · skip
                  have HE : Hid (rd L m = (0, 0, false)) := rd_none hm (by rw [HK.out, HL.out, ← HQ.out, if_pos (by exact .inr hmax)])
                  clear hz1
                  go_wp2
                  go_ret3
                  exact ⟨by rw [HE.out]; rfl, HG1.out⟩
              · have hz1 : x ≠ 0 := by simpa using hz
                replace hz : (x == 0) = false := by simpa using hz
                have HE : Hid (rd L m = (0, 0, false)) := rd_none hm (by rw [HK.out, HL.out, ← HQ.out, if_pos (by exact .inr hmax)])
                clear hz1
                go_wp2
                go_ret3
                exact ⟨by rw [HE.out]; rfl, HG1.out⟩
            · by_cases hz : (x == 0) = true
              · have hz1 : x = 0 := by simpa using hz
                by_cases hk0 : 0 < k
                · skip
                  have HE : Hid (rd L m = (0, 0, false)) := rd_none hm (by rw [HK.out, HL.out, ← HQ.out, if_pos (by exact .inl ⟨hz1, hk0⟩)])
                  clear hz1
                  go_wp2
                  go_ret3
                  exact ⟨by rw [HE.out]; rfl, HG1.out⟩
                · skip
                  have HE : Hid (rd L m = (q, (m : Int) + ((k + 1 : Nat) : Int), true)) := rd_some hm (by rw [HK.out, HL.out, ← HQ.out, if_neg (by omega)])
                  clear hz1
                  go_wp2
                  go_ret3
                  exact ⟨by rw [HE.out]; unfold tup; go_num, HG1.out⟩
              · have hz1 : x ≠ 0 := by simpa using hz
                replace hz : (x == 0) = false := by simpa using hz
                have HE : Hid (rd L m = (q, (m : Int) + ((k + 1 : Nat) : Int), true)) := rd_some hm (by rw [HK.out, HL.out, ← HQ.out, if_neg (by omega)])
                clear hz1
                go_wp2
                go_ret3
                exact ⟨by rw [HE.out]; unfold tup; go_num, HG1.out⟩
          · have HL := Lib.hid (rdk_more (L := L) (m := m) (k := k) (r := r) (x := x) (by omega) (by omega) HX.out (by omega) hx0.2)
            go_wp2
            go_roundw
            case rel => exact ⟨k + 1, q, by omega, by go_num, rfl, ⟨hq0, HQ1.out⟩, by show _ = _; rw [HK.out, HL.out, ← HQ.out], HG1⟩
            case measure => simp [intOf]; omega
        · have HE : Hid (rd L m = (0, 0, false)) := rd_none hm (by rw [HK.out]; exact rdk_out (by omega))
          go_wp2
          go_ret3
          exact ⟨by rw [HE.out]; rfl, HG1.out⟩
      · have HE : Hid (rd L m = (0, 0, false)) := rd_none hm (by rw [HK.out]; exact rdk_out (by omega))
        go_wp2
        go_ret3
        exact ⟨by rw [HE.out]; rfl, HG1.out⟩
  · have HE := Lib.hid (rd_out hin)
    clear HC
    by_cases h0 : n < 0
    · clear hin
      go_enter Try.func22, Try.ntmps22
      go_wp2
      refine wp_loop_rounds 1 ?_
      rw [rounds_succ]
      go_wp2
      go_ret3
      exact ⟨by rw [HE.out]; rfl, World.grownBy.refl _ _⟩
    · have hnl : (L.length : Int) < n := by omega
      clear hin
      go_enter Try.func22, Try.ntmps22
      go_wp2
      refine wp_loop_rounds 1 ?_
      rw [rounds_succ]
      go_wp2
      go_ret3
      exact ⟨by rw [HE.out]; rfl, World.grownBy.refl _ _⟩

theorem read_three (w : World) (v : Value) (L : List Int) (n : Int) (hv : Sees .u8 w v L) (hn : (Lit.int .i64 n).wf = true) :
    Calls Try.prog 19 #[v, .int .i64 n] w fun e w' => e = .returned (.tuple #[.int .i64 (rd L n).1, .int .i64 (rd L n).2.1, .bool (rd L n).2.2]) ∧ w.grownBy w' none := read_any w v L n hv hn
theorem sRead_three (w : World) (v : Value) (L : List Int) (n : Int) (hv : Sees .u8 w v L) (hL : L.length ≤ 1000000000000000000) (hn : (Lit.int .i64 n).wf = true) :
    Calls Try.prog 22 #[v, .int .i64 n] w fun e w' => e = .returned (.tuple #[.int .i64 (rd L n).1, .int .i64 (rd L n).2.1, .bool (rd L n).2.2]) ∧ w.grownBy w' none := sRead_any w v L n hv hL hn
end Go.Proofs.Ytbpmbbmgmpdhnaa.Rdv
