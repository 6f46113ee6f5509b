/- Whether a sum of weights can be reached: contracts of the program and of its model. -/
import Derived.Test.YtochohoihmfanaaMsk
import Derived.BigQuiet
namespace Go.Proofs.Ytochohoihmfanaa.Msk
open Go.RowKit Kit Rw Rg Md

def bit (m k : Nat) : Nat := m / 2 ^ k % 2
def msum (L : List Int) (m : Nat) : Nat → Int
  | 0 => 0
  | k + 1 => msum L m k + (bit m k : Int) * L.getD k 0
theorem bit_add {m k j : Nat} (h : k < j) : bit (m + 2 ^ j) k = bit m k := by
  unfold bit
  obtain ⟨d, rfl⟩ : ∃ d, j = k + (d + 1) := ⟨j - k - 1, by omega⟩
  rw [Nat.pow_add, Nat.add_mul_div_left _ _ (Nat.two_pow_pos k), Nat.pow_succ]
  omega
theorem bit_low {m j : Nat} (h : m < 2 ^ j) : bit m j = 0 := by
  unfold bit; rw [Nat.div_eq_of_lt h]
theorem bit_top {m j : Nat} (h : m < 2 ^ j) : bit (m + 2 ^ j) j = 1 := by
  unfold bit
  rw [Nat.add_div_right _ (Nat.two_pow_pos j), Nat.div_eq_of_lt h]
theorem msum_add {L : List Int} {m j : Nat} : ∀ i, i ≤ j → msum L (m + 2 ^ j) i = msum L m i
  | 0, _ => rfl
  | i + 1, h => by rw [msum, msum, msum_add i (by omega), bit_add (by omega)]
theorem mem_sums {L : List Int} {x : Int} : ∀ j, x ∈ sums L j ↔ ∃ m, m < 2 ^ j ∧ msum L m j = x
  | 0 => by
    simp only [sums, List.mem_cons, List.not_mem_nil, or_false, Nat.pow_zero]
    constructor
    · rintro rfl; exact ⟨0, by omega, rfl⟩
    · rintro ⟨m, _, h⟩; exact h.symm
  | j + 1 => by
    have hp : 2 ^ (j + 1) = 2 ^ j + 2 ^ j := by rw [Nat.pow_succ]; omega
    simp only [sums, List.mem_flatMap, List.mem_cons, List.not_mem_nil, or_false]
    constructor
    · rintro ⟨z, hz, e⟩
      obtain ⟨m, hm, rfl⟩ := (mem_sums j).1 hz
      rcases e with rfl | rfl
      · exact ⟨m, by omega, by rw [msum, bit_low hm]; simp⟩
      · exact ⟨m + 2 ^ j, by omega, by rw [msum, bit_top hm, msum_add j (Nat.le_refl _)]; simp⟩
    · rintro ⟨m, hm, rfl⟩
      by_cases h : m < 2 ^ j
      · exact ⟨_, (mem_sums j).2 ⟨m, h, rfl⟩, .inl (by rw [msum, bit_low h]; simp)⟩
      · obtain ⟨q, rfl⟩ : ∃ q, m = q + 2 ^ j := ⟨m - 2 ^ j, by omega⟩
        exact ⟨_, (mem_sums j).2 ⟨q, by omega, rfl⟩, .inr (by rw [msum, bit_top (by omega), msum_add j (Nat.le_refl _)]; simp)⟩

theorem i64_and1 (n : Int) : bits .and .i64 n 1 = n % 2 := by
  have h1 : (BitVec.ofInt 64 1).toNat = 2 ^ 1 - 1 := by decide
  have key : (BitVec.ofInt 64 n &&& BitVec.ofInt 64 1).toNat = (n % ((2 ^ 64 : Nat) : Int)).toNat % 2 ^ 1 := by
    rw [BitVec.toNat_and, BitVec.toNat_ofInt, h1, Nat.and_two_pow_sub_one_eq_mod]
  show IntKind.i64.wrap ((BitVec.ofInt 64 n &&& BitVec.ofInt 64 1).toNat : Nat) = n % 2
  rw [key, IntKind.wrap_i64]
  omega
theorem bits_one (m k : Nat) : bits BinOp.and IntKind.i64 ((m : Int) / 2 ^ k) 1 = (bit m k : Int) := by
  rw [show ((m : Int) / 2 ^ k) = ((m / 2 ^ k : Nat) : Int) by simp, i64_and1]
  unfold bit
  omega
theorem bit_le (m k : Nat) : bit m k ≤ 1 := by unfold bit; omega
theorem msum_bd {L : List Int} {m : Nat} (h : okL L = true) : ∀ k, k ≤ L.length → 0 ≤ msum L m k ∧ msum L m k ≤ 100 * (k : Int)
  | 0, _ => by simp [msum]
  | k + 1, hk => by
    have h1 := msum_bd (m := m) h k (by omega)
    have h2 := ok_at h (j := k) (by omega)
    have h3 := bit_le m k
    unfold ok1 at h2
    rw [msum]
    obtain h0 | h0 : bit m k = 0 ∨ bit m k = 1 := by omega
    all_goals rw [h0]; simp only [Int.natCast_add, Int.ofNat_zero, Int.ofNat_one, Int.zero_mul, Int.one_mul, Int.natCast_one, Int.natCast_zero]; omega
def reach (L : List Int) (x : Int) : Bool := okL L && decide (x ∈ sums L L.length)

set_option maxRecDepth 20000 in
set_option maxHeartbeats 1000000 in
theorem iReach_any (w : World) (u : Value) (L : List Int) (x : Int) (hu : Sees .i64 w u L) :
    Calls Try.prog 29 #[u, .int .i64 x] w fun e w' => e = .returned (.bool (reach L x)) ∧ w.grownBy w' none := by
  have hA := iAre_any w u L hu
  have HU := Lib.hid hu
  clear hu
  cases hc : okL L
  · rw [hc] at hA
    have HR : Hid (reach L x = false) := by show _ = _; unfold reach; rw [hc]; rfl
    have HA := Lib.hid hA
    clear hA hc
    go_enter Try.func29, Try.ntmps29
    go_wp2_with fail
    refine HA.out.mono ?_
    rintro e w2 ⟨rfl, rfl⟩
    go_wp2
    go_ret
    exact ⟨Cont.ret_bool HR.out.symm, World.grownBy.refl _ _⟩
  · rw [hc] at hA
    have HR : Hid (reach L x = decide (x ∈ sums L L.length)) := by show _ = _; unfold reach; rw [hc]; rfl
    have HA := Lib.hid hA
    have HC := Lib.hid hc
    clear hA hc
    go_enter Try.func29, Try.ntmps29
    go_wp2_with fail
    refine HA.out.mono ?_
    rintro e w2 ⟨rfl, rfl⟩
    go_wp2_with fail
    refine (sums_any _ _ L HU.out HC.out).mono ?_
    rintro e w3 ⟨v, rfl, ho, hg⟩
    have HO := Lib.hid ho
    have HG := Lib.hid hg
    clear ho hg
    go_wp2_with fail
    refine (Cont.contains_any _ v x _ HO.out.sees).mono ?_
    rintro e w4 ⟨rfl, rfl⟩
    go_wp2
    go_ret
    exact ⟨Cont.ret_bool HR.out.symm, HG.out⟩

set_option maxRecDepth 20000 in
set_option maxHeartbeats 1000000 in
theorem sOk_any (w : World) (u : Value) (L : List Int) (hu : Sees .i64 w u L) :
    Calls Try.prog 73 #[u] w fun e w' => e = .returned (.bool (okL L)) ∧ w = w' := by
  have hl := hu.len
  obtain ⟨a, n, cap, rfl, HN⟩ := hu.shape
  have HU := Lib.hid hu
  have hl2 : n ≤ 9223372036854775807 := by rw [← HN.out]; exact hl
  clear hu hl
  go_enter Try.func73, Try.ntmps73
  go_wp2
  go_loop [3] (fun i => ∃ j : Nat, j ≤ n ∧ i = .int .i64 j ∧ Hid (∀ m, m < j → ok1 (L.getD m 0))) (fun i => n - (intOf i).toNat)
  case atStart => exact ⟨0, Nat.zero_le _, rfl, fun m hm => absurd hm (Nat.not_lt_zero _)⟩
  case round =>
    obtain ⟨j, hj, rfl, HE⟩ := hrel
    by_cases hlt : j < n
    · obtain ⟨y, hy⟩ : ∃ y, y = L.getD j 0 := ⟨_, rfl⟩
      obtain ⟨b, o, rfl, hcj⟩ := HU.out.at_row (j := j) (by rw [HN.out]; exact hlt)
      rw [← hy] at hcj
      have HY := Lib.hid hy
      clear hy
      by_cases hne : 1 ≤ y ∧ y ≤ 100
      · have HI := Lib.hid fun w' => Md.l1In_yes w' hne
        have HNE := Lib.hid hne
        clear hne
        go_wp2_with fail
        refine (HI.out _).mono ?_
        rintro e w2 ⟨rfl, rfl⟩
        go_wp2
        go_round
        case rel =>
          refine ⟨j + 1, by omega, by go_num, fun m hm => ?_⟩
          by_cases h : m = j
          · subst h; rw [← HY.out]; exact HNE.out
          · exact HE.out m (by omega)
        case measure => simp [intOf]; omega
      · have HI := Lib.hid fun w' => Md.l1In_no w' hne
        have HR : Hid (okL L = false) := ok_no (j := j) (by rw [HN.out]; exact hlt) (by rw [← HY.out]; exact hne)
        clear hne
        go_wp2_with fail
        refine (HI.out _).mono ?_
        rintro e w2 ⟨rfl, rfl⟩
        go_wp2
        go_ret
        exact ⟨Cont.ret_bool HR.out.symm, rfl⟩
    · have hjn : n = j := by omega
      subst hjn
      by_cases h12 : n ≤ 12
      · have HM : Hid (okL L = true) := ok_yes (by rw [HN.out]; exact HE.out) (by rw [HN.out]; exact h12)
        go_wp2
        go_ret
        exact ⟨Cont.ret_bool (by rw [HM.out]; first | rfl | (simp; omega)), rfl⟩
      · have HM : Hid (okL L = false) := ok_long (by rw [HN.out]; exact h12)
        go_wp2
        go_ret
        exact ⟨Cont.ret_bool (by rw [HM.out]; first | rfl | (simp; omega)), rfl⟩

set_option maxRecDepth 20000 in
set_option maxHeartbeats 1000000 in
theorem sReach_any (w : World) (u : Value) (L : List Int) (x : Int) (hu : Sees .i64 w u L) :
    Calls Try.prog 27 #[u, .int .i64 x] w fun e w' => e = .returned (.bool (reach L x)) ∧ w.grownBy w' none := by
  have hA := sOk_any w u L hu
  obtain ⟨a, n, cap, rfl, HN⟩ := hu.shape
  have HU := Lib.hid hu
  clear hu
  cases hc : okL L
  · rw [hc] at hA
    have HR : Hid (reach L x = false) := by show _ = _; unfold reach; rw [hc]; rfl
    have HA := Lib.hid hA
    clear hA hc
    go_enter Try.func27, Try.ntmps27
    go_wp2_with fail
    refine HA.out.mono ?_
    rintro e w2 ⟨rfl, rfl⟩
    go_wp2
    go_ret
    exact ⟨Cont.ret_bool HR.out.symm, World.grownBy.refl _ _⟩
  · rw [hc] at hA
    have HR : Hid (reach L x = decide (x ∈ sums L L.length)) := by show _ = _; unfold reach; rw [hc]; rfl
    have HA := Lib.hid hA
    have HC := Lib.hid hc
    have h12 := ok_len hc
    rw [HN.out] at h12
    clear hA hc
    go_enter Try.func27, Try.ntmps27
    go_wp2_with fail
    refine HA.out.mono ?_
    rintro e w2 ⟨rfl, rfl⟩
    obtain ⟨N, hN⟩ : ∃ N, N = 2 ^ n := ⟨_, rfl⟩
    have hN4 : N ≤ 4096 := by rw [hN]; exact Nat.le_trans (Nat.pow_le_pow_right (by omega) h12) (by decide)
    have hw : wrap64 ((2 : Int) ^ n) = (N : Int) := by
      rw [show (2 : Int) ^ n = (N : Int) by rw [hN]; simp]
      exact IntWalk.wrap64_in _ (by omega)
    have HNP := Lib.hid hN
    clear hN
    go_wp2
    have HG0 := Lib.hid (World.grownBy.refl w none)
    go_loopw [5] (fun i wr => ∃ m : Nat, m ≤ N ∧ i = .int .i64 m ∧ Hid (∀ q, q < m → msum L q n ≠ x) ∧ Hid (w.grownBy wr none)) (fun i _ => N - (intOf i).toNat)
    case atStart => exact ⟨0, Nat.zero_le _, rfl, fun m hm => absurd hm (Nat.not_lt_zero _), HG0⟩
    case round =>
      obtain ⟨m, hm, rfl, HE, HG⟩ := hrel
      by_cases hlt : m < N
      · go_wp2
        go_loopw [6, 7] (fun s t wy => ∃ k : Nat, k ≤ n ∧ t = .int .i64 k ∧ s = .int .i64 (msum L m k) ∧ Hid (w.grownBy wy none)) (fun _ t _ => n - (intOf t).toNat)
        case atStart => exact ⟨0, Nat.zero_le _, rfl, rfl, HG⟩
        case round =>
          obtain ⟨k, hk, rfl, rfl, HG⟩ := hrel
          by_cases hkl : k < n
          · obtain ⟨y, hy⟩ : ∃ y, y = L.getD k 0 := ⟨_, rfl⟩
            obtain ⟨b, o, rfl, hcj⟩ := (HU.out.grown HG.out).at_row (j := k) (by rw [HN.out]; exact hkl)
            have hyb := ok_at HC.out (j := k) (by rw [HN.out]; exact hkl)
            have hsb := msum_bd (m := m) HC.out k (by rw [HN.out]; omega)
            have hbt := bit_le m k
            have hbb := bits_one m k
            have HNX := Lib.hid (show msum L m (k + 1) = msum L m k + (bit m k : Int) * L.getD k 0 from rfl)
            rw [← hy] at hcj hyb HNX
            unfold ok1 at hyb
            obtain ⟨s, hs⟩ : ∃ s, s = msum L m k := ⟨_, rfl⟩
            rw [← hs] at hsb HNX ⊢
            obtain ⟨d, hd⟩ : ∃ d, d = bit m k := ⟨_, rfl⟩
            rw [← hd] at hbt hbb HNX
            have hdy : 0 ≤ (d : Int) * y ∧ (d : Int) * y ≤ 100 := by
              obtain rfl | rfl : d = 0 ∨ d = 1 := by omega
              all_goals (simp <;> omega)
            obtain ⟨z, hz⟩ : ∃ z, z = (d : Int) * y := ⟨_, rfl⟩
            rw [← hz] at hdy HNX
            have hw1 : wrap64 ((d : Int) * y) = z := by rw [IntWalk.wrap64_in _ (by rw [← hz]; omega), hz]
            have hw2 : wrap64 (s + z) = s + z := IntWalk.wrap64_in _ (by omega)
            have hwk : wrap64 ((k : Int) + 1) = k + 1 := IntWalk.wrap64_in _ (by omega)
            have HBB := Lib.hid hbb
            have HW1 := Lib.hid hw1
            have HW2 := Lib.hid hw2
            clear hs hd hz hy hbb hw1 hw2 hsb hbt hyb hdy
            go_wp2
            go_quiet (fail)
            rw [HBB.out, HW1.out, HW2.out]
            go_wp2
            go_roundw
            case rel => exact ⟨k + 1, by omega, by go_num, by rw [HNX.out], grown_drewN HG.out _⟩
            case measure => simp [intOf]; omega
          · have hkn : n = k := by omega
            subst hkn
            by_cases hx : msum L m n = x
            · have HF : Hid (decide (x ∈ sums L L.length) = true) := by
                show _ = _
                rw [decide_eq_true_iff, mem_sums]
                exact ⟨m, by rw [HN.out, ← HNP.out]; exact hlt, by rw [HN.out]; exact hx⟩
              go_wp2
              go_ret
              exact ⟨Cont.ret_bool (by rw [HR.out, HF.out]), HG.out⟩
            · go_wp2
              go_roundw
              case rel =>
                refine ⟨m + 1, by omega, by go_num, fun q hq => ?_, HG⟩
                by_cases h : q = m
                · subst h; exact hx
                · exact HE.out q (by omega)
              case measure => simp [intOf]; omega
      · have hmn : N = m := by omega
        have HF : Hid (decide (x ∈ sums L L.length) = false) := by
          show _ = _
          rw [decide_eq_false_iff_not, mem_sums]
          rintro ⟨q, hq, e⟩
          rw [HN.out] at hq e
          rw [← HNP.out] at hq
          exact HE.out q (by omega) e
        go_wp2
        go_ret
        exact ⟨Cont.ret_bool (by rw [HR.out, HF.out]), HG.out⟩
end Go.Proofs.Ytochohoihmfanaa.Msk
