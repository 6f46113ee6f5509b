/- Contracts of the draws of chapter 1's arguments: a new cursor over the bytes that came in, and numbers and strings drawn from it. -/
import Derived.Test.YtjmnegglkhjkeaaDraw
namespace Go.Proofs.Ytjmnegglkhjkeaa.Draw
open Go.RowKit Kit

def I64 (x : Int) : Prop := -9223372036854775808 ≤ x ∧ x ≤ 9223372036854775807
theorem I64.wf {x : Int} (h : I64 x) : (Lit.int .i64 x).wf = true := by
  obtain ⟨h0, h1⟩ := h
  have hmin : IntKind.i64.min = -9223372036854775808 := rfl
  have hmax : IntKind.i64.max = 9223372036854775807 := rfl
  simp only [Lit.wf, Bool.and_eq_true, decide_eq_true_eq]; omega

/-- How the making of a cursor ends: a pointer to a new block. -/
def NewCur (w : World) (e : Ending) (w' : World) : Prop := ∃ c, e = .returned (.pointer (some ⟨c, 0, none⟩)) ∧ Cur w' c ∧ w.heap.size ≤ c ∧ Below w.heap.size w w'

theorem new_end {w : World} {a : Option Addr} {len cap : Nat} {z : List Int} (hr : IsRow .u8 w a len cap z) (y : Int) :
    NewCur w (.returned (.pointer (some ⟨w.heap.size, 0, none⟩))) (w.alloc (.cells #[.slice a len cap, .int .i64 0, .int .i64 y] 60)) := by
  have hb : Below w.heap.size w (w.alloc (.cells #[.slice a len cap, .int .i64 0, .int .i64 y] 60)) := (Below.refl _ _).alloc (Nat.le_refl _) _
  refine ⟨_, rfl, ⟨a, len, cap, z, 0, y, heap_alloc_new _ _, by omega, by omega, hr.below hb, ?_⟩, Nat.le_refl _, hb⟩
  intro x hx h0
  rcases hr with ⟨h, _⟩ | ⟨x', hx', h1, h2, h3, h4, _⟩
  · rw [h] at hx; cases hx
  · rw [hx'] at hx
    injection hx with hx
    subst hx
    have h := World.block_lt_of_cell? w _ (h4 0 (by omega))
    simp only [Addr.add, if_true] at h
    exact h

set_option maxHeartbeats 1000000 in
theorem new_any (w : World) (a : Option Addr) (len cap : Nat) (z : List Int) (hr : IsRow .u8 w a len cap z) :
    Calls Try.prog 41 #[.slice a len cap] w (NewCur w) := by
  have HR := Lib.hid hr
  have hll := hr.len_le
  unfold maxLen at hll
  clear hr
  go_enter Try.func41, Try.ntmps41
  go_wp2
  go_loop [3, 4] (fun h i => ∃ k : Nat, ∃ y : Int, k ≤ len ∧ i = .int .i64 k ∧ h = .int .i64 y) (fun _ i => len - (intOf i).toNat)
  case atStart => exact ⟨0, _, Nat.zero_le _, rfl, rfl⟩
  case round =>
    obtain ⟨k, y, hk, rfl, rfl⟩ := hrel
    by_cases hlt : k < len
    · by_cases h4 : (k : Int) < 4000
      · obtain ⟨b, off, rfl, hcell⟩ := HR.out.at hlt
        have hck := hcell k (by omega)
        have hbyte := HR.out.bounds k
        clear hcell
        go_wp2
        go_round
        case rel => exact ⟨k + 1, _, by omega, by go_num, rfl⟩
        case measure => simp [intOf]; omega
      · go_wp2
        go_ret
        exact new_end HR.out _
    · go_wp2
      go_ret
      exact new_end HR.out _

theorem odd_any (w : World) (c : Nat) (hc : Cur w c) :
    Calls Try.prog 60 #[.pointer (some ⟨c, 0, none⟩)] w (Drawn c w I64) := by
  have HL := Lib.hid (int_list [-1, 0, 1, 2, 255, 256, 65535, 2147483647, 2147483648, 4294967295, 4294967296, -2147483648, 9223372036854775807, -9223372036854775808] w c hc (by decide) (by decide))
  go_enter Try.func60, Try.ntmps60
  go_wp2_with (go_at_call 51; refine (HL.out).mono ?_; rintro e w1 ⟨x, hx, rfl, hc1, hg1⟩)
  go_ret
  refine ⟨_, ?_, rfl, hc1, hg1⟩
  simp only [List.mem_cons, List.not_mem_nil, or_false] at hx
  unfold I64; omega
theorem raw_any (w : World) (c : Nat) (hc : Cur w c) :
    Calls Try.prog 57 #[.pointer (some ⟨c, 0, none⟩)] w (Drawn c w I64) := by
  have HC := Lib.hid hc
  clear hc
  go_enter Try.func57, Try.ntmps57
  go_wp2_with fail
  refine (once_any 2 (by omega) _ _ HC.out).mono ?_
  rintro e w1 ⟨b, rfl, hc1, hg1⟩
  cases b
  · have HL := Lib.hid (int_list [-1, 1000000000000, 1000000000001] w1 c hc1 (by decide) (by decide))
    go_wp2_with (go_at_call 51; refine (HL.out).mono ?_; rintro e w2 ⟨x, hx, rfl, hc2, hg2⟩)
    go_ret
    refine ⟨_, ?_, rfl, hc2, grown_trans hg1 hg2⟩
    simp only [List.mem_cons, List.not_mem_nil, or_false] at hx
    unfold I64; omega
  · go_wp2_with (go_at_call 60; refine (odd_any _ _ hc1).mono ?_; rintro e w2 ⟨x, hx, rfl, hc2, hg2⟩)
    go_ret
    exact ⟨_, hx, rfl, hc2, grown_trans hg1 hg2⟩

/-- A number from nought to the greatest one. -/
def Num (x : Int) : Prop := 0 ≤ x ∧ x ≤ 1000000000000
theorem Num.i64 {x : Int} (h : Num x) : I64 x := by unfold I64; obtain ⟨h0, h1⟩ := h; omega
set_option maxHeartbeats 1000000 in
theorem num_any (w : World) (c : Nat) (hc : Cur w c) :
    Calls Try.prog 50 #[.pointer (some ⟨c, 0, none⟩)] w (Drawn c w Num) := by
  have HC := Lib.hid hc
  clear hc
  go_enter Try.func50, Try.ntmps50
  go_wp2_with fail
  refine (below_any 4 (by omega) _ _ HC.out).mono ?_
  rintro e w1 ⟨x, HP, rfl, hc1, hg1⟩
  obtain ⟨hx0, hx1⟩ := HP.1 (by omega)
  clear HP
  by_cases h0 : x = 0
  · subst h0
    go_wp2_with (go_at_call 43; refine (below_any 2000 (by omega) _ _ hc1).mono ?_; rintro e w2 ⟨y, HP, rfl, hc2, hg2⟩)
    go_ret
    have := HP.1 (by omega)
    exact ⟨_, ⟨by omega, by omega⟩, rfl, hc2, grown_trans hg1 hg2⟩
  by_cases h1 : x = 1
  · subst h1
    have HL := Lib.hid (int_list [0, 1, 127, 128, 2147483646, 2147483647, 1000000000000] w1 c hc1 (by decide) (by decide))
    go_wp2_with (go_at_call 51; refine (HL.out).mono ?_; rintro e w2 ⟨y, hy, rfl, hc2, hg2⟩)
    go_ret
    refine ⟨_, ?_, rfl, hc2, grown_trans hg1 hg2⟩
    simp only [List.mem_cons, List.not_mem_nil, or_false] at hy
    unfold Num; omega
  by_cases h2 : x = 2
  · subst h2
    go_wp2_with fail
    refine (below_any 1000000 (by omega) _ _ hc1).mono ?_
    rintro e w2 ⟨y, HP, rfl, hc2, hg2⟩
    obtain ⟨hy0, hy1⟩ := HP.1 (by omega)
    clear HP
    go_wp2_with fail
    refine (below_any 1000000 (by omega) _ _ hc2).mono ?_
    rintro e w3 ⟨v, HP, rfl, hc3, hg3⟩
    obtain ⟨hv0, hv1⟩ := HP.1 (by omega)
    clear HP
    have hp0 : 0 ≤ y * v := Int.mul_nonneg hy0 hv0
    have hp1 : y * v ≤ 1000000 * 1000000 := Int.mul_le_mul (by omega) (by omega) hv0 (by omega)
    go_wp2
    go_ret
    exact ⟨_, ⟨hp0, by omega⟩, rfl, hc3, grown_trans hg1 (grown_trans hg2 hg3)⟩
  · have e0 : (x == 0) = false := by simp; omega
    have e1 : (x == 1) = false := by simp; omega
    have e2 : (x == 2) = false := by simp; omega
    go_wp2_with (go_at_call 43; refine (below_any 20 (by omega) _ _ hc1).mono ?_; rintro e w2 ⟨y, HP, rfl, hc2, hg2⟩)
    go_ret
    have := HP.1 (by omega)
    exact ⟨_, ⟨by omega, by omega⟩, rfl, hc2, grown_trans hg1 hg2⟩
theorem one_any (w : World) (c : Nat) (hc : Cur w c) :
    Calls Try.prog 44 #[.pointer (some ⟨c, 0, none⟩)] w (Drawn c w I64) := by
  have HC := Lib.hid hc
  clear hc
  go_enter Try.func44, Try.ntmps44
  go_wp2_with fail
  refine (once_any 6 (by omega) _ _ HC.out).mono ?_
  rintro e w1 ⟨b, rfl, hc1, hg1⟩
  cases b
  · go_wp2_with (go_at_call 50; refine (num_any _ _ hc1).mono ?_; rintro e w2 ⟨x, hx, rfl, hc2, hg2⟩)
    go_ret
    exact ⟨_, hx.i64, rfl, hc2, grown_trans hg1 hg2⟩
  · go_wp2_with (go_at_call 57; refine (raw_any _ _ hc1).mono ?_; rintro e w2 ⟨x, hx, rfl, hc2, hg2⟩)
    go_ret
    exact ⟨_, hx, rfl, hc2, grown_trans hg1 hg2⟩
end Go.Proofs.Ytjmnegglkhjkeaa.Draw
