/- Contracts of the draws of chapter 1's arguments: numbers drawn from a cursor. -/
import Derived.Test.YtbpmbbmgmpdhnaaOnce
import Derived.Test.YtbpmbbmgmpdhnaaNew
namespace Go.Proofs.Ytbpmbbmgmpdhnaa.Draw
open Go.RowKit Kit

theorem odd_any (w : World) (c : Nat) (hc : Cur w c) :
    Calls Try.prog 93 #[.pointer (some ⟨c, 0, none⟩)] w (Drawn c w I64) := by
  have HL := Lib.hid (int_list [-1, 0, 1, 2, 255, 256, 65535, 2147483647, 2147483648, 4294967295, 4294967296, -2147483648, 9223372036854775807, -9223372036854775808] w c hc (by decide) (by decide))
  go_enter Try.func93, Try.ntmps93
  go_wp2_with (go_at_call 70; refine (HL.out).mono ?_; rintro e w1 ⟨x, hx, rfl, hc1, hg1⟩)
  go_ret
  refine ⟨_, ?_, rfl, hc1, hg1⟩
  simp only [List.mem_cons, List.not_mem_nil, or_false] at hx
  unfold I64; omega
theorem raw_any (w : World) (c : Nat) (hc : Cur w c) :
    Calls Try.prog 85 #[.pointer (some ⟨c, 0, none⟩)] w (Drawn c w I64) := by
  have HC := Lib.hid hc
  clear hc
  go_enter Try.func85, Try.ntmps85
  go_wp2_with fail
  refine (once_any 2 (by omega) _ _ HC.out).mono ?_
  rintro e w1 ⟨b, rfl, hc1, hg1⟩
  cases b
  · have HL := Lib.hid (int_list [-1, 1000000000000, 1000000000001] w1 c hc1 (by decide) (by decide))
    go_wp2_with (go_at_call 70; refine (HL.out).mono ?_; rintro e w2 ⟨x, hx, rfl, hc2, hg2⟩)
    go_ret
    refine ⟨_, ?_, rfl, hc2, grown_trans hg1 hg2⟩
    simp only [List.mem_cons, List.not_mem_nil, or_false] at hx
    unfold I64; omega
  · go_wp2_with (go_at_call 93; refine (odd_any _ _ hc1).mono ?_; rintro e w2 ⟨x, hx, rfl, hc2, hg2⟩)
    go_ret
    exact ⟨_, hx, rfl, hc2, grown_trans hg1 hg2⟩

/-- A number from nought to the greatest one. -/
def Num (x : Int) : Prop := 0 ≤ x ∧ x ≤ 1000000000000
theorem Num.i64 {x : Int} (h : Num x) : I64 x := by unfold I64; obtain ⟨h0, h1⟩ := h; omega
set_option maxRecDepth 20000 in
set_option maxHeartbeats 1000000 in
theorem num_any (w : World) (c : Nat) (hc : Cur w c) :
    Calls Try.prog 69 #[.pointer (some ⟨c, 0, none⟩)] w (Drawn c w Num) := by
  have HC := Lib.hid hc
  clear hc
  go_enter Try.func69, Try.ntmps69
  go_wp2_with fail
  refine (below_any 4 (by omega) _ _ HC.out).mono ?_
  rintro e w1 ⟨x, HP, rfl, hc1, hg1⟩
  obtain ⟨hx0, hx1⟩ := HP.1 (by omega)
  clear HP
  by_cases h0 : x = 0
  · subst h0
    go_wp2_with (go_at_call 62; refine (below_any 2000 (by omega) _ _ hc1).mono ?_; rintro e w2 ⟨y, HP, rfl, hc2, hg2⟩)
    go_ret
    have := HP.1 (by omega)
    exact ⟨_, ⟨by omega, by omega⟩, rfl, hc2, grown_trans hg1 hg2⟩
  by_cases h1 : x = 1
  · subst h1
    have HL := Lib.hid (int_list [0, 1, 127, 128, 2147483646, 2147483647, 1000000000000] w1 c hc1 (by decide) (by decide))
    go_wp2_with (go_at_call 70; refine (HL.out).mono ?_; rintro e w2 ⟨y, hy, rfl, hc2, hg2⟩)
    go_ret
    refine ⟨_, ?_, rfl, hc2, grown_trans hg1 hg2⟩
    simp only [List.mem_cons, List.not_mem_nil, or_false] at hy
    unfold Num; omega
  by_cases h2 : x = 2
  · subst h2
    go_wp2_with fail
    refine (below_any 1000000 (by omega) _ _ hc1).mono ?_
    rintro e w2 ⟨y, HP, rfl, hc2, hg2⟩
    obtain ⟨hy0, hy1⟩ := HP.1 (by omega)
    clear HP
    go_wp2_with fail
    refine (below_any 1000000 (by omega) _ _ hc2).mono ?_
    rintro e w3 ⟨v, HP, rfl, hc3, hg3⟩
    obtain ⟨hv0, hv1⟩ := HP.1 (by omega)
    clear HP
    have hp0 : 0 ≤ y * v := Int.mul_nonneg hy0 hv0
    have hp1 : y * v ≤ 1000000 * 1000000 := Int.mul_le_mul (by omega) (by omega) hv0 (by omega)
    go_wp2
    go_ret
    exact ⟨_, ⟨hp0, by omega⟩, rfl, hc3, grown_trans hg1 (grown_trans hg2 hg3)⟩
  · have e0 : (x == 0) = false := by simp; omega
    have e1 : (x == 1) = false := by simp; omega
    have e2 : (x == 2) = false := by simp; omega
    go_wp2_with (go_at_call 62; refine (below_any 20 (by omega) _ _ hc1).mono ?_; rintro e w2 ⟨y, HP, rfl, hc2, hg2⟩)
    go_ret
    have := HP.1 (by omega)
    exact ⟨_, ⟨by omega, by omega⟩, rfl, hc2, grown_trans hg1 hg2⟩
theorem one_any (w : World) (c : Nat) (hc : Cur w c) :
    Calls Try.prog 63 #[.pointer (some ⟨c, 0, none⟩)] w (Drawn c w I64) := by
  have HC := Lib.hid hc
  clear hc
  go_enter Try.func63, Try.ntmps63
  go_wp2_with fail
  refine (once_any 6 (by omega) _ _ HC.out).mono ?_
  rintro e w1 ⟨b, rfl, hc1, hg1⟩
  cases b
  · go_wp2_with (go_at_call 69; refine (num_any _ _ hc1).mono ?_; rintro e w2 ⟨x, hx, rfl, hc2, hg2⟩)
    go_ret
    exact ⟨_, hx.i64, rfl, hc2, grown_trans hg1 hg2⟩
  · go_wp2_with (go_at_call 85; refine (raw_any _ _ hc1).mono ?_; rintro e w2 ⟨x, hx, rfl, hc2, hg2⟩)
    go_ret
    exact ⟨_, hx, rfl, hc2, grown_trans hg1 hg2⟩
end Go.Proofs.Ytbpmbbmgmpdhnaa.Draw
