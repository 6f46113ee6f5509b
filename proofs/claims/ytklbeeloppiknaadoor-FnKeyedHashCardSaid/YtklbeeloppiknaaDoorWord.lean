/- The draw of a key or of a value to be hashed. -/
import Derived.Test.YtklbeeloppiknaaDoorDraw
namespace Go.Proofs.YtklbeeloppiknaaDoor.Draw
open Go.RowKit Kit

def Word (x : Int) : Prop := -1 ≤ x ∧ x ≤ 2147483648
theorem Word.wf {x : Int} (h : Word x) : (Lit.int .i64 x).wf = true := by
  obtain ⟨h0, h1⟩ := h
  have hmin : IntKind.i64.min = -9223372036854775808 := rfl
  have hmax : IntKind.i64.max = 9223372036854775807 := rfl
  simp only [Lit.wf, Bool.and_eq_true, decide_eq_true_eq]; omega

set_option maxHeartbeats 1000000 in
theorem word_any (w : World) (c : Nat) (hc : Cur w c) :
    Calls Tryd.prog 18 #[.pointer (some ⟨c, 0, none⟩)] w (Drawn c w Word) := by
  have HC := Lib.hid hc
  clear hc
  go_enter Tryd.func18, Tryd.ntmps18
  go_wp2_with fail
  refine (once_any 10 (by omega) _ _ HC.out).mono ?_
  rintro e w1 ⟨b, rfl, hc1, hg1⟩
  cases b
  · go_wp2_with fail
    refine (once_any 4 (by omega) _ _ hc1).mono ?_
    rintro e w2 ⟨b, rfl, hc2, hg2⟩
    cases b
    · go_wp2_with fail
      refine (below_any 1000000 (by omega) _ _ hc2).mono ?_
      rintro e w3 ⟨y, HP, rfl, hc3, hg3⟩
      obtain ⟨hy0, hy1⟩ := HP.1 (by omega)
      clear HP
      go_wp2_with fail
      refine (below_any 2000 (by omega) _ _ hc3).mono ?_
      rintro e w4 ⟨v, HP, rfl, hc4, hg4⟩
      obtain ⟨hv0, hv1⟩ := HP.1 (by omega)
      clear HP
      have hp0 : 0 ≤ y * v := Int.mul_nonneg hy0 hv0
      have hp1 : y * v ≤ 1000000 * 2000 := Int.mul_le_mul (by omega) (by omega) hv0 (by omega)
      go_wp2
      go_ret
      exact ⟨_, ⟨by omega, by omega⟩, rfl, hc4, grown_trans hg1 (grown_trans hg2 (grown_trans hg3 hg4))⟩
    · have HL := Lib.hid (int_list [0, 1, 2147483646] w2 c hc2 (by decide) (by decide))
      go_wp2_with (go_at_call 30; refine (HL.out).mono ?_; rintro e w3 ⟨y, hy, rfl, hc3, hg3⟩)
      go_ret
      refine ⟨_, ?_, rfl, hc3, grown_trans hg1 (grown_trans hg2 hg3)⟩
      simp only [List.mem_cons, List.not_mem_nil, or_false] at hy
      unfold Word; omega
  · have HL := Lib.hid (int_list [-1, 2147483647, 2147483648] w1 c hc1 (by decide) (by decide))
    go_wp2_with (go_at_call 30; refine (HL.out).mono ?_; rintro e w2 ⟨y, hy, rfl, hc2, hg2⟩)
    go_ret
    refine ⟨_, ?_, rfl, hc2, grown_trans hg1 hg2⟩
    simp only [List.mem_cons, List.not_mem_nil, or_false] at hy
    unfold Word; omega
end Go.Proofs.YtklbeeloppiknaaDoor.Draw
