/- Contract of the laws' reading of one byte of the input. -/
import Derived.Test.YtbpmbbmgmpdhnaaRow
namespace Go.Proofs.Ytbpmbbmgmpdhnaa.Same
open Go.RowKit Kit Rw

theorem at_any (w : World) (a : Option Addr) (len cap : Nat) (z : List Int) (hr : IsRow .u8 w a len cap z) (hl : len ≤ 1048576) (i : Nat) (hi : i ≤ 1000) :
    Calls Try.prog 26 #[.slice a len cap, .int .i64 i] w fun e w' => ∃ x : Int, (0 ≤ x ∧ x ≤ 255) ∧ e = .returned (.int .i64 x) ∧ w = w' := by
  have HR := Lib.hid hr
  clear hr
  by_cases hlt : i < len
  · obtain ⟨b, off, rfl, hcell⟩ := HR.out.at hlt
    have hll := HR.out.len_le
    have hc := hcell i (by omega)
    have hb := HR.out.bounds i
    obtain ⟨x, hx⟩ : ∃ x, x = z.getD i 0 := ⟨_, rfl⟩
    rw [← hx] at hc hb
    clear hcell hx
    go_enter Try.func26, Try.ntmps26
    go_wp2
    go_ret
    exact ⟨_, hb, rfl, rfl⟩
  · go_enter Try.func26, Try.ntmps26
    go_wp2
    go_ret
    exact ⟨_, ⟨by omega, by omega⟩, rfl, rfl⟩
/-- The same, for every world that holds the input: one byte, whatever the world. -/
theorem at_fix (w0 : World) (a : Option Addr) (len cap : Nat) (z : List Int) (hr0 : IsRow .u8 w0 a len cap z) (hl : len ≤ 1048576) (i : Nat) (hi : i ≤ 1000) :
    ∃ x : Int, (0 ≤ x ∧ x ≤ 255) ∧ ∀ w, IsRow .u8 w a len cap z → Calls Try.prog 26 #[.slice a len cap, .int .i64 i] w fun e w' => e = .returned (.int .i64 x) ∧ w' = w := by
  by_cases hlt : i < len
  · refine ⟨z.getD i 0, hr0.bounds i, fun w hr => ?_⟩
    have HR := Lib.hid hr
    clear hr hr0
    obtain ⟨b, off, rfl, hcell⟩ := HR.out.at hlt
    have hll := HR.out.len_le
    have hc := hcell i (by omega)
    have hb := HR.out.bounds i
    obtain ⟨x, hx⟩ : ∃ x, x = z.getD i 0 := ⟨_, rfl⟩
    rw [← hx] at hc hb ⊢
    clear hcell hx
    go_enter Try.func26, Try.ntmps26
    go_wp2
    go_ret
    exact ⟨rfl, rfl⟩
  · refine ⟨((i : Int) * 31 + (len : Int) * 7) % 256, by omega, fun w _ => ?_⟩
    go_enter Try.func26, Try.ntmps26
    go_wp2
    go_ret
    exact ⟨rfl, rfl⟩
end Go.Proofs.Ytbpmbbmgmpdhnaa.Same
