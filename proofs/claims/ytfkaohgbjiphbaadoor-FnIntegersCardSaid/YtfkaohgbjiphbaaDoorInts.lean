/- Contracts of the draws of the law FnIntegers, and what its last tests need of CeilDiv and Mod. -/
import Derived.Test.YtfkaohgbjiphbaaDoorDraw1
import Derived.Test.YtfkaohgbjiphbaaDoorArith
import Derived.Test.YtfkaohgbjiphbaaDoorImplParse
namespace Go.Proofs.YtfkaohgbjiphbaaDoor.Draw
open Go.RowKit Kit

def DrewI (w : World) (e : Ending) (w' : World) : Prop := ∃ x : Int, I64 x ∧ e = .returned (.int .i64 x) ∧ Below w.heap.size w w'
theorem draw_format (w : World) (a : Option Addr) (len cap : Nat) (z : List Int) (hr : IsRow .u8 w a len cap z) :
    Calls Tryd.prog 9 #[.slice a len cap] w (DrewI w) := by
  have HR := Lib.hid hr
  clear hr
  go_enter Tryd.func9, Tryd.ntmps9
  go_wp2_with fail
  refine (new_any _ _ _ _ _ HR.out).mono ?_
  rintro e w1 ⟨c, rfl, hc1, hle, hb1⟩
  go_wp2_with fail
  refine (one_any _ _ hc1).mono ?_
  rintro e w2 ⟨x, hx, rfl, hc2, hg2⟩
  go_wp2
  go_ret
  exact ⟨x, hx, rfl, below_of hb1 hg2 hb1.size hle⟩

def DrewII (w : World) (e : Ending) (w' : World) : Prop := ∃ x y : Int, I64 x ∧ I64 y ∧ e = .returned (.tuple #[.int .i64 x, .int .i64 y]) ∧ Below w.heap.size w w'
theorem draw_ceil (w : World) (a : Option Addr) (len cap : Nat) (z : List Int) (hr : IsRow .u8 w a len cap z) :
    Calls Tryd.prog 11 #[.slice a len cap] w (DrewII w) := by
  have HR := Lib.hid hr
  clear hr
  go_enter Tryd.func11, Tryd.ntmps11
  go_wp2_with fail
  refine (new_any _ _ _ _ _ HR.out).mono ?_
  rintro e w1 ⟨c, rfl, hc1, hle, hb1⟩
  go_wp2_with fail
  refine (one_any _ _ hc1).mono ?_
  rintro e w2 ⟨x, hx, rfl, hc2, hg2⟩
  go_wp2_with fail
  refine (one_any _ _ hc2).mono ?_
  rintro e w3 ⟨y, hy, rfl, hc3, hg3⟩
  go_wp2
  go_ret2
  exact ⟨x, y, hx, hy, rfl, below_of hb1 (grown_trans hg2 hg3) hb1.size hle⟩

def DrewS (w : World) (e : Ending) (w' : World) : Prop := ∃ s : ByteArray, s.size ≤ 20 ∧ e = .returned (.string s) ∧ Below w.heap.size w w'
set_option maxHeartbeats 1000000 in
theorem draw_parse (w : World) (a : Option Addr) (len cap : Nat) (z : List Int) (hr : IsRow .u8 w a len cap z) :
    Calls Tryd.prog 7 #[.slice a len cap] w (DrewS w) := by
  have HR := Lib.hid hr
  clear hr
  go_enter Tryd.func7, Tryd.ntmps7
  go_wp2_with fail
  refine (new_any _ _ _ _ _ HR.out).mono ?_
  rintro e w1 ⟨c, rfl, hc1, hle, hb1⟩
  go_wp2_with fail
  refine (once_any 2 (by omega) _ _ hc1).mono ?_
  rintro e w2 ⟨b, rfl, hc2, hg2⟩
  cases b
  · go_wp2_with fail
    refine (num_any _ _ hc2).mono ?_
    rintro e w3 ⟨x, hx, rfl, hc3, hg3⟩
    obtain ⟨hx0, hx1⟩ := hx
    obtain ⟨m, rfl⟩ : ∃ m : Nat, x = m := ⟨x.toNat, by omega⟩
    go_wp2_with (go_at_call 14; refine (Fmt.spec_nat m (by omega) _).mono ?_; rintro e w4 ⟨rfl, hb4⟩)
    go_ret
    have hb3 := below_of hb1 (grown_trans hg2 hg3) hb1.size hle
    have hl : (Lib.decDigits m).length ≤ 13 := (YtfkaohgbjiphbaaDoor.Num.digits_len (by omega)).2
    exact ⟨_, by simp [ByteArray.size]; omega, rfl, hb3.trans (hb4.mono hb3.size)⟩
  · have HL := Lib.hid (str_list [⟨#[]⟩, ⟨#[48]⟩, ⟨#[48, 48]⟩, ⟨#[45, 49]⟩, ⟨#[48, 49]⟩, ⟨#[55]⟩, ⟨#[49, 48, 48, 48, 48, 48, 48, 48, 48, 48, 48, 48, 48]⟩, ⟨#[49, 48, 48, 48, 48, 48, 48, 48, 48, 48, 48, 48, 49]⟩, ⟨#[57, 57, 57, 57, 57, 57, 57, 57, 57, 57, 57, 57, 57, 57]⟩, ⟨#[49, 120]⟩, ⟨#[32, 49]⟩] w2 c hc2 (by decide) (by decide))
    go_wp2_with (go_at_call 18; refine (HL.out).mono ?_; rintro e w3 ⟨x, hx, rfl, hc3, hg3⟩)
    go_ret
    refine ⟨_, ?_, rfl, below_of hb1 (grown_trans hg2 hg3) hb1.size hle⟩
    simp only [List.mem_cons, List.not_mem_nil, or_false] at hx
    rcases hx with rfl | rfl | rfl | rfl | rfl | rfl | rfl | rfl | rfl | rfl | rfl <;> decide

theorem big_any (w : World) (a : Option Addr) (len cap : Nat) :
    Calls Tryd.prog 6 #[.slice a len cap] w fun e w' => e = .returned (.bool (decide ((1048576 : Int) < (len : Int)))) ∧ w = w' := by
  go_enter Tryd.func6, Tryd.ntmps6
  go_wp2
  go_ret
  exact ⟨rfl, rfl⟩

/-- What the parse of a formatted number answers. -/
theorem pres_itoa {m k : Int} {fine : Bool} (h : YtfkaohgbjiphbaaDoor.Num.PRes (Lib.itoa m) k fine) :
    (0 ≤ m ∧ m ≤ 1000000000000 → fine = true ∧ k = m) ∧ (¬ (0 ≤ m ∧ m ≤ 1000000000000) → fine = false) := by
  by_cases hm : 0 ≤ m
  · obtain ⟨u, rfl⟩ : ∃ u : Nat, m = u := ⟨m.toNat, by omega⟩
    rw [Lib.itoa_nonneg] at h
    rcases h with ⟨rfl, n, hn, e, rfl⟩ | ⟨rfl, rfl, hn⟩
    · have := YtfkaohgbjiphbaaDoor.Num.digits_inj e
      subst this
      exact ⟨fun _ => ⟨rfl, rfl⟩, fun h => absurd ⟨by omega, by omega⟩ h⟩
    · exact ⟨fun h => absurd rfl (hn u (by omega)), fun _ => rfl⟩
  · obtain ⟨u, rfl⟩ : ∃ u : Nat, m = -(u : Int) := ⟨m.natAbs, by omega⟩
    rw [Lib.itoa_neg u (by omega)] at h
    refine ⟨fun h => by omega, fun _ => ?_⟩
    rcases h with ⟨rfl, n, hn, e, rfl⟩ | ⟨rfl, rfl, hn⟩
    · have := YtfkaohgbjiphbaaDoor.Num.digits_all n 45 (by rw [e]; simp)
      simp at this
    · rfl
theorem cdiv_out {a b : Int} (h : ¬ (0 ≤ a ∧ a ≤ 1000000000000 ∧ 1 ≤ b ∧ b ≤ 1000000000000)) : Arith.cdiv a b = 0 := by
  unfold Arith.cdiv Arith.inR
  rw [if_neg]
  simp; omega
theorem cdiv_in {a b : Int} (h0 : 0 ≤ a) (h1 : a ≤ 1000000000000) (h2 : 1 ≤ b) (h3 : b ≤ 1000000000000) : 0 ≤ Arith.cdiv a b ∧ Arith.cdiv a b ≤ 2000000000000 ∧ a ≤ Arith.cdiv a b * b ∧ Arith.cdiv a b * b < a + b := by
  have e : Arith.cdiv a b = (a + b - 1) / b := by
    unfold Arith.cdiv Arith.inR
    rw [if_pos]
    simp; omega
  rw [e]
  have d1 := Int.emod_nonneg (a + b - 1) (show b ≠ 0 by omega)
  have d2 := Int.emod_lt_of_pos (a + b - 1) (show 0 < b by omega)
  have d3 := Int.mul_ediv_add_emod (a + b - 1) b
  have d4 : (a + b - 1) / b * b = b * ((a + b - 1) / b) := Int.mul_comm _ _
  have d5 : 0 ≤ (a + b - 1) / b := Int.ediv_nonneg (by omega) (by omega)
  have d6 : (a + b - 1) / b ≤ a + b - 1 := Int.ediv_le_self _ (by omega)
  omega
theorem modOf_out {a b : Int} (h : ¬ (1 ≤ b ∧ b ≤ 1000000000000)) : Arith.modOf a b = 0 := by
  unfold Arith.modOf Arith.inR
  rw [if_neg]
  simp; omega
theorem modOf_in {a b : Int} (h2 : 1 ≤ b) (h3 : b ≤ 1000000000000) : 0 ≤ Arith.modOf a b ∧ Arith.modOf a b < b ∧ (a.tmod b - Arith.modOf a b).tmod b = 0 ∧ (0 ≤ a → a % b = Arith.modOf a b) := by
  have e : Arith.modOf a b = a % b := by
    unfold Arith.modOf Arith.inR
    rw [if_pos]
    simp; omega
  rw [e]
  refine ⟨Int.emod_nonneg _ (by omega), Int.emod_lt_of_pos _ (by omega), ?_, fun _ => rfl⟩
  have h1 := Int.tmod_add_mul_tdiv a b
  have h4 := Int.mul_ediv_add_emod a b
  have e2 : a.tmod b - a % b = b * (a / b - a.tdiv b) := by rw [Int.mul_sub]; omega
  rw [e2]
  exact Int.mul_tmod_right _ _
end Go.Proofs.YtfkaohgbjiphbaaDoor.Draw
