/- The program's FormatInt gives the decimal numeral of every int. The model's FormatInt gives the decimal numeral of every int. -/
import Derived.Test.YtoanhnklemlfmaaDoorG26
import Derived.Test.YtoanhnklemlfmaaDoorRows
import Derived.WalkKit
import Derived.Lib.ItoaMem
import Derived.Lib.Walk
import Derived.Lib.Hide
import Derived.Below
namespace Go.Proofs.YtoanhnklemlfmaaDoor.Fmt
open Go.Shelf Go.RowKit Go.Sort Go.Lib

set_option maxRecDepth 100000 in
theorem of_neg (n : Int) (h : n < 0) (w : World) :
    Calls Tryd.prog 107 #[.int .i64 n] w fun e w' => e = .returned (.iface 143 (.int .i64 n)) ∧ w = w' := by
  go_enter Tryd.func107, Tryd.ntmps107
  go_wp2
  go_ret
  exact ⟨rfl, rfl⟩
set_option maxRecDepth 100000 in
theorem of_pos (n : Int) (h : 0 ≤ n) (w : World) :
    Calls Tryd.prog 107 #[.int .i64 n] w fun e w' => e = .returned (.iface 164 (.int .i64 n)) ∧ w = w' := by
  go_enter Tryd.func107, Tryd.ntmps107
  go_wp2
  go_ret
  exact ⟨rfl, rfl⟩
theorem mag_neg (u : Nat) (h0 : 0 < u) (h1 : u ≤ 9223372036854775808) (w : World) :
    Calls Tryd.prog 176 #[.int .i64 (-(u : Int))] w fun e w' => e = .returned (.int .u64 u) ∧ w = w' := by
  go_enter Tryd.func176, Tryd.ntmps176
  go_wp2
  go_ret
  have e : IntKind.u64.wrap (-IntKind.u64.wrap (-(u : Int))) = (u : Int) := by rw [IntKind.wrap_u64, IntKind.wrap_u64]; omega
  exact ⟨congrArg (fun z => Ending.returned (.int .u64 z)) e, rfl⟩
theorem mag_pos (u : Nat) (h1 : u ≤ 9223372036854775807) (w : World) :
    Calls Tryd.prog 178 #[.int .i64 (u : Int)] w fun e w' => e = .returned (.int .u64 u) ∧ w = w' := by
  go_enter Tryd.func178, Tryd.ntmps178
  go_wp2
  go_ret
  exact ⟨rfl, rfl⟩
theorem meth_pos (v : Int) : ∀ w, (method 338 164 (.int .i64 v) "loop.example/g03008/impl.magnitude").run Tryd.prog w = .ok (178, .int .i64 v) w := fun _ => by kernel_rfl
theorem meth_neg (v : Int) : ∀ w, (method 338 143 (.int .i64 v) "loop.example/g03008/impl.magnitude").run Tryd.prog w = .ok (176, .int .i64 v) w := fun _ => by kernel_rfl
theorem asks_pos (v : Int) : ∀ w, (Instr.typeAssert (.iface 164 (.int .i64 v)) 138 143 true).run Tryd.prog w = .ok (.tuple #[.int .i64 0, .bool false]) w := fun _ => by kernel_rfl
theorem asks_neg (v : Int) : ∀ w, (Instr.typeAssert (.iface 143 (.int .i64 v)) 138 143 true).run Tryd.prog w = .ok (.tuple #[.int .i64 v, .bool true]) w := fun _ => by kernel_rfl
theorem add_sign (W : World) (l : List UInt8) (hl : l.length ≤ 20) :
    (Op.stringOp .add ⟨#[45]⟩ ⟨l.toArray⟩).run Tryd.prog W = .ok (.string ⟨(45 :: l).toArray⟩) W :=
  run_string_add_lists W [45] l (by simp) (by omega)
theorem digits_len (u : Nat) (h : u < 18446744073709551616) : (Lib.decDigits u).length ≤ 20 := by
  rw [Lib.decDigits_length]
  by_cases h1 : 1 ≤ u
  · have := Lib.numDigits_eq u h1 h; split at this <;> omega
  · have e : u = 0 := by omega
    subst e; rw [Lib.nDigits, dif_pos (by omega)]; omega
set_option maxRecDepth 100000 in
set_option maxHeartbeats 1000000 in
theorem impl_pos (u : Nat) (h1 : u ≤ 9223372036854775807) (w : World) (htab : Pow10 w) :
    Calls Tryd.prog 60 #[.int .i64 (u : Int)] w fun e w' => e = .returned (.string ⟨(Lib.decDigits u).toArray⟩) ∧ ∃ k os, w' = grow (w.drewN k) os := by
  have HT := Lib.hid htab
  clear htab
  have hm := meth_pos u
  have ha := asks_pos u
  go_enter Tryd.func60, Tryd.ntmps60
  go_wp2_with (first | (go_at_call 107; refine (of_pos _ (by omega) _).mono ?_; rintro e w' ⟨rfl, rfl⟩) | (go_at_call 178; refine (mag_pos _ (by omega) _).mono ?_; rintro e w' ⟨rfl, rfl⟩) | (go_at_call 108; refine (uint_any u (by omega) _ HT.out).mono ?_; rintro e w' ⟨rfl, k, os, rfl⟩))
  go_ret
  exact ⟨rfl, k, os, rfl⟩
set_option maxRecDepth 100000 in
set_option maxHeartbeats 1000000 in
theorem impl_neg (u : Nat) (h0 : 0 < u) (h1 : u ≤ 9223372036854775808) (w : World) (htab : Pow10 w) :
    Calls Tryd.prog 60 #[.int .i64 (-(u : Int))] w fun e w' => e = .returned (.string ⟨(45 :: Lib.decDigits u).toArray⟩) ∧ ∃ k os, w' = grow (w.drewN k) os := by
  have HT := Lib.hid htab
  clear htab
  have hm := meth_neg (-(u : Int))
  have ha := asks_neg (-(u : Int))
  have hadd := fun W => add_sign W (Lib.decDigits u) (digits_len u (by omega))
  go_enter Tryd.func60, Tryd.ntmps60
  go_wp2_with (first | (go_at_call 107; refine (of_neg _ (by omega) _).mono ?_; rintro e w' ⟨rfl, rfl⟩) | (go_at_call 176; refine (mag_neg _ (by omega) (by omega) _).mono ?_; rintro e w' ⟨rfl, rfl⟩) | (go_at_call 108; refine (uint_any u (by omega) _ HT.out).mono ?_; rintro e w' ⟨rfl, k, os, rfl⟩))
  go_ret
  exact ⟨by simp, k, os, rfl⟩

theorem below_more (w : World) (k : Nat) (os : Array Obj) : Below w.heap.size w (grow (w.drewN k) os) :=
  ⟨rfl, rfl, rfl, by simp [grow, World.drewN], fun i hi => by
    show (w.heap ++ os)[i]? = _
    rw [Array.getElem?_append_left hi]⟩

theorem impl_any (n : Int) (h0 : -9223372036854775808 ≤ n) (h1 : n ≤ 9223372036854775807) (w : World) (htab : Pow10 w) :
    Calls Tryd.prog 60 #[.int .i64 n] w fun e w' => e = .returned (.string ⟨(Lib.itoa n).toArray⟩) ∧ Below w.heap.size w w' := by
  by_cases hn : n < 0
  · obtain ⟨u, rfl⟩ : ∃ u : Nat, n = -(u : Int) := ⟨n.natAbs, by omega⟩
    rw [Lib.itoa_neg u (by omega)]
    refine (impl_neg u (by omega) (by omega) w htab).mono ?_
    rintro e w' ⟨rfl, k, os, rfl⟩
    exact ⟨rfl, below_more _ _ _⟩
  · obtain ⟨u, rfl⟩ : ∃ u : Nat, n = (u : Int) := ⟨n.toNat, by omega⟩
    rw [Lib.itoa_nonneg u]
    refine (impl_pos u (by omega) w htab).mono ?_
    rintro e w' ⟨rfl, k, os, rfl⟩
    exact ⟨rfl, below_more _ _ _⟩

/-- The table outlives whatever is laid behind it. -/
theorem Pow10.below {w w' : World} {B : Nat} (h : Pow10 w) (hb : Below B w w') (hB : w.heap.size ≤ B) : Pow10 w' := by
  unfold Pow10 Lib.TabIs World.var? at h ⊢
  rw [show Tryd.prog.globalNamed "internal/strconv.uint64pow10" = some 1 by kernel_rfl] at h ⊢
  simp only [Option.bind_some] at h ⊢
  by_cases hlt : 1 < w.heap.size
  · rw [hb.block 1 (by omega)]; exact h
  · rw [Array.getElem?_eq_none (by omega)] at h; simp at h
end Go.Proofs.YtoanhnklemlfmaaDoor.Fmt

namespace Go.Proofs.YtoanhnklemlfmaaDoor.Fmt
open Go.RowKit

/-- 'l' holds the digits of m that stand behind those of u. -/
def Rest (m u : Nat) (l : List UInt8) : Prop := if u = 0 then l = Lib.decDigits m else Lib.decDigits u ++ l = Lib.decDigits m

/-- The last digit of u, as a byte. -/
def digB (u : Nat) : UInt8 := UInt8.ofNat (48 + u % 10)

theorem rest_step {m u : Nat} {l : List UInt8} (h : Rest m u l) (hu : 0 < u) : Rest m (u / 10) (digB u :: l) := by
  unfold Rest at *
  rw [if_neg (by omega)] at h
  by_cases hz : u < 10
  · rw [if_pos (by omega), ← h, Lib.decDigits_one hz, digB, Nat.mod_eq_of_lt hz]; rfl
  · rw [if_neg (by omega), ← h]
    conv => rhs; rw [Lib.decDigits, dif_neg hz]
    simp [digB]
theorem rest_start (m : Nat) (h : 0 < m) : Rest m m [] := by
  unfold Rest; rw [if_neg (by omega), List.append_nil]
theorem rest_end {m : Nat} {l : List UInt8} (h : Rest m 0 l) : l = Lib.decDigits m := by simpa [Rest] using h
theorem nDigits_lt : ∀ (k m : Nat), m < 10 ^ k → Lib.nDigits m ≤ k + 1 := by
  intro k
  induction k with
  | zero => intro m h; rw [Lib.nDigits, dif_pos (by omega)]; omega
  | succ k ih =>
    intro m h
    by_cases hz : m < 10
    · rw [Lib.nDigits, dif_pos hz]; omega
    · rw [Lib.nDigits, dif_neg hz]
      have := ih (m / 10) (by rw [Nat.pow_succ] at h; omega)
      omega
theorem rest_len {m u : Nat} {l : List UInt8} (h : Rest m u l) (hm : (m : Int) ≤ 9223372036854775808) : l.length ≤ 20 := by
  have h1 : (Lib.decDigits m).length ≤ 20 := by
    rw [Lib.decDigits_length]
    exact nDigits_lt 19 m (by omega)
  unfold Rest at h
  split at h
  · rw [h]; exact h1
  · rw [← h, List.length_append] at h1; omega

theorem conv_digit (W : World) (u : Nat) :
    (convert 131 9 (.slice (some ⟨W.heap.size, 0, none⟩) 1 1)).run Tryd.prog (W.alloc (.cells #[.int .u8 (48 + (u : Int) % 10)] 5))
      = .ok (.string ⟨#[digB u]⟩) (W.alloc (.cells #[.int .u8 (48 + (u : Int) % 10)] 5)) := by
  have h := run_convert_bytes_back (P := Tryd.prog) (W.alloc (.cells #[.int .u8 (48 + (u : Int) % 10)] 5)) 131 9 5 ⟨W.heap.size, 0, none⟩ 1 [digB u] Tryd.underlying131 Tryd.underlying5 Tryd.underlying9 (fun j hj => by
    obtain rfl : j = 0 := by simpa using hj
    have e : (((digB u).toNat : Nat) : Int) = 48 + (u : Int) % 10 := by
      unfold digB
      rw [UInt8.toNat_ofNat_of_lt' (show 48 + u % 10 < 256 by omega)]; omega
    show _ = some (Value.int .u8 (((digB u).toNat : Nat) : Int))
    rw [e]
    go_simp)
  exact h

theorem add_digit (W : World) (c : UInt8) (l : List UInt8) (hl : l.length ≤ 20) :
    (Op.stringOp .add ⟨#[c]⟩ ⟨l.toArray⟩).run Tryd.prog W = .ok (.string ⟨(c :: l).toArray⟩) W :=
  run_string_add_lists W [c] l (by simp) (by omega)

set_option maxRecDepth 100000 in
set_option maxHeartbeats 400000 in
set_option maxRecDepth 100000 in
theorem spec_pos (m : Nat) (h0 : 0 < m) (h1 : (m : Int) ≤ 9223372036854775807) (w : World) :
    Calls Tryd.prog 57 #[.int .i64 m] w fun e w' => e = .returned (.string ⟨(Lib.decDigits m).toArray⟩) ∧ Below w.heap.size w w' := by
  go_enter Tryd.func57, Tryd.ntmps57
  go_wp2
  go_loopw [3, 4] (fun s x wr => ∃ (u : Nat) (l : List UInt8), u ≤ m ∧ x = .int .i64 u ∧ s = .string ⟨l.toArray⟩ ∧ Hid (Rest m u l) ∧ Below w.heap.size w wr) (fun _ x _ => (intOf x).toNat)
  case atStart => exact ⟨m, [], by omega, rfl, rfl, rest_start m h0, Below.refl _ _⟩
  case round =>
    obtain ⟨u, l, hu, rfl, rfl, HR, hg⟩ := hrel
    by_cases hz : 0 < u
    · have hl := rest_len HR.out (by omega)
      have hcv := conv_digit wr u
      have hadd := fun W => add_digit W (digB u) l hl
      have HS : Hid (Rest m (u / 10) (digB u :: l)) := rest_step HR.out hz
      go_wp2
      go_roundw
      case rel => exact ⟨u / 10, digB u :: l, by omega, by go_num, by simp, HS, hg.alloc hg.size _⟩
      case measure => simp [intOf]; omega
    · obtain rfl : u = 0 := by omega
      obtain rfl := rest_end HR.out
      go_wp2
      go_ret
      exact ⟨rfl, hg⟩

theorem conv_zero (W : World) (u : Nat) (h : u % 10 = 0) :
    (convert 131 9 (.slice (some ⟨W.heap.size, 0, none⟩) 1 1)).run Tryd.prog (W.alloc (.cells #[.int .u8 48] 5))
      = .ok (.string ⟨#[digB u]⟩) (W.alloc (.cells #[.int .u8 48] 5)) := by
  have g := conv_digit W u
  rw [show (48 + (u : Int) % 10) = 48 by omega] at g
  exact g
theorem tmod_neg (u : Nat) : (-(u : Int)).tmod 10 = -((u : Int) % 10) := by
  rw [Int.neg_tmod, Int.tmod_eq_emod_of_nonneg (by omega)]
theorem tdiv_neg (u : Nat) : (-(u : Int)).tdiv 10 = -((u : Int) / 10) := by
  rw [Int.neg_tdiv, Int.tdiv_eq_ediv_of_nonneg (by omega)]
theorem tmod_zero (u : Nat) (h : u % 10 = 0) : (-(u : Int)).tmod 10 = 0 := by
  rw [tmod_neg]; omega

theorem add_minus (W : World) (l : List UInt8) (hl : l.length ≤ 20) :
    (Op.stringOp .add ⟨#[45]⟩ ⟨l.toArray⟩).run Tryd.prog W = .ok (.string ⟨(45 :: l).toArray⟩) W :=
  run_string_add_lists W [45] l (by simp) (by omega)

set_option maxRecDepth 100000 in
set_option maxHeartbeats 400000 in
set_option maxRecDepth 100000 in
theorem spec_neg (m : Nat) (h0 : 0 < m) (h1 : (m : Int) ≤ 9223372036854775808) (w : World) :
    Calls Tryd.prog 57 #[.int .i64 (-(m : Int))] w fun e w' => e = .returned (.string ⟨(45 :: Lib.decDigits m).toArray⟩) ∧ Below w.heap.size w w' := by
  go_enter Tryd.func57, Tryd.ntmps57
  go_wp2
  go_loopw [3, 4] (fun s x wr => ∃ (u : Nat) (l : List UInt8), u ≤ m ∧ x = .int .i64 (-(u : Int)) ∧ s = .string ⟨l.toArray⟩ ∧ Hid (Rest m u l) ∧ Below w.heap.size w wr) (fun _ x _ => (intOf x).natAbs)
  case atStart => exact ⟨m, [], by omega, rfl, rfl, rest_start m h0, Below.refl _ _⟩
  case round =>
    obtain ⟨u, l, hu, rfl, rfl, HR, hg⟩ := hrel
    by_cases hz : 0 < u
    · have hl := rest_len HR.out h1
      have hadd := fun W => add_digit W (digB u) l hl
      have HS : Hid (Rest m (u / 10) (digB u :: l)) := rest_step HR.out hz
      have hdv := tdiv_neg u
      by_cases hd : u % 10 = 0
      · have hcv := conv_zero wr u hd
        have hmd := tmod_zero u hd
        clear hd
        go_wp2
        go_roundw
        case rel => exact ⟨u / 10, digB u :: l, by omega, by go_num, by simp, HS, hg.alloc hg.size _⟩
        case measure => simp [intOf]; omega
      · have hcv := conv_digit wr u
        have hmd := tmod_neg u
        go_wp2
        go_roundw
        case rel => exact ⟨u / 10, digB u :: l, by omega, by go_num, by simp, HS, hg.alloc hg.size _⟩
        case measure => simp [intOf]; omega
    · obtain rfl : u = 0 := by omega
      have hl := rest_len HR.out h1
      obtain rfl := rest_end HR.out
      have hadd := fun W => add_minus W (Lib.decDigits m) hl
      go_wp2
      go_ret
      exact ⟨by simp, hg⟩

theorem spec_zero (w : World) :
    Calls Tryd.prog 57 #[.int .i64 0] w fun e w' => e = .returned (.string ⟨(Lib.decDigits 0).toArray⟩) ∧ Below w.heap.size w w' := by
  go_enter Tryd.func57, Tryd.ntmps57
  go_wp2
  go_ret
  exact ⟨by rw [Lib.decDigits_one (by omega)]; rfl, Below.refl _ _⟩

theorem spec_any (n : Int) (h0 : -9223372036854775808 ≤ n) (h1 : n ≤ 9223372036854775807) (w : World) :
    Calls Tryd.prog 57 #[.int .i64 n] w fun e w' => e = .returned (.string ⟨(Lib.itoa n).toArray⟩) ∧ Below w.heap.size w w' := by
  by_cases hn : n < 0
  · obtain ⟨u, rfl⟩ : ∃ u : Nat, n = -(u : Int) := ⟨n.natAbs, by omega⟩
    rw [Lib.itoa_neg u (by omega)]
    exact spec_neg u (by omega) (by omega) w
  · obtain ⟨u, rfl⟩ : ∃ u : Nat, n = (u : Int) := ⟨n.toNat, by omega⟩
    rw [Lib.itoa_nonneg u]
    by_cases hz : u = 0
    · subst hz; exact spec_zero w
    · exact spec_pos u (by omega) (by omega) w
end Go.Proofs.YtoanhnklemlfmaaDoor.Fmt
