/- The program's FormatInt gives the decimal numeral of every int. -/
import Derived.Test.YtoanhnklemlfmaaDoorUint
namespace Go.Proofs.YtoanhnklemlfmaaDoor.Fmt
open Go.Shelf Go.RowKit Go.Sort Go.Lib

set_option maxRecDepth 100000 in
theorem of_neg (n : Int) (h : n < 0) (w : World) :
    Calls Tryd.prog 107 #[.int .i64 n] w fun e w' => e = .returned (.iface 143 (.int .i64 n)) ∧ w = w' := by
  go_enter Tryd.func107, Tryd.ntmps107
  go_wp2
  go_ret
  exact ⟨rfl, rfl⟩
set_option maxRecDepth 100000 in
theorem of_pos (n : Int) (h : 0 ≤ n) (w : World) :
    Calls Tryd.prog 107 #[.int .i64 n] w fun e w' => e = .returned (.iface 164 (.int .i64 n)) ∧ w = w' := by
  go_enter Tryd.func107, Tryd.ntmps107
  go_wp2
  go_ret
  exact ⟨rfl, rfl⟩
theorem mag_neg (u : Nat) (h0 : 0 < u) (h1 : u ≤ 9223372036854775808) (w : World) :
    Calls Tryd.prog 176 #[.int .i64 (-(u : Int))] w fun e w' => e = .returned (.int .u64 u) ∧ w = w' := by
  go_enter Tryd.func176, Tryd.ntmps176
  go_wp2
  go_ret
  have e : IntKind.u64.wrap (-IntKind.u64.wrap (-(u : Int))) = (u : Int) := by rw [IntKind.wrap_u64, IntKind.wrap_u64]; omega
  exact ⟨congrArg (fun z => Ending.returned (.int .u64 z)) e, rfl⟩
theorem mag_pos (u : Nat) (h1 : u ≤ 9223372036854775807) (w : World) :
    Calls Tryd.prog 178 #[.int .i64 (u : Int)] w fun e w' => e = .returned (.int .u64 u) ∧ w = w' := by
  go_enter Tryd.func178, Tryd.ntmps178
  go_wp2
  go_ret
  exact ⟨rfl, rfl⟩
theorem meth_pos (v : Int) : ∀ w, (method 338 164 (.int .i64 v) "loop.example/g03008/impl.magnitude").run Tryd.prog w = .ok (178, .int .i64 v) w := fun _ => by kernel_rfl
theorem meth_neg (v : Int) : ∀ w, (method 338 143 (.int .i64 v) "loop.example/g03008/impl.magnitude").run Tryd.prog w = .ok (176, .int .i64 v) w := fun _ => by kernel_rfl
theorem asks_pos (v : Int) : ∀ w, (Instr.typeAssert (.iface 164 (.int .i64 v)) 138 143 true).run Tryd.prog w = .ok (.tuple #[.int .i64 0, .bool false]) w := fun _ => by kernel_rfl
theorem asks_neg (v : Int) : ∀ w, (Instr.typeAssert (.iface 143 (.int .i64 v)) 138 143 true).run Tryd.prog w = .ok (.tuple #[.int .i64 v, .bool true]) w := fun _ => by kernel_rfl
theorem add_sign (W : World) (l : List UInt8) (hl : l.length ≤ 20) :
    (Op.stringOp .add ⟨#[45]⟩ ⟨l.toArray⟩).run Tryd.prog W = .ok (.string ⟨(45 :: l).toArray⟩) W :=
  run_string_add_lists W [45] l (by simp) (by omega)
theorem digits_len (u : Nat) (h : u < 18446744073709551616) : (Lib.decDigits u).length ≤ 20 := by
  rw [Lib.decDigits_length]
  by_cases h1 : 1 ≤ u
  · have := Lib.numDigits_eq u h1 h; split at this <;> omega
  · have e : u = 0 := by omega
    subst e; rw [Lib.nDigits, dif_pos (by omega)]; omega
set_option maxRecDepth 100000 in
set_option maxHeartbeats 1000000 in
theorem impl_pos (u : Nat) (h1 : u ≤ 9223372036854775807) (w : World) (htab : Pow10 w) :
    Calls Tryd.prog 60 #[.int .i64 (u : Int)] w fun e w' => e = .returned (.string ⟨(Lib.decDigits u).toArray⟩) ∧ ∃ k os, w' = grow (w.drewN k) os := by
  have HT := Lib.hid htab
  clear htab
  have hm := meth_pos u
  have ha := asks_pos u
  go_enter Tryd.func60, Tryd.ntmps60
  go_wp2_with (first | (go_at_call 107; refine (of_pos _ (by omega) _).mono ?_; rintro e w' ⟨rfl, rfl⟩) | (go_at_call 178; refine (mag_pos _ (by omega) _).mono ?_; rintro e w' ⟨rfl, rfl⟩) | (go_at_call 108; refine (uint_any u (by omega) _ HT.out).mono ?_; rintro e w' ⟨rfl, k, os, rfl⟩))
  go_ret
  exact ⟨rfl, k, os, rfl⟩
set_option maxRecDepth 100000 in
set_option maxHeartbeats 1000000 in
theorem impl_neg (u : Nat) (h0 : 0 < u) (h1 : u ≤ 9223372036854775808) (w : World) (htab : Pow10 w) :
    Calls Tryd.prog 60 #[.int .i64 (-(u : Int))] w fun e w' => e = .returned (.string ⟨(45 :: Lib.decDigits u).toArray⟩) ∧ ∃ k os, w' = grow (w.drewN k) os := by
  have HT := Lib.hid htab
  clear htab
  have hm := meth_neg (-(u : Int))
  have ha := asks_neg (-(u : Int))
  have hadd := fun W => add_sign W (Lib.decDigits u) (digits_len u (by omega))
  go_enter Tryd.func60, Tryd.ntmps60
  go_wp2_with (first | (go_at_call 107; refine (of_neg _ (by omega) _).mono ?_; rintro e w' ⟨rfl, rfl⟩) | (go_at_call 176; refine (mag_neg _ (by omega) (by omega) _).mono ?_; rintro e w' ⟨rfl, rfl⟩) | (go_at_call 108; refine (uint_any u (by omega) _ HT.out).mono ?_; rintro e w' ⟨rfl, k, os, rfl⟩))
  go_ret
  exact ⟨by simp, k, os, rfl⟩

theorem below_more (w : World) (k : Nat) (os : Array Obj) : Below w.heap.size w (grow (w.drewN k) os) :=
  ⟨rfl, rfl, rfl, by simp [grow, World.drewN], fun i hi => by
    show (w.heap ++ os)[i]? = _
    rw [Array.getElem?_append_left hi]⟩

theorem impl_any (n : Int) (h0 : -9223372036854775808 ≤ n) (h1 : n ≤ 9223372036854775807) (w : World) (htab : Pow10 w) :
    Calls Tryd.prog 60 #[.int .i64 n] w fun e w' => e = .returned (.string ⟨(Lib.itoa n).toArray⟩) ∧ Below w.heap.size w w' := by
  by_cases hn : n < 0
  · obtain ⟨u, rfl⟩ : ∃ u : Nat, n = -(u : Int) := ⟨n.natAbs, by omega⟩
    rw [Lib.itoa_neg u (by omega)]
    refine (impl_neg u (by omega) (by omega) w htab).mono ?_
    rintro e w' ⟨rfl, k, os, rfl⟩
    exact ⟨rfl, below_more _ _ _⟩
  · obtain ⟨u, rfl⟩ : ∃ u : Nat, n = (u : Int) := ⟨n.toNat, by omega⟩
    rw [Lib.itoa_nonneg u]
    refine (impl_pos u (by omega) w htab).mono ?_
    rintro e w' ⟨rfl, k, os, rfl⟩
    exact ⟨rfl, below_more _ _ _⟩

/-- The table outlives whatever is laid behind it. -/
theorem Pow10.below {w w' : World} {B : Nat} (h : Pow10 w) (hb : Below B w w') (hB : w.heap.size ≤ B) : Pow10 w' := by
  unfold Pow10 Lib.TabIs World.var? at h ⊢
  rw [show Tryd.prog.globalNamed "internal/strconv.uint64pow10" = some 1 by kernel_rfl] at h ⊢
  simp only [Option.bind_some] at h ⊢
  by_cases hlt : 1 < w.heap.size
  · rw [hb.block 1 (by omega)]; exact h
  · rw [Array.getElem?_eq_none (by omega)] at h; simp at h
end Go.Proofs.YtoanhnklemlfmaaDoor.Fmt
