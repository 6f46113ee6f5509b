/- Keys: the reason why a number is none, errors.Is against it, IsValidKey and DeriveFromString of the program and of the model. Where the package's error holds what its initialiser lays. -/
import Derived.Test.YtklbeeloppiknaaDoorHs
import Derived.Test.YtklbeeloppiknaaDoorBti
import Derived.LaidEql
import Derived.Stop.Asserts
import Derived.RowKitTokens
import Derived.Deep.QuietTactic
import Derived.BigQuiet
namespace Go.Proofs.YtklbeeloppiknaaDoor.Ky
open Go.RowKit Kit Rw Hs Md Bti Go.Extern.Stop Go.Stop Go.Extern

theorem isTypeOf (v : Value) (w : World) : (Extern.ReflectliteType.typeOf #[.iface 71 v]).run Tryd.prog w = .ok (.iface 60 (.agg #[.pointer (some ⟨1, 71, none⟩)])) w := by kernel_rfl
/-- The model's entry for 'Comparable'. -/
def cmpExt : Array Value → Sem Value := Extern.ReflectliteType.method fun t => do Extern.Rtype.noPackHeld "Comparable" t; pure (.bool (← typeInfo t).comparable)
theorem isComparable (w : World) : (cmpExt #[.agg #[.pointer (some ⟨1, 71, none⟩)]]).run Tryd.prog w = .ok (.bool true) w := by kernel_rfl
theorem isMethodComparable (v : Value) (w : World) : (Go.method 209 60 v "Comparable").run Tryd.prog w = .ok (56, v) w := by kernel_rfl
theorem isComp : (Tryd.prog.info? 71).map (·.comparable) = some true := by kernel_rfl
theorem isSize : (Tryd.prog.info? 97).map (·.size) = some 1 := by kernel_rfl

/-- errors.Is(x, x), x a pointer to an errors.errorString. -/
theorem is_same (a : Addr) (w : World) :
    Calls Tryd.prog 25 #[.iface 71 (.pointer (some a)), .iface 71 (.pointer (some a))] w fun e w' => e = .returned (.bool true) ∧ w' = w := by
  obtain ⟨i, hi, hcmp⟩ := Option.map_eq_some_iff.1 isComp
  obtain ⟨j, hj, hjs⟩ := Option.map_eq_some_iff.1 isSize
  have h8 := @run_callFunc_extern Tryd.prog 34 _ Extern.ReflectliteType.typeOf Tryd.func34 (by kernel_rfl) (by kernel_rfl) (by kernel_rfl) (by kernel_rfl)
  have h32 := @run_callFunc_extern Tryd.prog 56 _ cmpExt Tryd.func56 (by kernel_rfl) (by kernel_rfl) (by kernel_rfl) (by kernel_rfl)
  have tT := isTypeOf
  have cT := isComparable
  have mR := isMethodComparable
  have heq := run_eql_iface_ptr_same (P := Tryd.prog) w a Tryd.underlying45 Tryd.underlying71 hi hcmp hj
  go_enter Tryd.func25, Tryd.ntmps25
  go_wp2
  refine wp_loop_rounds 1 ?_
  rw [rounds_succ]
  go_wp2
  go_ret
  exact ⟨rfl, rfl⟩

/-- errors.Is(nil, x). -/
theorem is_nil (b : Addr) (w : World) :
    Calls Tryd.prog 25 #[.nilIface, .iface 71 (.pointer (some b))] w fun e w' => e = .returned (.bool false) ∧ w' = w := by
  have hn := run_eql_iface_nil_left (P := Tryd.prog) w 71 (.pointer (some b)) Tryd.underlying45
  go_enter Tryd.func25, Tryd.ntmps25
  go_wp2
  go_ret
  exact ⟨rfl, rfl⟩

/-- The package's error is the one at 'a'. -/
def Sent (a : Addr) (w : World) : Prop := w.cell? ⟨0, 0, none⟩ = some (.iface 71 (.pointer (some a)))
theorem Sent.on {a : Addr} {w w' : World} (h : Sent a w) (hg : w.grownBy w' none) : Sent a w' := hg.cell h (by simp)

theorem fault_yes (k : Int) (w : World) (h : 1 ≤ k ∧ k ≤ 2147483646) :
    Calls Tryd.prog 23 #[.int .i64 k] w fun e w' => e = .returned .nilIface ∧ w = w' := by
  have hd : decide (1 ≤ k ∧ k ≤ 2147483646) = true := by simpa using h
  go_enter Tryd.func23, Tryd.ntmps23
  go_wp2_with (go_at_call 33; refine (inRange_any _ _ _ _).mono ?_; rintro e w' ⟨rfl, rfl⟩)
  go_ret
  exact ⟨rfl, rfl⟩
theorem fault_no (k : Int) (w : World) (a : Addr) (hs : Sent a w) (h : ¬ (1 ≤ k ∧ k ≤ 2147483646)) :
    Calls Tryd.prog 23 #[.int .i64 k] w fun e w' => e = .returned (.iface 71 (.pointer (some a))) ∧ w = w' := by
  have hd : decide (1 ≤ k ∧ k ≤ 2147483646) = false := by simpa using h
  unfold Sent at hs
  go_enter Tryd.func23, Tryd.ntmps23
  go_wp2_with (go_at_call 33; refine (inRange_any _ _ _ _).mono ?_; rintro e w' ⟨rfl, rfl⟩)
  go_ret
  exact ⟨rfl, rfl⟩

theorem valid_any (k : Int) (w : World) (a : Addr) (hs : Sent a w) :
    Calls Tryd.prog 13 #[.int .i64 k] w fun e w' => e = .returned (.bool (decide (1 ≤ k ∧ k ≤ 2147483646))) ∧ w = w' := by
  by_cases h : 1 ≤ k ∧ k ≤ 2147483646
  · have hd := decide_eq_true h
    rw [hd]
    go_enter Tryd.func13, Tryd.ntmps13
    go_wp2_with (go_at_call 23; refine (fault_yes _ _ h).mono ?_; rintro e w' ⟨rfl, rfl⟩)
    go_ret
    exact ⟨rfl, rfl⟩
  · have hd := decide_eq_false h
    rw [hd]
    have HS := Lib.hid hs
    clear hs
    go_enter Tryd.func13, Tryd.ntmps13
    go_wp2_with (go_at_call 23; refine (fault_no _ _ a HS.out h).mono ?_; rintro e w' ⟨rfl, rfl⟩)
    go_ret
    exact ⟨rfl, rfl⟩
theorem sValid_any (k : Int) (w : World) :
    Calls Tryd.prog 15 #[.int .i64 k] w fun e w' => e = .returned (.bool (decide (1 ≤ k ∧ k ≤ 2147483646))) ∧ w = w' := by
  go_enter Tryd.func15, Tryd.ntmps15
  go_wp2_with (go_at_call 21; refine (l1In_any _ _ _ _).mono ?_; rintro e w' ⟨rfl, rfl⟩)
  go_ret
  exact ⟨ret_bool (by simp), rfl⟩
end Go.Proofs.YtklbeeloppiknaaDoor.Ky
