/- Contracts of the program's sets of places: a place put in, the places in order. -/
import Derived.Test.YtbibkjponadipaaDoorPcb
import Derived.IntWalk
import Derived.WalkKit
import Derived.OwnWalk
namespace Go.Proofs.YtbibkjponadipaaDoor.Pc
open Go.RowKit Kit Rw

theorem info_int : (Tryd.prog.info? 3).map (fun i => (i.zero, i.size, i.bytes)) = some (some (.int .i64 0), 1, 8) := by kernel_rfl
/-- The library's table, as its initialiser lays it. -/
def Tab (w : World) : Prop := ∀ j, j < 64 → w.cell? ⟨0, j, none⟩ = some (.int .u8 ((Lib.deBruijn64tab.getD j 0 : Nat) : Int))
theorem Tab.grown {w w' : World} (h : Tab w) (hg : w.grownBy w' none) : Tab w' := fun j hj => hg.cell (h j hj) (fun e => by cases e)

set_option maxHeartbeats 1000000 in
theorem tz_core (x k idx : Nat) (w : World) (hx0 : ((x : Int) == 0) = false)
    (key : IntKind.u64.wrap (bits BinOp.and IntKind.u64 (x : Int) (IntKind.u64.wrap (-(x : Int))) * 285870213051353865) / 288230376151711744 = (idx : Int))
    (hi : idx < 64) (hk : k < 64) (hcell : w.cell? ⟨0, idx, none⟩ = some (.int .u8 k)) :
    Calls Tryd.prog 42 #[.int .u64 x] w fun e w' => e = .returned (.int .i64 k) ∧ w = w' := by
  go_enter Tryd.func42, Tryd.ntmps42
  go_wp2_with (simp only [key])
  go_ret
  exact ⟨rfl, rfl⟩
theorem tz_key (x a : Nat) (hx : x < 18446744073709551616) (hx0 : x ≠ 0) (hlow : x &&& (18446744073709551616 - x) = a) :
    IntKind.u64.wrap (bits BinOp.and IntKind.u64 (x : Int) (IntKind.u64.wrap (-(x : Int))) * 285870213051353865) / 288230376151711744 = ((a * 285870213051353865 % 18446744073709551616 / 288230376151711744 : Nat) : Int) := by
  have e1 : IntKind.u64.wrap (-(x : Int)) = ((18446744073709551616 - x : Nat) : Int) := by rw [IntKind.wrap_u64]; omega
  rw [e1, bits_and_u64_nat x _ hx (by omega), hlow, IntKind.wrap_u64]
  omega
theorem tz_any (w : World) (x : Nat) (hx0 : x ≠ 0) (hx : x < 18446744073709551616) (hT : Tab w) :
    Calls Tryd.prog 42 #[.int .u64 (x : Int)] w fun e w' => e = .returned (.int .i64 ((Lib.ctz 64 x : Nat) : Int)) ∧ w = w' := by
  obtain ⟨hlow, hk⟩ := Lib.lowest_bit 64 x hx0 hx
  obtain ⟨hi, htab⟩ := Lib.deBruijn64_at _ hk
  have hcell := hT _ hi
  rw [htab] at hcell
  exact tz_core x _ _ w (by simp; omega) (tz_key x _ hx hx0 hlow) hi hk hcell
set_option maxRecDepth 20000 in
set_option maxHeartbeats 2000000 in
theorem with_any (w : World) (p n : Nat) (hp : p < 2 ^ 64) (hn : n < 64) :
    Calls Tryd.prog 41 #[.int .u64 (p : Int), .int .i64 (n : Int)] w fun e w' => e = .returned (.int .u64 ((p ||| 2 ^ n : Nat) : Int)) ∧ w = w' := by
  have h0 : (0 : Int) ≤ (n : Int) := by omega
  have h1 : (n : Int) ≤ 64 := by omega
  have hpow : 2 ^ n < 2 ^ 64 := Nat.pow_lt_pow_right (by decide) hn
  have e1 : IntKind.u64.wrap (2 ^ n) = ((2 ^ n : Nat) : Int) := by
    rw [show (2 : Int) ^ n = ((2 ^ n : Nat) : Int) by simp, wrap64, Nat.mod_eq_of_lt (by omega)]
  have e2 : bits .or .u64 (p : Int) (IntKind.u64.wrap (2 ^ n)) = ((p ||| 2 ^ n : Nat) : Int) := by rw [e1]; exact bits_or_u64_nat _ _ (by omega) (by omega)
  clear e1 hpow
  go_enter Tryd.func41, Tryd.ntmps41
  go_wp2_with fail
  go_ret
  exact ⟨rfl, rfl⟩
set_option maxRecDepth 20000 in
set_option maxHeartbeats 2000000 in
theorem cells_any (w : World) (p : Nat) (hp : p < 2 ^ 64) (hT : Tab w) :
    Calls Tryd.prog 33 #[.int .u64 (p : Int)] w fun e w' => ∃ u, e = .returned u ∧ Own .i64 3 w' w.heap.size u (els p) ∧ w.grownBy w' none := by
  obtain ⟨i0, hi, hz0, hz1, hz2⟩ := info_parts info_int
  have HT := Lib.hid hT
  have HP := Lib.hid hp
  have HO : Hid (Own .i64 3 (w.alloc (.cells #[] 3 (0, 0))) w.heap.size (.slice (some ⟨w.heap.size, 0, none⟩) 0 0) []) := own_empty w
  have HG := Lib.hid (World.grownBy_alloc w (.cells #[] 3 (0, 0)) none)
  clear hT hp
  go_enter Tryd.func33, Tryd.ntmps33
  go_wp2_with fail
  generalize w.alloc (.cells #[] 3 (0, 0)) = W2 at *
  go_loopw [3, 4] (fun u r wr => ∃ x : Nat, r = .int .u64 x ∧ Hid (x < 18446744073709551616) ∧ Hid (∃ A, A ++ els x = els p ∧ Own .i64 3 wr w.heap.size u A) ∧ Hid (w.grownBy wr none)) (fun _ r _ => (intOf r).toNat)
  case atStart => exact ⟨p, rfl, HP, ⟨[], rfl, HO.out⟩, HG⟩
  case round =>
    obtain ⟨x, rfl, HX, HA, HR⟩ := hrel
    by_cases h0 : x = 0
    · subst h0
      go_wp2
      go_ret
      obtain ⟨A, hA, hO⟩ := HA.out
      rw [els_zero, List.append_nil] at hA
      subst hA
      exact ⟨_, rfl, hO, HR.out⟩
    · obtain ⟨A, hA, hO⟩ := HA.out
      have hz : ((x : Int) == 0) = false := by simp; omega
      obtain ⟨hlow, hk⟩ := els_low h0 (show x < 2 ^ 64 from HX.out)
      have HTZ := Lib.hid fun w' hT => tz_any w' x h0 HX.out hT
      have HL : Hid (A.length ≤ 64) := by show _ ≤ _; have h1 := els_len p; rw [← hA, List.length_append] at h1; omega
      have HO1 := Lib.hid hO
      have HA2 : Hid ((A ++ [((Lib.ctz 64 x : Nat) : Int)]) ++ els (x &&& (x - 1)) = els p) := by show _ = _; rw [← hA, hlow, List.append_assoc]; rfl
      have hsub : IntKind.u64.wrap ((x : Int) - 1) = ((x - 1 : Nat) : Int) := by rw [IntKind.wrap_u64]; have := HX.out; omega
      have hand : bits .and .u64 (x : Int) ((x - 1 : Nat) : Int) = ((x &&& (x - 1) : Nat) : Int) := bits_and_u64_nat _ _ HX.out (by have := HX.out; omega)
      have HLT := Lib.hid (rest_lt h0)
      generalize Lib.ctz 64 x = k at *
      have HK := Lib.hid hk
      clear hA hO hlow HA h0 hk
      go_wp2_with fail
      refine (HTZ.out _ (HT.out.grown HR.out)).mono ?_
      rintro e w4 ⟨rfl, rfl⟩
      go_wp2_with (at_builtin; go_loud (refine wpList_append_one _ rfl _ _ 24 rfl w.heap.size 3 i0 (.int .i64 0) 8 Tryd.underlying24 hi hz0 hz1 hz2 rfl .i64 _ A rfl HO1.out (k : Int) rfl (i64_mk (by have := HK.out; omega)) (by have := HL.out; omega) (by decide) HR.out.size ?_); intro v4 w4 hown4 hgrow4; have HO6 := Lib.hid hown4; have HG6 : Hid (w.grownBy w4 none) := grown_new HR.out hgrow4 (fun c hc => (HO1.out.lt c hc).1); clear hown4 hgrow4)
      go_roundw
      case rel => exact ⟨x &&& (x - 1), by first | rfl | rw [hsub, hand] | (simp only [hsub, hand]), show _ < _ from Nat.lt_of_le_of_lt Nat.and_le_left HX.out, ⟨_, HA2.out, HO6.out⟩, HG6⟩
      case measure =>
        have h1 := HLT.out
        first | (rw [hsub, hand]; simp only [intOf]; omega) | (simp only [hsub, hand, intOf]; omega) | (simp only [intOf]; omega)
end Go.Proofs.YtbibkjponadipaaDoor.Pc
