/- Contracts of the draws of byte strings: a cursor hands out rows of the call's own. -/
import Derived.Test.YtbpmbbmgmpdhnaaNew
import Derived.Test.YtbpmbbmgmpdhnaaDrawG
namespace Go.Proofs.Ytbpmbbmgmpdhnaa.Draw
open Go.RowKit Kit Rw Inf

/-- How a draw of a byte string ends: a row of the call's own. -/
def DrawnR (c : Nat) (w : World) (P : List Int → Prop) (e : Ending) (w' : World) : Prop :=
  ∃ u L, P L ∧ e = .returned u ∧ Own .u8 5 w' w.heap.size u L ∧ Cur w' c ∧ w.grownBy w' (some c)

set_option maxRecDepth 20000 in
set_option maxHeartbeats 1000000 in
theorem bytes_any (n : Int) (hn : 0 ≤ n ∧ n ≤ 1000000) (w : World) (c : Nat) (hc : Cur w c) :
    Calls Try.prog 61 #[.pointer (some ⟨c, 0, none⟩), .int .i64 n] w (DrawnR c w fun L => (L.length : Int) = n) := by
  obtain ⟨n, rfl⟩ : ∃ q : Nat, n = q := ⟨n.toNat, by omega⟩
  have hlt0 := hc.lt
  have HC : Hid (Cur (w.alloc (.cells #[] 5 (0, 0))) c) := hc.kept_row (World.grownBy_alloc _ _ none) (fun _ h => by cases h)
  have HO := Lib.hid (own_empty (k := .u8) (E := 5) w)
  have HG := Lib.hid (World.grownBy_alloc w (.cells #[] 5 (0, 0)) (some c))
  clear hc
  obtain ⟨i0, hi, hz0, hz1, hz2⟩ := info_parts info_u8
  go_enter Try.func61, Try.ntmps61
  go_wp2
  go_loopw [5, 6] (fun u i wr => ∃ j : Nat, ∃ L : List Int, j ≤ n ∧ i = .int .i64 j ∧ L.length = j ∧ Hid (Own .u8 5 wr w.heap.size u L) ∧ Hid (Cur wr c) ∧ Hid (w.grownBy wr (some c)))
    (fun _ i _ => n - (intOf i).toNat)
  case atStart => exact ⟨0, [], Nat.zero_le _, rfl, rfl, HO, HC, HG⟩
  case round =>
    obtain ⟨j, L, hj, rfl, hL, HO1, HC1, HG1⟩ := hrel
    by_cases hlt : j < n
    · go_wp2_with fail
      refine (byte_any _ _ HC1.out).mono ?_
      rintro e w1 ⟨x, ⟨hx0, hx1⟩, rfl, hc1, hg1⟩
      have HO2 := Lib.hid (own_cur HO1.out hlt0 hg1)
      have HC2 := Lib.hid hc1
      have HG2 := Lib.hid (grownN_trans HG1.out hg1)
      have hbase : w.heap.size ≤ w1.heap.size := HG2.out.size
      clear hc1 hg1
      have HLn := Lib.hid hL
      have hl2 : L.length ≤ 1000000 := by omega
      clear hL
      go_wp2_with (at_builtin; go_loud (refine wpList_append_one _ rfl _ _ 22 rfl w.heap.size 5 i0 (.int .u8 0) 1 Try.underlying22 hi hz0 hz1 hz2 rfl .u8 _ L rfl HO2.out x rfl (u8_mk (by omega)) (by omega) (by decide) hbase ?_); intro v3 w3 hown3 hgrow3; have HO3 := Lib.hid hown3; have HG3 := Lib.hid hgrow3; clear hown3 hgrow3)
      have hrow : ∀ g, Value.ownBlock _ = some g → w.heap.size ≤ g := fun g hg => (HO2.out.lt g hg).1
      go_roundw
      case rel => exact ⟨j + 1, L ++ [x], by omega, by go_num, by have := HLn.out; simp [this], HO3, HC2.out.kept_row HG3.out (fun g hg => by have := hrow g hg; omega), grown_mix HG2.out HG3.out hrow⟩
      case measure => simp [intOf]; omega
    · have : j = n := by omega
      subst this
      go_wp2
      go_ret
      exact ⟨_, L, by omega, rfl, HO1.out, HC1.out, HG1.out⟩

end Go.Proofs.Ytbpmbbmgmpdhnaa.Draw
