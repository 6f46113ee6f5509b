/- Contracts of the draws of chapter 2's arguments. -/
import Derived.Test.YtbpmbbmgmpdhnaaOnce
import Derived.Test.YtbpmbbmgmpdhnaaDrawB
import Derived.Test.YtbpmbbmgmpdhnaaDraw1
import Derived.Test.YtbpmbbmgmpdhnaaPutS
namespace Go.Proofs.Ytbpmbbmgmpdhnaa.Draw
open Go.RowKit Kit Rw Var LawsB Put

set_option maxRecDepth 20000 in
set_option maxHeartbeats 1000000 in
theorem dAppendUvarint_any (w : World) (a : Option Addr) (len cap : Nat) (z : List Int) (hr : IsRow .u8 w a len cap z) :
    Calls Try.prog 17 #[.slice a len cap] w fun e w' => ∃ u L n, e = .returned (.tuple #[u, .int .i64 n]) ∧ Own .u8 5 w' w.heap.size u L ∧ L.length ≤ 2 ∧ I64 n ∧ w.grownBy w' none := by
  have HR := Lib.hid hr
  clear hr
  go_enter Try.func17, Try.ntmps17
  go_wp2_with fail
  refine (new_any w a len cap z HR.out).mono ?_
  rintro e w1 ⟨c, rfl, hc, hlc, hb⟩
  have HC := Lib.hid hc
  have HB := Lib.hid hb
  clear hc hb
  go_wp2_with fail
  refine (below_any 3 (by omega) _ _ HC.out).mono ?_
  rintro e w2 ⟨x, HP, rfl, hc2, hg2⟩
  obtain ⟨hx0, hx1⟩ := HP.1 (by omega)
  have HC2 := Lib.hid hc2
  have HG2 := Lib.hid hg2
  clear HP hc2 hg2 HC
  go_wp2_with fail
  refine (bytes_any x (by omega) _ _ HC2.out).mono ?_
  rintro e w3 ⟨u, L, hL, rfl, ho, hc3, hg3⟩
  have HC3 := Lib.hid hc3
  have HG3 := Lib.hid (grownN_trans HG2.out hg3)
  have HL : Hid (L.length ≤ 2) := by show _ ≤ _; omega
  have HO := Lib.hid ho
  clear hL hc3 hg3 ho
  go_wp2_with fail
  refine (one_any _ _ HC3.out).mono ?_
  rintro e w4 ⟨y, hy, rfl, hc4, hg4⟩
  have HY := Lib.hid hy
  have HG4 := Lib.hid hg4
  have HLT := Lib.hid HC2.out.lt
  clear hy hc4 hg4
  go_wp2
  go_ret2
  exact ⟨_, L, _, rfl, (own_cur HO.out HLT.out HG4.out).lower (Nat.le_trans HB.out.size HG2.out.size), HL.out, HY.out, new_grown HB.out hlc (grownN_trans HG3.out HG4.out)⟩

set_option maxRecDepth 20000 in
set_option maxHeartbeats 1000000 in
theorem dReadUvarint_any (w : World) (a : Option Addr) (len cap : Nat) (z : List Int) (hr : IsRow .u8 w a len cap z) :
    Calls Try.prog 21 #[.slice a len cap] w fun e w' => ∃ u L n, e = .returned (.tuple #[u, .int .i64 n]) ∧ Own .u8 5 w' w.heap.size u L ∧ L.length ≤ 20 ∧ I64 n ∧ w.grownBy w' none := by
  have HR := Lib.hid hr
  clear hr
  obtain ⟨i0, hi, hz0, hz1, hz2⟩ := info_parts info_u8
  go_enter Try.func21, Try.ntmps21
  go_wp2_with fail
  refine (new_any w a len cap z HR.out).mono ?_
  rintro e w1 ⟨c, rfl, hc, hlc, hb⟩
  have HC := Lib.hid hc
  have HB := Lib.hid hb
  clear hc hb
  go_wp2_with fail
  refine (once_any 2 (by omega) _ _ HC.out).mono ?_
  rintro e w2 ⟨b, rfl, hc2, hg2⟩
  have HC2 := Lib.hid hc2
  have HG2 := Lib.hid hg2
  have hlt2 := hc2.lt
  have hs2 : w.heap.size ≤ w2.heap.size := Nat.le_trans HB.out.size HG2.out.size
  clear hc2 hg2 HC
  cases b
  · have HO := Lib.hid (own_empty (k := .u8) (E := 5) w2)
    have HCA : Hid (Cur (w2.alloc (.cells #[] 5 (0, 0))) c) := HC2.out.kept_row (World.grownBy_alloc _ _ none) (fun _ h => by cases h)
    have HGA := Lib.hid (grownN_trans HG2.out (World.grownBy_alloc w2 (.cells #[] 5 (0, 0)) (some c)))
    go_wp2_with fail
    refine (below_any 8 (by omega) _ _ HCA.out).mono ?_
    rintro e w3 ⟨x, HP, rfl, hc3, hg3⟩
    obtain ⟨hx0, hx1⟩ := HP.1 (by omega)
    obtain ⟨n, rfl⟩ : ∃ q : Nat, x = q := ⟨x.toNat, by omega⟩
    have HC3 := Lib.hid hc3
    have HG3 := Lib.hid (grownN_trans HGA.out hg3)
    have HO3 := Lib.hid (own_cur HO.out hlt2 hg3)
    have HS3 : w2.heap.size ≤ w3.heap.size := Nat.le_trans (World.grownBy_alloc w2 _ none).size hg3.size
    clear HP hc3 hg3 HO HCA HGA
    go_wp2
    go_loopw [5, 6] (fun u i wr => ∃ j : Nat, ∃ L : List Int, j ≤ n ∧ i = .int .i64 j ∧ Hid (L.length + j = n) ∧ Hid (Own .u8 5 wr w2.heap.size u L) ∧ Hid (Cur wr c) ∧ Hid (w1.grownBy wr (some c)) ∧ w2.heap.size ≤ wr.heap.size)
      (fun _ i _ => (intOf i).toNat)
    case atStart => exact ⟨n, [], Nat.le_refl _, rfl, Nat.zero_add _, HO3, HC3, HG3, HS3⟩
    case round =>
      obtain ⟨j, L, hj, rfl, HL, HO1, HC1, HG1, hsz⟩ := hrel
      by_cases hlt : 0 < j
      · have hl2 : L.length ≤ 8 := by have := HL.out; omega
        have HLI := Lib.hid (int_list [128, 255, 0, 1, 127] wr c HC1.out (by decide) (by decide))
        go_wp2_with fail
        refine HLI.out.mono ?_
        rintro e w4 ⟨y, hy, rfl, hc4, hg4⟩
        have hy0 : 0 ≤ y ∧ y ≤ 255 := by
          simp only [List.mem_cons, List.not_mem_nil, or_false] at hy; omega
        have HO2 := Lib.hid (own_cur HO1.out hlt2 hg4)
        have HC4 := Lib.hid hc4
        have HG4 := Lib.hid (grownN_trans HG1.out hg4)
        have hbase : w2.heap.size ≤ w4.heap.size := Nat.le_trans hsz hg4.size
        clear hc4 hg4 hy
        go_wp2_with (at_builtin; go_loud (refine wpList_append_one _ rfl _ _ 22 rfl w2.heap.size 5 i0 (.int .u8 0) 1 Try.underlying22 hi hz0 hz1 hz2 rfl .u8 _ L rfl HO2.out y rfl (u8_mk (by omega)) (by omega) (by decide) hbase ?_); intro v5 w5 hown5 hgrow5; have HO5 := Lib.hid hown5; have HG5 := Lib.hid hgrow5; clear hown5 hgrow5)
        have hrow : ∀ g, Value.ownBlock _ = some g → w2.heap.size ≤ g := fun g hg => (HO2.out.lt g hg).1
        go_roundw
        case rel => exact ⟨j - 1, L ++ [y], by omega, by go_num, by have := HL.out; show _ = _; simp; omega, HO5, HC4.out.kept_row HG5.out (fun g hg => by have := hrow g hg; omega), grown_mix HG4.out HG5.out (fun g hg => by have := hrow g hg; have := HG2.out.size; omega), Nat.le_trans hbase HG5.out.size⟩
        case measure => simp [intOf]; omega
      · have : j = 0 := by omega
        subst this
        go_wp2_with fail
        refine (below_any 4 (by omega) _ _ HC1.out).mono ?_
        rintro e w4 ⟨y, HP, rfl, hc4, hg4⟩
        obtain ⟨hy0, hy1⟩ := HP.1 (by omega)
        have HO2 := Lib.hid (own_cur HO1.out hlt2 hg4)
        have HG4 := Lib.hid (grownN_trans HG1.out hg4)
        clear HP hc4 hg4
        go_wp2
        go_ret2
        exact ⟨_, L, _, rfl, HO2.out.lower hs2, by have := HL.out; omega, ⟨by omega, by omega⟩, new_grown HB.out hlc HG4.out⟩
  · go_wp2_with fail
    refine (bytes_any 1 (by omega) _ _ HC2.out).mono ?_
    rintro e w3 ⟨u, L, hL, rfl, ho, hc3, hg3⟩
    have HC3 := Lib.hid hc3
    have HG3 := Lib.hid (grownN_trans HG2.out hg3)
    have HL : Hid (L.length = 1) := by show _ = _; omega
    have HO := Lib.hid ho
    clear hL hc3 hg3 ho
    go_wp2_with fail
    refine (num_any _ _ HC3.out).mono ?_
    rintro e w4 ⟨y, hy, rfl, hc4, hg4⟩
    have HY := Lib.hid hy.i64
    have HG4 := Lib.hid (grownN_trans HG3.out hg4)
    have HO4 := Lib.hid (own_cur HO.out hlt2 hg4)
    clear hy hc4 hg4
    go_wp2_with fail
    refine (sUvarint_any w4 u L y HO4.out.sees (by rw [HL.out]; decide) HY.out.wf).mono ?_
    rintro e w5 ⟨u5, rfl, ho5, hg5⟩
    have HO5 := Lib.hid ho5
    have HG5 := Lib.hid (new_grown HB.out hlc HG4.out)
    have HG6 := Lib.hid hg5
    clear ho5 hg5
    go_wp2
    go_ret2
    exact ⟨_, L ++ encI y, _, rfl, HO5.out.lower HG5.out.size, by have := encI_len y; have := HL.out; simp; omega, ⟨by omega, by omega⟩, grownN_trans HG5.out HG6.out⟩
end Go.Proofs.Ytbpmbbmgmpdhnaa.Draw
