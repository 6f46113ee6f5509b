/- Contracts of the draws of any crew, and of what the laws draw with them. -/
import Derived.Test.YtlfhaanpfjfmcaaCrD
namespace Go.Proofs.Ytlfhaanpfjfmcaa.Draw
open Go.RowKit Kit Rw Rg Inf

set_option maxRecDepth 20000 in
set_option maxHeartbeats 4000000 in
theorem crewA_any (w : World) (c : Nat) (hc : Cur w c) :
    Calls Try.prog 36 #[.pointer (some ⟨c, 0, none⟩)] w fun e w' => ∃ v, e = .returned v ∧ ∃ L, CR w w' c v L := by
  have HC := Lib.hid hc
  clear hc
  go_enter Try.func36, Try.ntmps36
  go_wp2_with fail
  refine (crewD_any _ _ HC.out).mono ?_
  rintro e w1 ⟨v, rfl, L, hL, hr⟩
  obtain ⟨va, n, cp, hv, HN⟩ := hr.own.sees.shape
  subst hv
  have hn1 : 1 ≤ n := by have := HN.out; omega
  have hn4 : n ≤ 4 := by have := HN.out; have := hr.len; omega
  obtain ⟨g, o, rfl, _, _⟩ := hr.own.sees.at_row (j := 0) (by omega)
  have ho0 : o = 0 := by
    rcases hr.own.1.2 with ⟨h, _⟩ | ⟨g', c', cur, h, _⟩
    · cases h
    · injection h with h; injection h with h; injection h
  subst ho0
  have HR1 := Lib.hid hr
  clear hr HC hL
  go_wp2_with fail
  refine (below_any (n : Int) (by omega) _ _ HR1.out.cur).mono ?_
  rintro e w2 ⟨x, HP, rfl, hc2, hg2⟩
  obtain ⟨hx0, hx1⟩ := HP.1 (by omega)
  obtain ⟨i, rfl⟩ : ∃ i : Nat, x = i := ⟨x.toNat, by omega⟩
  have HR2 := Lib.hid (HR1.out.call hg2 hc2)
  clear HP hc2 hg2 HR1
  have hin : i < n := by omega
  go_wp2_with fail
  refine (below_any 12 (by omega) _ _ HR2.out.cur).mono ?_
  rintro e w6 ⟨y, HP, rfl, hc6, hg6⟩
  obtain ⟨hy0, hy1⟩ := HP.1 (by omega)
  have HR6 := Lib.hid (HR2.out.call hg6 hc6)
  clear HP hc6 hg6 HR2
  by_cases h0 : y = 0
  · subst h0
    have HL := Lib.hid (int_list [0, 2, 99, 100] w6 c HR6.out.cur (by decide) (by decide))
    go_wp2_with fail
    refine HL.out.mono ?_
    rintro e w7 ⟨z, hz, rfl, hc7, hg7⟩
    have hiz : (Lit.int .i64 z).wf = true := i64_mk (by simp only [List.mem_cons, List.not_mem_nil, or_false] at hz; omega)
    have hr7 := HR6.out.call hg7 hc7
    obtain ⟨d0, d1, d2, d3⟩ := hr7.own.cellM (j := i) (by have := HN.out; omega)
    have f0 := hr7.own.free (i * 4)
    have hp := hr7.own.putId HN.out (j := i) (by have := HN.out; omega) hiz rfl
    have HR8 := Lib.hid (hr7.more hp.1 hp.2 (by rw [List.length_set]; exact hr7.len))
    clear hr7 hp hc7 hg7 hz hiz HL
    go_wp2
    go_ret
    exact ⟨_, rfl, _, HR8.out⟩
  by_cases h1 : y = 1
  · subst h1
    have HL := Lib.hid (int_list [-1, 100, 101] w6 c HR6.out.cur (by decide) (by decide))
    go_wp2_with fail
    refine HL.out.mono ?_
    rintro e w7 ⟨z, hz, rfl, hc7, hg7⟩
    have hiz : (Lit.int .i64 z).wf = true := i64_mk (by simp only [List.mem_cons, List.not_mem_nil, or_false] at hz; omega)
    have hr7 := HR6.out.call hg7 hc7
    obtain ⟨d0, d1, d2, d3⟩ := hr7.own.cellM (j := i) (by have := HN.out; omega)
    have f0 := hr7.own.free (i * 4 + 1)
    have hp := hr7.own.putStr HN.out (j := i) (by have := HN.out; omega) hiz rfl
    have HR8 := Lib.hid (hr7.more hp.1 hp.2 (by rw [List.length_set]; exact hr7.len))
    clear hr7 hp hc7 hg7 hz hiz HL
    go_wp2
    go_ret
    exact ⟨_, rfl, _, HR8.out⟩
  by_cases h2 : y = 2
  · subst h2
    have HL := Lib.hid (int_list [0, 10, 11] w6 c HR6.out.cur (by decide) (by decide))
    go_wp2_with fail
    refine HL.out.mono ?_
    rintro e w7 ⟨z, hz, rfl, hc7, hg7⟩
    have hiz : (Lit.int .i64 z).wf = true := i64_mk (by simp only [List.mem_cons, List.not_mem_nil, or_false] at hz; omega)
    have hr7 := HR6.out.call hg7 hc7
    obtain ⟨d0, d1, d2, d3⟩ := hr7.own.cellM (j := i) (by have := HN.out; omega)
    have f0 := hr7.own.free (i * 4 + 2)
    have hp := hr7.own.putNeed HN.out (j := i) (by have := HN.out; omega) hiz rfl
    have HR8 := Lib.hid (hr7.more hp.1 hp.2 (by rw [List.length_set]; exact hr7.len))
    clear hr7 hp hc7 hg7 hz hiz HL
    go_wp2
    go_ret
    exact ⟨_, rfl, _, HR8.out⟩
  by_cases h3 : y = 3
  · subst h3
    have hr6 := HR6.out
    have HR8 : Hid (CR w w6 c (.slice none 0 0) []) := ⟨ownG_nil, hr6.cur, hr6.grown, hr6.cl, by simp⟩
    clear hr6
    go_wp2
    go_ret
    exact ⟨_, rfl, _, HR8.out⟩
  go_wp2
  go_ret
  exact ⟨_, rfl, L, HR6.out⟩

/-- What a draw of a crew hands out. -/
structure CrewOut (w w' : World) (v : Value) (L : List Mem) : Prop where
  own : OwnG encM 51 w' w.heap.size v L
  len : L.length ≤ 4
  grown : w.grownBy w' none
theorem crew_out {w w1 w2 : World} {c : Nat} {v : Value} {L : List Mem} (hb : Below w.heap.size w w1) (hlc : w.heap.size ≤ c) (h : CR w1 w2 c v L) : CrewOut w w2 v L :=
  ⟨h.own.lower hb.size, h.len, grown_new (below_grown hb) h.grown (fun g hg => by injection hg with hg; omega)⟩

set_option maxRecDepth 20000 in
set_option maxHeartbeats 1000000 in
theorem dAreCrew_any (w : World) (a : Option Addr) (len cap : Nat) (z : List Int) (hr : IsRow .u8 w a len cap z) :
    Calls Try.prog 46 #[.slice a len cap] w fun e w' => ∃ v, e = .returned v ∧ ∃ L, CrewOut w w' v L := by
  have HR := Lib.hid hr
  clear hr
  go_enter Try.func46, Try.ntmps46
  go_wp2_with fail
  refine (new_any _ a len cap z HR.out).mono ?_
  rintro e w1 ⟨c, rfl, hc, hlc, hb⟩
  have HC := Lib.hid hc
  have HW := Lib.hid hb
  have HLC := Lib.hid hlc
  clear hc hb hlc
  go_wp2_with fail
  refine (crewA_any _ _ HC.out).mono ?_
  rintro e w2 ⟨v, rfl, L, h⟩
  have HO := Lib.hid (crew_out HW.out HLC.out h)
  clear h HC HW HLC
  go_wp2
  go_ret
  exact ⟨_, rfl, L, HO.out⟩
set_option maxRecDepth 20000 in
set_option maxHeartbeats 1000000 in
theorem dStrongest_any (w : World) (a : Option Addr) (len cap : Nat) (z : List Int) (hr : IsRow .u8 w a len cap z) :
    Calls Try.prog 18 #[.slice a len cap] w fun e w' => ∃ v, e = .returned v ∧ ∃ L, CrewOut w w' v L := by
  have HR := Lib.hid hr
  clear hr
  go_enter Try.func18, Try.ntmps18
  go_wp2_with fail
  refine (dAreCrew_any _ a len cap z HR.out).mono ?_
  rintro e w2 ⟨v, rfl, L, h⟩
  have HO := Lib.hid h
  clear h
  go_wp2
  go_ret
  exact ⟨_, rfl, L, HO.out⟩
set_option maxRecDepth 20000 in
set_option maxHeartbeats 1000000 in
theorem dCapOf_any (w : World) (a : Option Addr) (len cap : Nat) (z : List Int) (hr : IsRow .u8 w a len cap z) :
    Calls Try.prog 20 #[.slice a len cap] w fun e w' => ∃ v, e = .returned v ∧ ∃ L, CrewOut w w' v L := by
  have HR := Lib.hid hr
  clear hr
  go_enter Try.func20, Try.ntmps20
  go_wp2_with fail
  refine (dAreCrew_any _ a len cap z HR.out).mono ?_
  rintro e w2 ⟨v, rfl, L, h⟩
  have HO := Lib.hid h
  clear h
  go_wp2
  go_ret
  exact ⟨_, rfl, L, HO.out⟩
set_option maxRecDepth 20000 in
set_option maxHeartbeats 1000000 in
theorem dSetIll_any (w : World) (a : Option Addr) (len cap : Nat) (z : List Int) (hr : IsRow .u8 w a len cap z) :
    Calls Try.prog 11 #[.slice a len cap] w fun e w' => ∃ v k b, e = .returned (.tuple #[v, .int .i64 k, .bool b]) ∧ (0 ≤ k ∧ k ≤ 10) ∧ ∃ L, CrewOut w w' v L := by
  have HR := Lib.hid hr
  clear hr
  go_enter Try.func11, Try.ntmps11
  go_wp2_with fail
  refine (new_any _ a len cap z HR.out).mono ?_
  rintro e w1 ⟨c, rfl, hc, hlc, hb⟩
  have HC := Lib.hid hc
  have HW := Lib.hid hb
  have HLC := Lib.hid hlc
  clear hc hb hlc
  go_wp2_with fail
  refine (crewA_any _ _ HC.out).mono ?_
  rintro e w2 ⟨v, rfl, L, h⟩
  have H2 := Lib.hid h
  clear h HC
  go_wp2_with fail
  refine (below_any 11 (by omega) _ _ H2.out.cur).mono ?_
  rintro e w3 ⟨k, HP, rfl, hc3, hg3⟩
  obtain ⟨hk0, hk1⟩ := HP.1 (by omega)
  have H3 := Lib.hid (H2.out.call hg3 hc3)
  clear HP hc3 hg3 H2
  go_wp2_with fail
  refine (once_any 2 (by omega) _ _ H3.out.cur).mono ?_
  rintro e w4 ⟨b, rfl, hc4, hg4⟩
  have HO := Lib.hid (crew_out HW.out HLC.out (H3.out.call hg4 hc4))
  clear hc4 hg4 H3 HW HLC
  go_wp2
  go_ret3
  exact ⟨v, k, b, rfl, ⟨hk0, by omega⟩, L, HO.out⟩
end Go.Proofs.Ytlfhaanpfjfmcaa.Draw
