/- The draws of the law FnKeyedHash: a key and a list of values; a key and a label. -/
import Derived.Test.YtklbeeloppiknaaDoorWord
import Derived.Test.YtklbeeloppiknaaDoorDrawG
import Derived.Test.YtklbeeloppiknaaDoorDrawS
namespace Go.Proofs.YtklbeeloppiknaaDoor.Draw
open Go.RowKit Kit Rw Inf

/-- How a draw of a list of values ends: a row of the call's own. -/
def DrawnW (c : Nat) (w : World) (e : Ending) (w' : World) : Prop :=
  ∃ u L, (∀ x ∈ L, Word x) ∧ L.length ≤ 4 ∧ e = .returned u ∧ Own .i64 3 w' w.heap.size u L ∧ Cur w' c ∧ w.grownBy w' (some c)

set_option maxHeartbeats 1000000 in
theorem words_any (w : World) (c : Nat) (hc : Cur w c) :
    Calls Tryd.prog 19 #[.pointer (some ⟨c, 0, none⟩)] w (DrawnW c w) := by
  have hlt0 := hc.lt
  have HC : Hid (Cur (w.alloc (.cells #[] 3 (0, 0))) c) := hc.kept_row (World.grownBy_alloc _ _ none) (fun _ h => by cases h)
  have HO := Lib.hid (own_empty (k := .i64) (E := 3) w)
  have HG := Lib.hid (World.grownBy_alloc w (.cells #[] 3 (0, 0)) (some c))
  clear hc
  obtain ⟨i0, hi, hz0, hz1, hz2⟩ := info_parts info_i64
  go_enter Tryd.func19, Tryd.ntmps19
  go_wp2_with fail
  refine (below_any 5 (by omega) _ _ HC.out).mono ?_
  rintro e w1 ⟨n, HP, rfl, hc1, hg1⟩
  obtain ⟨hn0, hn1⟩ := HP.1 (by omega)
  clear HP
  obtain ⟨n, rfl⟩ : ∃ q : Nat, n = q := ⟨n.toNat, by omega⟩
  have HO1 := Lib.hid (own_cur HO.out hlt0 hg1)
  have HC1 := Lib.hid hc1
  have HG1 := Lib.hid (grownN_trans HG.out hg1)
  clear hc1 hg1
  go_wp2
  go_loopw [3, 4] (fun u i wr => ∃ j : Nat, ∃ L : List Int, j ≤ n ∧ i = .int .i64 j ∧ Hid (L.length + j = n) ∧ Hid (∀ x ∈ L, Word x) ∧ Hid (Own .i64 3 wr w.heap.size u L) ∧ Hid (Cur wr c) ∧ Hid (w.grownBy wr (some c)))
    (fun _ i _ => (intOf i).toNat)
  case atStart => exact ⟨n, [], Nat.le_refl _, rfl, Nat.zero_add _, (fun x hx => by cases hx), HO1, HC1, HG1⟩
  case round =>
    obtain ⟨j, L, hj, rfl, HL, HW, HO2, HC2, HG2⟩ := hrel
    by_cases hlt : 0 < j
    · go_wp2_with fail
      refine (word_any _ _ HC2.out).mono ?_
      rintro e w3 ⟨x, hx, rfl, hc3, hg3⟩
      have HX := Lib.hid hx
      have HO3 := Lib.hid (own_cur HO2.out hlt0 hg3)
      have HC3 := Lib.hid hc3
      have HG3 := Lib.hid (grownN_trans HG2.out hg3)
      have hbase : w.heap.size ≤ w3.heap.size := HG3.out.size
      have hl2 : L.length ≤ 10 := by have := HL.out; omega
      clear hc3 hg3 hx
      go_wp2_with (at_builtin; go_loud (refine wpList_append_one _ rfl _ _ 24 rfl w.heap.size 3 i0 (.int .i64 0) 8 Tryd.underlying24 hi hz0 hz1 hz2 rfl .i64 _ L rfl HO3.out x rfl HX.out.wf (by omega) (by decide) hbase ?_); intro v4 w4 hown4 hgrow4; have HO4 := Lib.hid hown4; have HG4 := Lib.hid hgrow4; clear hown4 hgrow4)
      have hrow : ∀ g, Value.ownBlock _ = some g → w.heap.size ≤ g := fun g hg => (HO3.out.lt g hg).1
      go_roundw
      case rel =>
        refine ⟨j - 1, L ++ [x], by omega, by go_num, by have := HL.out; show _ = _; simp; omega, ?_, HO4, HC3.out.kept_row HG4.out (fun g hg => by have := hrow g hg; omega), grown_mix HG3.out HG4.out hrow⟩
        intro y hy
        rcases List.mem_append.1 hy with h | h
        · exact HW.out y h
        · simp at h; subst h; exact HX.out
      case measure => simp [intOf]; omega
    · have : j = 0 := by omega
      subst this
      go_wp2
      go_ret
      exact ⟨_, L, HW.out, by have := HL.out; omega, rfl, HO2.out, HC2.out, HG2.out⟩

set_option maxHeartbeats 1000000 in
theorem dKeyed_any (w : World) (a : Option Addr) (len cap : Nat) (z : List Int) (hr : IsRow .u8 w a len cap z) :
    Calls Tryd.prog 7 #[.slice a len cap] w fun e w' => ∃ k u L, e = .returned (.tuple #[.int .i64 k, u]) ∧ Word k ∧ (∀ x ∈ L, Word x) ∧ L.length ≤ 4 ∧ Own .i64 3 w' w.heap.size u L ∧ w.grownBy w' none := by
  have HR := Lib.hid hr
  clear hr
  go_enter Tryd.func7, Tryd.ntmps7
  go_wp2_with fail
  refine (new_any w a len cap z HR.out).mono ?_
  rintro e w1 ⟨c, rfl, hc, hlc, hb⟩
  have HC := Lib.hid hc
  have HB := Lib.hid hb
  clear hc hb
  go_wp2_with fail
  refine (word_any _ _ HC.out).mono ?_
  rintro e w2 ⟨k, hk, rfl, hc2, hg2⟩
  have HC2 := Lib.hid hc2
  have HK := Lib.hid hk
  have HG2 := Lib.hid hg2
  clear hc2 hg2 HC hk
  go_wp2_with fail
  refine (words_any _ _ HC2.out).mono ?_
  rintro e w3 ⟨u, L, hw, hL, rfl, ho, hc3, hg3⟩
  have HW := Lib.hid hw
  have HL := Lib.hid hL
  have HO := Lib.hid ho
  have HG3 := Lib.hid (grownN_trans HG2.out hg3)
  clear hc3 hg3 ho hw hL
  go_wp2
  go_ret2
  exact ⟨_, _, L, rfl, HK.out, HW.out, HL.out, HO.out.lower (Nat.le_trans HB.out.size HG2.out.size), new_grown HB.out hlc HG3.out⟩

set_option maxHeartbeats 1000000 in
theorem dDerive_any (w : World) (a : Option Addr) (len cap : Nat) (z : List Int) (hr : IsRow .u8 w a len cap z) :
    Calls Tryd.prog 12 #[.slice a len cap] w fun e w' => ∃ k s, e = .returned (.tuple #[.int .i64 k, .string s]) ∧ Word k ∧ s.size ≤ 4 ∧ w.grownBy w' none := by
  have HR := Lib.hid hr
  clear hr
  go_enter Tryd.func12, Tryd.ntmps12
  go_wp2_with fail
  refine (new_any w a len cap z HR.out).mono ?_
  rintro e w1 ⟨c, rfl, hc, hlc, hb⟩
  have HC := Lib.hid hc
  have HB := Lib.hid hb
  clear hc hb
  go_wp2_with fail
  refine (word_any _ _ HC.out).mono ?_
  rintro e w2 ⟨k, hk, rfl, hc2, hg2⟩
  have HK := Lib.hid hk
  have HG2 := Lib.hid hg2
  have HL := Lib.hid (str_list [⟨#[]⟩, ⟨#[97]⟩, ⟨#[98]⟩, ⟨#[97, 98]⟩, ⟨#[110, 101, 119, 115]⟩, ⟨#[120]⟩] w2 c hc2 (by decide) (by decide))
  clear hc2 hg2 HC hk
  go_wp2_with (go_at_call 22; refine (HL.out).mono ?_; rintro e w3 ⟨s, hs, rfl, hc3, hg3⟩)
  have hs4 : s.size ≤ 4 := by
    simp only [List.mem_cons, List.not_mem_nil, or_false] at hs
    rcases hs with rfl | rfl | rfl | rfl | rfl | rfl <;> decide
  have HS := Lib.hid hs4
  have HG3 := Lib.hid (grownN_trans HG2.out hg3)
  clear hs hs4 hc3 hg3
  go_wp2
  go_ret2
  exact ⟨_, _, rfl, HK.out, HS.out, new_grown HB.out hlc HG3.out⟩
end Go.Proofs.YtklbeeloppiknaaDoor.Draw
