/- The program's ParseInt answers, at every string of at most 2^20 bytes, the number whose decimal form it is, or 0 and false. -/
import Derived.Test.YtfkaohgbjiphbaaDoorImplFmt
import Derived.Test.YtfkaohgbjiphbaaDoorSpecParse
import Derived.Test.YtfkaohgbjiphbaaDoorLayAtoi
namespace Go.Proofs.YtfkaohgbjiphbaaDoor.Fmt
open Go.Shelf Go.RowKit

theorem inRange_any (n l h : Int) (w : World) :
    Calls Tryd.prog 21 #[.int .i64 n, .int .i64 l, .int .i64 h] w fun e w' => e = .returned (.bool (inR n l h)) ∧ w = w' := by
  by_cases h1 : l ≤ n
  · go_enter Tryd.func21, Tryd.ntmps21
    go_wp2
    go_ret
    exact ⟨ret_bool (by unfold inR; rw [Bool.eq_iff_iff]; simp; omega), rfl⟩
  · go_enter Tryd.func21, Tryd.ntmps21
    go_wp2
    go_ret
    exact ⟨ret_bool (by unfold inR; rw [Bool.eq_iff_iff]; simp; omega), rfl⟩

/-- The library's two sentinels hold errors. -/
def Sents (w : World) : Prop :=
  (∃ tp p, w.var? Tryd.prog "strconv.ErrSyntax" = some #[.iface tp p]) ∧ (∃ tp p, w.var? Tryd.prog "strconv.ErrRange" = some #[.iface tp p])

theorem atoi_ok (s : ByteArray) (hs : s.size ≤ 1048576) (v : Int) (h : Lib.atoiAll s.data.toList = .ok v) (w : World) :
    Calls Tryd.prog 20 #[.string s] w fun e w' => e = .returned (.tuple #[.int .i64 v, .nilIface]) ∧ Below w.heap.size w w' := by
  refine (Any.strconv_Atoi_ok Tryd.laysC172 s (by omega) v h w).mono ?_
  rintro e w' ⟨rfl, rfl | ⟨t, rfl⟩⟩
  · exact ⟨rfl, Below.refl _ _⟩
  · exact ⟨rfl, Lib.bytesWorld_below _ _ _⟩

/-- How Atoi ends where there is no such int. -/
def AtoiBad (w : World) (e : Ending) (w' : World) : Prop := ∃ v N, e = .returned (.tuple #[.int .i64 v, .iface 62 (.pointer (some ⟨N, 0, none⟩))]) ∧ Below w.heap.size w w'
theorem atoi_bad (s : ByteArray) (hs : s.size ≤ 1048576) (h : ∀ v, Lib.atoiAll s.data.toList ≠ .ok v) (w : World) (hv : Sents w) :
    Calls Tryd.prog 20 #[.string s] w (AtoiBad w) := by
  obtain ⟨⟨t0, p0, h0⟩, ⟨t1, p1, h1⟩⟩ := hv
  rcases hx : Lib.atoiAll s.data.toList with v | _ | _
  · exact absurd hx (h v)
  · refine (Any.strconv_Atoi_syntax_var Tryd.laysC172 s (by omega) hx t0 p0 w h0).mono ?_
    rintro e w' ⟨N, rfl, _, _, hb⟩
    exact ⟨_, N, rfl, hb⟩
  · refine (Any.strconv_Atoi_range_var Tryd.laysC172 s (by omega) hx t1 p1 w h1).mono ?_
    rintro e w' ⟨N, rfl, _, _, hb⟩
    exact ⟨_, N, rfl, hb⟩

theorem impl_nat (m : Nat) (h1 : (m : Int) ≤ 9223372036854775807) (w : World) (htab : Pow10 w) :
    Calls Tryd.prog 10 #[.int .i64 m] w fun e w' => e = .returned (.string ⟨(Lib.decDigits m).toArray⟩) ∧ Below w.heap.size w w' := by
  have h := impl_any m (by omega) h1 w htab
  rw [Lib.itoa_nonneg] at h
  exact h

set_option maxHeartbeats 1000000 in
theorem impl_parse (s : ByteArray) (hs : s.size ≤ 1048576) (w : World) (htab : Pow10 w) (hv : Sents w) :
    Calls Tryd.prog 8 #[.string s] w (ParseEnd s.data.toList w) := by
  have HT := Lib.hid htab
  have HS := Lib.hid hv
  clear htab hv
  by_cases hok : ∃ v, Lib.atoiAll s.data.toList = .ok v
  · obtain ⟨v, hv⟩ := hok
    have hbd := Lib.atoiAll_bounds hv
    have HV := Lib.hid hv
    clear hv
    by_cases hr : inR v 0 1000000000000 = true
    · have hrr : 0 ≤ v ∧ v ≤ 1000000000000 := by simpa [inR] using hr
      obtain ⟨m, rfl⟩ : ∃ m : Nat, v = m := ⟨v.toNat, by omega⟩
      by_cases heq : Lib.decDigits m = s.data.toList
      · have HY : Hid (Num.PRes s.data.toList m true) := Num.pres_yes (by omega) heq
        have hse : (⟨(Lib.decDigits m).toArray⟩ : ByteArray) = s := by rw [heq]
        go_enter Tryd.func8, Tryd.ntmps8
        go_wp2_with (first | (go_at_call 20; refine (atoi_ok s hs _ HV.out _).mono ?_; rintro e w1 ⟨rfl, hb1⟩) | (go_at_call 21; refine (inRange_any _ _ _ _).mono ?_; rintro e w' ⟨rfl, rfl⟩) | (go_at_call 10; refine (impl_nat m (by omega) _ (HT.out.below (by assumption) (Nat.le_refl _))).mono ?_; rintro e w2 ⟨rfl, hb2⟩))
        go_ret2
        exact ⟨m, true, rfl, HY.out, hb1.trans (hb2.mono hb1.size)⟩
      · have HN : Hid (Num.PRes s.data.toList 0 false) := Num.no_atoi_form HV.out heq
        have hse : (Lib.decDigits m == s.toList) = false := by
          rw [beq_eq_false_iff_ne, ByteArray.toList_eq]
          exact heq
        clear heq
        go_enter Tryd.func8, Tryd.ntmps8
        go_wp2_with (first | (go_at_call 20; refine (atoi_ok s hs _ HV.out _).mono ?_; rintro e w1 ⟨rfl, hb1⟩) | (go_at_call 21; refine (inRange_any _ _ _ _).mono ?_; rintro e w' ⟨rfl, rfl⟩) | (go_at_call 10; refine (impl_nat m (by omega) _ (HT.out.below (by assumption) (Nat.le_refl _))).mono ?_; rintro e w2 ⟨rfl, hb2⟩))
        go_ret2
        exact end_no HN.out (hb1.trans (hb2.mono hb1.size))
    · have HN : Hid (Num.PRes s.data.toList 0 false) := Num.no_atoi_range HV.out (fun h => hr (by simpa [inR] using h))
      replace hr := Bool.eq_false_iff.mpr hr
      go_enter Tryd.func8, Tryd.ntmps8
      go_wp2_with (first | (go_at_call 20; refine (atoi_ok s hs _ HV.out _).mono ?_; rintro e w1 ⟨rfl, hb1⟩) | (go_at_call 21; refine (inRange_any _ _ _ _).mono ?_; rintro e w' ⟨rfl, rfl⟩))
      go_ret2
      exact end_no HN.out hb1
  · have HB : Hid (∀ v, Lib.atoiAll s.data.toList ≠ .ok v) := fun v h => hok ⟨v, h⟩
    have HN : Hid (Num.PRes s.data.toList 0 false) := Num.no_atoi HB.out
    clear hok
    go_enter Tryd.func8, Tryd.ntmps8
    go_wp2_with (go_at_call 20; refine (atoi_bad s hs HB.out _ HS.out).mono ?_; rintro e w1 ⟨v, N, rfl, hb1⟩)
    go_ret2
    exact end_no HN.out hb1
end Go.Proofs.YtfkaohgbjiphbaaDoor.Fmt
