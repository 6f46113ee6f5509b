/- The model's ParseInt answers, at every string, the number whose decimal form it is, or 0 and false. -/
import Derived.Test.YtfkaohgbjiphbaaDoorSpecFmt
import Derived.Test.YtfkaohgbjiphbaaDoorNum
namespace Go.Proofs.YtfkaohgbjiphbaaDoor.Fmt
open Go.RowKit

def inR (n l h : Int) : Bool := decide (l ≤ n ∧ n ≤ h)
theorem ret_bool {a b : Bool} (h : a = b) : Ending.returned (.bool a) = .returned (.bool b) := by rw [h]
theorem l1In_any (n l h : Int) (w : World) :
    Calls Tryd.prog 25 #[.int .i64 n, .int .i64 l, .int .i64 h] w fun e w' => e = .returned (.bool (inR n l h)) ∧ w = w' := by
  by_cases h1 : l ≤ n
  · go_enter Tryd.func25, Tryd.ntmps25
    go_wp2
    go_ret
    exact ⟨ret_bool (by unfold inR; rw [Bool.eq_iff_iff]; simp; omega), rfl⟩
  · go_enter Tryd.func25, Tryd.ntmps25
    go_wp2
    go_ret
    exact ⟨ret_bool (by unfold inR; rw [Bool.eq_iff_iff]; simp; omega), rfl⟩

theorem take_snoc (s : ByteArray) (k : Nat) (h : k < s.size) : s.data.toList.take (k + 1) = s.data.toList.take k ++ [s[k]] := by
  rw [List.take_succ_eq_append_getElem (by simpa using h)]; rfl

/-- How a parse ends: what is answered, and that nothing old has turned. -/
def ParseEnd (l : List UInt8) (w : World) (e : Ending) (w' : World) : Prop :=
  ∃ v b, e = .returned (.tuple #[.int .i64 v, .bool b]) ∧ Num.PRes l v b ∧ Below w.heap.size w w'
theorem end_no {l : List UInt8} {w w' : World} (h : Num.PRes l 0 false) (hb : Below w.heap.size w w') : ParseEnd l w (.returned (.tuple #[.int .i64 0, .bool false])) w' := ⟨_, _, rfl, h, hb⟩

theorem spec_nat (m : Nat) (h1 : (m : Int) ≤ 9223372036854775807) (w : World) :
    Calls Tryd.prog 14 #[.int .i64 m] w fun e w' => e = .returned (.string ⟨(Lib.decDigits m).toArray⟩) ∧ Below w.heap.size w w' := by
  have h := spec_any m (by omega) h1 w
  rw [Lib.itoa_nonneg] at h
  exact h

set_option maxHeartbeats 1000000 in
theorem spec_parse (s : ByteArray) (hs : s.size ≤ 1048576) (w : World) :
    Calls Tryd.prog 15 #[.string s] w (ParseEnd s.data.toList w) := by
  by_cases hlen : inR (s.size : Int) 1 13 = true
  · have hl : 1 ≤ (s.size : Int) ∧ (s.size : Int) ≤ 13 := by simpa [inR] using hlen
    go_enter Tryd.func15, Tryd.ntmps15
    go_wp2_with (go_at_call 25; refine (l1In_any _ _ _ _).mono ?_; rintro e w' ⟨rfl, rfl⟩)
    go_loop [4, 5] (fun n i => ∃ k : Nat, k ≤ s.size ∧ i = .int .i64 k ∧ n = .int .i64 (Num.val (s.data.toList.take k)) ∧ Hid (Num.val (s.data.toList.take k) < 10 ^ k)) (fun _ i => s.size - (intOf i).toNat)
    case atStart => exact ⟨0, Nat.zero_le _, rfl, rfl, Lib.hid (by simp [Num.val])⟩
    case round =>
      obtain ⟨k, hk, rfl, rfl, HV⟩ := hrel
      by_cases hlt : k < s.size
      · have hv : Num.val (s.data.toList.take k) < 1000000000000 := Nat.lt_of_lt_of_le HV.out (Nat.pow_le_pow_right (n := 10) (by decide) (show k ≤ 12 by omega))
        have hts : s.data.toList.take (k + 1) = s.data.toList.take k ++ [s[k]] := take_snoc s k hlt
        by_cases hd : inR (s[k].toNat : Int) 48 57 = true
        · have hdd : 48 ≤ (s[k].toNat : Int) ∧ (s[k].toNat : Int) ≤ 57 := by simpa [inR] using hd
          have HS : Hid (Num.val (s.data.toList.take (k + 1)) = 10 * Num.val (s.data.toList.take k) + (s[k].toNat - 48)) := by rw [hts]; exact Num.val_snoc _ _
          have HV' : Hid (Num.val (s.data.toList.take (k + 1)) < 10 ^ (k + 1)) := by rw [hts]; exact Num.val_step HV.out (by omega)
          clear hts
          go_wp2_with (go_at_call 25; refine (l1In_any _ _ _ _).mono ?_; rintro e w' ⟨rfl, rfl⟩)
          go_round
          case rel => exact ⟨k + 1, by omega, by go_num, by rw [HS.out]; go_num, HV'⟩
          case measure => simp [intOf]; omega
        · have HN : Hid (Num.PRes s.data.toList 0 false) := Num.no_byte (k := k) (by simpa using hlt) (fun h => hd (by simp [inR]; simp at h; exact ⟨by have := h.1; exact_mod_cast this, by have := h.2; exact_mod_cast this⟩))
          replace hd := Bool.eq_false_iff.mpr hd
          have hb : (s[k].toNat : Int) ≤ 255 := by have := s[k].toNat_lt; omega
          clear hts
          go_wp2_with (go_at_call 25; refine (l1In_any _ _ _ _).mono ?_; rintro e w' ⟨rfl, rfl⟩)
          go_ret2
          exact end_no HN.out (Below.refl _ _)
      · have hw : s.data.toList.take k = s.data.toList := List.take_of_length_le (by simp; omega)
        have hv : Num.val s.data.toList < 10000000000000 := by
          have := HV.out
          rw [hw] at this
          exact Nat.lt_of_lt_of_le this (Nat.pow_le_pow_right (n := 10) (by decide) (show k ≤ 13 by omega))
        obtain ⟨m, hm⟩ : ∃ m, m = Num.val s.data.toList := ⟨_, rfl⟩
        have HM := Lib.hid hm
        rw [hw, ← hm]
        rw [← hm] at hv
        clear hw hm HV
        by_cases hbig : (1000000000000 : Int) < (m : Int)
        · have HN : Hid (Num.PRes s.data.toList 0 false) := Num.no_val (by rw [← HM.out]; omega)
          go_wp2
          go_ret2
          exact end_no HN.out (Below.refl _ _)
        · by_cases heq : Lib.decDigits m = s.data.toList
          · have HY : Hid (Num.PRes s.data.toList m true) := Num.pres_yes (by omega) heq
            have hse : (⟨(Lib.decDigits m).toArray⟩ : ByteArray) = s := by rw [heq]
            go_wp2_with (go_at_call 14; refine (spec_nat m (by omega) _).mono ?_; rintro e w1 ⟨rfl, hb1⟩)
            go_ret2
            exact ⟨m, true, rfl, HY.out, hb1⟩
          · have HN : Hid (Num.PRes s.data.toList 0 false) := Num.no_form (by rw [← HM.out]; exact heq)
            have hse : (Lib.decDigits m == s.toList) = false := by
              rw [beq_eq_false_iff_ne, ByteArray.toList_eq]
              exact heq
            clear heq
            go_wp2_with (go_at_call 14; refine (spec_nat m (by omega) _).mono ?_; rintro e w1 ⟨rfl, hb1⟩)
            go_ret2
            exact end_no HN.out hb1
  · have hn : Num.PRes s.data.toList 0 false := Num.no_len fun h => hlen (by simp [inR]; simp at h; omega)
    have HN := Lib.hid hn
    replace hlen := Bool.eq_false_iff.mpr hlen
    clear hn
    go_enter Tryd.func15, Tryd.ntmps15
    go_wp2_with (go_at_call 25; refine (l1In_any _ _ _ _).mono ?_; rintro e w' ⟨rfl, rfl⟩)
    go_ret2
    exact end_no HN.out (Below.refl _ _)
end Go.Proofs.YtfkaohgbjiphbaaDoor.Fmt
