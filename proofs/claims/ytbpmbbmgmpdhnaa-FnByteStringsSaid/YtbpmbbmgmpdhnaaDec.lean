/- Contracts of DecodeInts of the program and of its model. -/
import Derived.Test.YtbpmbbmgmpdhnaaInfo
import Derived.Test.YtbpmbbmgmpdhnaaRdB
namespace Go.Proofs.Ytbpmbbmgmpdhnaa.Dec
open Go.RowKit Kit Rw Var LawsB Put Mn Rdv RdB

/-- The first c numbers behind an offset, and the offset behind them. -/
def da (L : List Int) (at' : Int) : Nat → Option (List Int × Int)
  | 0 => some ([], at')
  | c + 1 => match da L at' c with
    | none => none
    | some (l, nx) => if (rd L nx).2.2 = true then some (l ++ [(rd L nx).1], (rd L nx).2.1) else none
theorem da_no {L : List Int} {at' : Int} {c l nx} (h : da L at' c = some (l, nx)) (hr : (rd L nx).2.2 = false) : ∀ d, c < d → da L at' d = none
  | 0, hd => by omega
  | d + 1, hd => by
    rw [da]
    by_cases e : c = d
    · subst e; rw [h]; simp [hr]
    · rw [da_no h hr d (by omega)]
theorem da_yes {L : List Int} {at' : Int} {c l nx} (h : da L at' c = some (l, nx)) (hr : (rd L nx).2.2 = true) : da L at' (c + 1) = some (l ++ [(rd L nx).1], (rd L nx).2.1) := by
  rw [da, h]; simp [hr]
theorem da_len {L : List Int} {at' : Int} : ∀ {c : Nat} {l nx}, da L at' c = some (l, nx) → l.length = c
  | 0, l, nx, h => by rw [da] at h; injection h with h; injection h with h _; subst h; rfl
  | c + 1, l, nx, h => by
    rw [da] at h
    cases hc : da L at' c with
    | none => rw [hc] at h; cases h
    | some p =>
      obtain ⟨l', nx'⟩ := p
      rw [hc] at h
      simp only at h
      split at h
      · injection h with h
        injection h with h _
        have := da_len hc
        rw [← h]; simp [this]
      · cases h
/-- What DecodeInts answers. -/
def dec (L : List Int) (at' c : Int) : List Int × Int × Bool :=
  if (0 ≤ c ∧ c ≤ 100) ∧ 0 ≤ at' ∧ at' ≤ (L.length : Int) then
    match da L at' c.toNat with
    | some (l, nx) => (l, nx, true)
    | none => ([], 0, false)
  else ([], 0, false)
theorem dec_len (L : List Int) (at' c : Int) : (dec L at' c).1.length ≤ 100 := by
  unfold dec; split
  · cases h : da L at' c.toNat with
    | none => simp
    | some p => obtain ⟨l, nx⟩ := p; have := da_len h; simp; omega
  · simp

set_option maxRecDepth 20000 in
set_option maxHeartbeats 1000000 in
theorem decode_any (w : World) (v : Value) (L : List Int) (n q : Int) (hv : Sees .u8 w v L) (hL : L.length ≤ 100000000000) (hn : (Lit.int .i64 n).wf = true) (hq : (Lit.int .i64 q).wf = true) :
    Calls Try.prog 28 #[v, .int .i64 n, .int .i64 q] w fun e w' => ∃ u, e = .returned (.tuple #[u, .int .i64 (dec L n q).2.1, .bool (dec L n q).2.2]) ∧ Own .i64 3 w' w.heap.size u (dec L n q).1 ∧ w.grownBy w' none := by
  have HV := Lib.hid hv
  have HWF := Lib.hid hv.wf
  have HN := Lib.hid hn
  have hn64 := i64_of hn
  have hq64 := i64_of hq
  clear hn hq
  obtain ⟨i0, hi, hz0, hz1, hz2⟩ := info_parts Inf.info_i64
  obtain ⟨a, cap, rfl, _⟩ := hv
  by_cases hin : (0 ≤ q ∧ q ≤ 100) ∧ 0 ≤ n ∧ n ≤ (L.length : Int)
  · obtain ⟨c, rfl⟩ : ∃ c : Nat, q = c := ⟨q.toNat, by omega⟩
    have h1 : decide (0 ≤ (c : Int) ∧ (c : Int) ≤ 100) = true := by simpa using hin.1
    have h2 : decide (0 ≤ n ∧ n ≤ (L.length : Int)) = true := by simpa using hin.2
    have HIN := Lib.hid hin
    have hc100 : c ≤ 100 := by omega
    have hn0 : 0 ≤ n ∧ n ≤ (L.length : Int) := hin.2
    clear hin
    go_enter Try.func28, Try.ntmps28
    go_wp2_with (first
      | (go_at_call 66; refine (inRange_any _ _ _ _).mono ?_; rintro e w' ⟨rfl, rfl⟩)
      | (at_make; refine wpList_make_own _ rfl _ _ 35 rfl w.heap.size 3 i0 (.int .i64 0) 1 Try.underlying35 hi hz0 hz1 .i64 .i64 _ c rfl rfl rfl (by rw [hz2]; omega) (by unfold maxLen; omega) (Nat.le_refl _) ?_; intro w1 hown hgrow; have HO : Hid (Own .i64 3 w1 w.heap.size (.slice (some ⟨w.heap.size, 0, none⟩) 0 c) []) := ⟨by simpa using hown, by simp⟩; have HG := Lib.hid hgrow; clear hown hgrow))
    go_loopw [9, 10, 11, 12, 13, 32] (fun u nx _ _ _ i wr => ∃ j : Nat, ∃ l : List Int, ∃ p : Int, j ≤ c ∧ i = .int .i64 j ∧ nx = .int .i64 p ∧ 0 ≤ p ∧ p ≤ L.length ∧ Hid (da L n j = some (l, p)) ∧ Hid (Own .i64 3 wr w.heap.size u l) ∧ Hid (Below w.heap.size w wr))
      (fun _ _ _ _ _ i _ => c - (intOf i).toNat)
    case atStart => exact ⟨0, [], n, Nat.zero_le _, rfl, rfl, hn0.1, hn0.2, rfl, HO, grown_below HG.out _ (Nat.le_refl _)⟩
    case round =>
      obtain ⟨j, l, p, hj, rfl, rfl, hp0, hp1, HD, HO1, HB⟩ := hrel
      by_cases hlt : j < c
      · obtain ⟨x, y, ok, hr⟩ : ∃ x y ok, rd L p = (x, y, ok) := ⟨_, _, _, rfl⟩
        have HR := Lib.hid hr
        have hcall := read_three wr _ L p (HV.out.below HB.out) (i64_mk (by omega))
        rw [hr] at hcall
        have HCL := Lib.hid hcall
        clear hcall hr
        cases ok with
        | false =>
          have HE : Hid (dec L n c = ([], 0, false)) := by show _ = _; unfold dec; rw [if_pos HIN.out, Int.toNat_natCast, da_no HD.out (by rw [HR.out]) c hlt]
          go_wp2_with fail
          refine HCL.out.mono ?_
          rintro e w2 ⟨rfl, hg2⟩
          have HB2 := Lib.hid (HB.out.trans (grown_below hg2 _ HB.out.size))
          clear hg2
          go_wp2_with fail
          refine (nothingI_any w2).mono ?_
          rintro e w3 ⟨u3, rfl, ho3, hg3⟩
          have HO3 := Lib.hid ho3
          have HG3 := Lib.hid hg3
          clear ho3 hg3
          go_wp2
          go_ret3
          rw [HE.out]
          exact ⟨_, rfl, HO3.out.lower HB2.out.size, below_grown (HB2.out.trans (grown_below HG3.out _ HB2.out.size))⟩
        | true =>
          obtain ⟨m, s, rfl, rfl, hm, hs, hps, _, _⟩ := rd_ok HWF.out HR.out
          have HD2 : Hid (da L n (j + 1) = some (l ++ [(m : Int)], (s : Int))) := by
            have := da_yes HD.out (by rw [HR.out])
            rw [HR.out] at this
            exact this
          have hll : l.length ≤ 100 := by have := da_len HD.out; omega
          go_wp2_with fail
          refine HCL.out.mono ?_
          rintro e w2 ⟨rfl, hg2⟩
          have HB2 := Lib.hid (HB.out.trans (grown_below hg2 _ HB.out.size))
          have HO2 := Lib.hid (HO1.out.grown hg2)
          clear hg2
          go_wp2_with (at_builtin; go_loud (refine wpList_append_one _ rfl _ _ 35 rfl w.heap.size 3 i0 (.int .i64 0) 8 Try.underlying35 hi hz0 hz1 hz2 rfl .i64 _ l rfl HO2.out (m : Int) rfl (i64_mk (by omega)) (by omega) (by decide) HB2.out.size ?_); intro v3 w3 hown3 hgrow3; have HO3 := Lib.hid hown3; have HG3 := Lib.hid hgrow3; clear hown3 hgrow3)
          go_roundw
          case rel => exact ⟨j + 1, l ++ [(m : Int)], (s : Int), by omega, by go_num, by go_num, by omega, by omega, HD2, HO3, HB2.out.grown HG3.out HB2.out.size (fun c hc => (HO2.out.lt c hc).1)⟩
          case measure => simp [intOf]; omega
      · have hjc : j = c := by omega
        subst hjc
        have HE : Hid (dec L n (j : Nat) = (l, p, true)) := by show _ = _; unfold dec; rw [if_pos HIN.out, Int.toNat_natCast, HD.out]
        go_wp2
        go_ret3
        rw [HE.out]
        exact ⟨_, rfl, HO1.out, below_grown HB.out⟩
  · have HE : Hid (dec L n q = ([], 0, false)) := by show _ = _; unfold dec; rw [if_neg hin]
    by_cases h1 : 0 ≤ q ∧ q ≤ 100
    · have g1 : decide (0 ≤ q ∧ q ≤ 100) = true := by simpa using h1
      have g2 : decide (0 ≤ n ∧ n ≤ (L.length : Int)) = false := by
        rw [decide_eq_false_iff_not]; exact fun h => hin ⟨h1, h⟩
      clear hin h1
      go_enter Try.func28, Try.ntmps28
      go_wp2_with (first
        | (go_at_call 66; refine (inRange_any _ _ _ _).mono ?_; rintro e w' ⟨rfl, rfl⟩)
        | (go_at_call 72; refine (nothingI_any _).mono ?_; rintro e w3 ⟨u3, rfl, ho3, hg3⟩; have HO3 := Lib.hid ho3; have HG3 := Lib.hid hg3; clear ho3 hg3))
      go_ret3
      rw [HE.out]
      exact ⟨_, rfl, HO3.out, HG3.out⟩
    · have g1 : decide (0 ≤ q ∧ q ≤ 100) = false := by simpa using h1
      clear hin h1
      go_enter Try.func28, Try.ntmps28
      go_wp2_with (first
        | (go_at_call 66; refine (inRange_any _ _ _ _).mono ?_; rintro e w' ⟨rfl, rfl⟩)
        | (go_at_call 72; refine (nothingI_any _).mono ?_; rintro e w3 ⟨u3, rfl, ho3, hg3⟩; have HO3 := Lib.hid ho3; have HG3 := Lib.hid hg3; clear ho3 hg3))
      go_ret3
      rw [HE.out]
      exact ⟨_, rfl, HO3.out, HG3.out⟩
end Go.Proofs.Ytbpmbbmgmpdhnaa.Dec
