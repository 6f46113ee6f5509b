/- Contracts of ReadBytes and DecodeInts of the program and of their models. -/
import Derived.Test.YtbpmbbmgmpdhnaaRead
import Derived.Test.YtbpmbbmgmpdhnaaLawsB
namespace Go.Proofs.Ytbpmbbmgmpdhnaa.RdB
open Go.RowKit Kit Rw Var LawsB Put Mn Rdv

theorem rd_ok {L : List Int} {at' : Int} {n nx : Int} (hwf : ∀ x ∈ L, (Lit.int .u8 x).wf = true) (h : rd L at' = (n, nx, true)) :
    ∃ m s : Nat, n = m ∧ nx = s ∧ m ≤ 1000000000000 ∧ s ≤ L.length ∧ at' < nx ∧ 0 ≤ at' ∧ nx ≤ at' + 6 := by
  unfold rd at h
  split at h
  · rename_i hin
    cases hk : rdk (L.drop at'.toNat) 0 0 with
    | none => rw [hk] at h; simp at h
    | some p =>
      obtain ⟨q, j⟩ := p
      rw [hk] at h
      simp only [Prod.mk.injEq, and_true] at h
      obtain ⟨rfl, rfl⟩ := h
      obtain ⟨m, e1, e2, e3, e4, e5, e6⟩ := enc_rdk 6 0 0 _ q j rfl (fun x hx => u8_of (hwf x (List.mem_of_mem_drop hx))) hk
      have hm : q = (m : Int) := by rw [e1]; simp
      have hl := enc_len 5 m (by omega)
      rw [List.length_drop] at e5
      exact ⟨m, at'.toNat + j, hm, by omega, by omega, by omega, by omega, hin.1, by omega⟩
  · simp at h

/-- What ReadBytes answers. -/
def rb (L : List Int) (at' most : Int) : List Int × Int × Bool :=
  if (rd L at').2.2 = true ∧ (rd L at').1 ≤ most ∧ (rd L at').1 ≤ L.length - (rd L at').2.1 then
    ((L.drop (rd L at').2.1.toNat).take (rd L at').1.toNat, (rd L at').2.1 + (rd L at').1, true)
  else ([], 0, false)

theorem rb_len (L : List Int) (n q : Int) : (rb L n q).1.length ≤ L.length := by
  unfold rb; split
  · simp; omega
  · simp
theorem sees_cut {k : IntKind} {w : World} {b o c s n : Nat} {L : List Int} (hc : ∀ j, j < L.length → w.cell? ⟨b, o + j, none⟩ = some (.int k (L.getD j 0))) (hwf : ∀ x ∈ L, (Lit.int k x).wf = true) (hsn : s + n ≤ L.length) (hn : n ≤ c) (hcm : c ≤ maxLen) :
    Sees k w (.slice (some ⟨b, o + s, none⟩) n c) ((L.drop s).take n) := by
  have hl : ((L.drop s).take n).length = n := by simp; omega
  refine ⟨_, c, by rw [hl], by omega, hcm, (fun h => by cases h), fun x hx => hwf x (List.mem_of_mem_drop (List.mem_of_mem_take hx)), .inr ⟨b, o + s, rfl, fun j hj => ?_⟩⟩
  rw [hl] at hj
  rw [Nat.add_assoc, hc (s + j) (by omega)]
  congr 2
  rw [List.getD_eq_getElem?_getD, List.getD_eq_getElem?_getD, List.getElem?_take, if_pos hj, List.getElem?_drop]
theorem sees_zero {k : IntKind} (w : World) (x : Addr) (c : Nat) (hc : c ≤ maxLen) : Sees k w (.slice (some x) 0 c) [] :=
  ⟨_, c, rfl, Nat.zero_le _, hc, (fun h => by cases h), by simp, .inl rfl⟩

theorem nothingB_any (w : World) :
    Calls Try.prog 71 #[] w fun e w' => ∃ u, e = .returned (.tuple #[u, .int .i64 0, .bool false]) ∧ Own .u8 5 w' w.heap.size u [] ∧ w.grownBy w' none := by
  go_enter Try.func71, Try.ntmps71
  go_wp2
  go_ret3
  exact ⟨_, rfl, own_empty _, World.grownBy_alloc _ _ _⟩
theorem nothingI_any (w : World) :
    Calls Try.prog 72 #[] w fun e w' => ∃ u, e = .returned (.tuple #[u, .int .i64 0, .bool false]) ∧ Own .i64 3 w' w.heap.size u [] ∧ w.grownBy w' none := by
  go_enter Try.func72, Try.ntmps72
  go_wp2
  go_ret3
  exact ⟨_, rfl, own_empty _, World.grownBy_alloc _ _ _⟩

set_option maxRecDepth 20000 in
set_option maxHeartbeats 1000000 in
theorem readBytes_any (w : World) (v : Value) (L : List Int) (n q : Int) (hv : Sees .u8 w v L) (hL : L.length ≤ 100000000000) (hn : (Lit.int .i64 n).wf = true) (hq : (Lit.int .i64 q).wf = true) :
    Calls Try.prog 25 #[v, .int .i64 n, .int .i64 q] w fun e w' => ∃ u, e = .returned (.tuple #[u, .int .i64 (rb L n q).2.1, .bool (rb L n q).2.2]) ∧ Own .u8 5 w' w.heap.size u (rb L n q).1 ∧ w.grownBy w' none := by
  have HV := Lib.hid hv
  have HN := Lib.hid hn
  have hn64 := i64_of hn
  have hq64 := i64_of hq
  clear hn hq
  obtain ⟨a, cap, rfl, hlc, hcm, hnil, hwf, hcell⟩ := hv
  have HC := Lib.hid hcell
  have HW := Lib.hid hwf
  clear hwf hcell hnil
  obtain ⟨x, y, ok, hr⟩ : ∃ x y ok, rd L n = (x, y, ok) := ⟨_, _, _, rfl⟩
  have HR := Lib.hid hr
  have hcall := read_three w _ L n HV.out HN.out
  rw [hr] at hcall
  have HCL := Lib.hid hcall
  clear hcall hr
  cases ok with
  | false =>
    have HE : Hid (rb L n q = ([], 0, false)) := by show _ = _; unfold rb; rw [HR.out]; simp
    go_enter Try.func25, Try.ntmps25
    go_wp2_with fail
    refine HCL.out.mono ?_
    rintro e w1 ⟨rfl, hg1⟩
    have HG1 := Lib.hid hg1
    clear hg1
    go_wp2_with fail
    refine (nothingB_any w1).mono ?_
    rintro e w2 ⟨u, rfl, ho, hg2⟩
    have HO := Lib.hid ho
    have HG2 := Lib.hid hg2
    clear ho hg2
    go_wp2
    go_ret3
    rw [HE.out]
    exact ⟨u, rfl, HO.out.lower HG1.out.size, grownN_trans HG1.out HG2.out⟩
  | true =>
    obtain ⟨m, s, rfl, rfl, hm, hs, _, _, _⟩ := rd_ok HW.out HR.out
    by_cases h1 : (m : Int) > q
    · have HE : Hid (rb L n q = ([], 0, false)) := by show _ = _; unfold rb; rw [HR.out, if_neg (by simp; omega)]
      go_enter Try.func25, Try.ntmps25
      go_wp2_with fail
      refine HCL.out.mono ?_
      rintro e w1 ⟨rfl, hg1⟩
      have HG1 := Lib.hid hg1
      clear hg1
      go_wp2_with fail
      refine (nothingB_any w1).mono ?_
      rintro e w2 ⟨u, rfl, ho, hg2⟩
      have HO := Lib.hid ho
      have HG2 := Lib.hid hg2
      clear ho hg2
      go_wp2
      go_ret3
      rw [HE.out]
      exact ⟨u, rfl, HO.out.lower HG1.out.size, grownN_trans HG1.out HG2.out⟩
    · by_cases h2 : (m : Int) > (L.length : Int) - (s : Int)
      · have HE : Hid (rb L n q = ([], 0, false)) := by show _ = _; unfold rb; rw [HR.out, if_neg (by simp; omega)]
        go_enter Try.func25, Try.ntmps25
        go_wp2_with fail
        refine HCL.out.mono ?_
        rintro e w1 ⟨rfl, hg1⟩
        have HG1 := Lib.hid hg1
        clear hg1
        go_wp2_with fail
        refine (nothingB_any w1).mono ?_
        rintro e w2 ⟨u, rfl, ho, hg2⟩
        have HO := Lib.hid ho
        have HG2 := Lib.hid hg2
        clear ho hg2
        go_wp2
        go_ret3
        rw [HE.out]
        exact ⟨u, rfl, HO.out.lower HG1.out.size, grownN_trans HG1.out HG2.out⟩
      · have HE : Hid (rb L n q = ((L.drop s).take m, (s : Int) + m, true)) := by show _ = _; unfold rb; rw [HR.out, if_pos (by simp; omega)]; simp
        rcases HC.out with hX | ⟨b, o, rfl, hc⟩
        · have : L.length = 0 := by rw [hX]; rfl
          omega
        have HCC := Lib.hid hc
        clear hc
        have HLEN : Hid ((((L.drop s).take m).length : Int) + 0 ≤ 1000000000000) := by show _ + (0 : Int) ≤ _; simp; omega
        by_cases hm0 : m = 0
        · subst hm0
          have HS : Hid (∀ w', w.grownBy w' none → Sees .u8 w' (.slice (some ⟨b, o, none⟩) 0 0) ((L.drop s).take 0)) := fun w' hg => by rw [List.take_zero]; exact sees_zero _ _ _ (Nat.zero_le _)
          go_enter Try.func25, Try.ntmps25
          go_wp2_with fail
          refine HCL.out.mono ?_
          rintro e w1 ⟨rfl, hg1⟩
          have HG1 := Lib.hid hg1
          clear hg1
          go_wp2_with fail
          refine (copy_any w1 _ _ 0 (HS.out w1 HG1.out) (by decide) HLEN.out).mono ?_
          rintro e w2 ⟨u, rfl, ho, hg2⟩
          have HO := Lib.hid ho
          have HG2 := Lib.hid hg2
          clear ho hg2
          go_wp2
          go_ret3
          rw [HE.out]
          exact ⟨u, rfl, HO.out.lower HG1.out.size, grownN_trans HG1.out HG2.out⟩
        · have HS : Hid (∀ w', w.grownBy w' none → Sees .u8 w' (.slice (some ⟨b, o + s, none⟩) m m) ((L.drop s).take m)) := fun w' hg => (sees_cut HCC.out HW.out (by omega) (Nat.le_refl _) (by omega)).grown hg
          go_enter Try.func25, Try.ntmps25
          go_wp2_with fail
          refine HCL.out.mono ?_
          rintro e w1 ⟨rfl, hg1⟩
          have HG1 := Lib.hid hg1
          clear hg1
          go_wp2_with fail
          refine (copy_any w1 _ _ 0 (HS.out w1 HG1.out) (by decide) HLEN.out).mono ?_
          rintro e w2 ⟨u, rfl, ho, hg2⟩
          have HO := Lib.hid ho
          have HG2 := Lib.hid hg2
          clear ho hg2
          go_wp2
          go_ret3
          rw [HE.out]
          exact ⟨u, rfl, HO.out.lower HG1.out.size, grownN_trans HG1.out HG2.out⟩

set_option maxRecDepth 20000 in
set_option maxHeartbeats 1000000 in
theorem sReadBytes_any (w : World) (v : Value) (L : List Int) (n q : Int) (hv : Sees .u8 w v L) (hL : L.length ≤ 100000000000) (hn : (Lit.int .i64 n).wf = true) (hq : (Lit.int .i64 q).wf = true) :
    Calls Try.prog 47 #[v, .int .i64 n, .int .i64 q] w fun e w' => ∃ u, e = .returned (.tuple #[u, .int .i64 (rb L n q).2.1, .bool (rb L n q).2.2]) ∧ Own .u8 5 w' w.heap.size u (rb L n q).1 ∧ w.grownBy w' none := by
  have HV := Lib.hid hv
  have HN := Lib.hid hn
  have hn64 := i64_of hn
  have hq64 := i64_of hq
  clear hn hq
  obtain ⟨i0, hi, hz0, hz1, hz2⟩ := info_parts info_u8
  obtain ⟨a, cap, rfl, hlc, hcm, hnil, hwf, hcell⟩ := hv
  have HC := Lib.hid hcell
  have HW := Lib.hid hwf
  clear hwf hcell hnil
  obtain ⟨x, y, ok, hr⟩ : ∃ x y ok, rd L n = (x, y, ok) := ⟨_, _, _, rfl⟩
  have HR := Lib.hid hr
  have hcall := sRead_three w _ L n HV.out (by omega) HN.out
  rw [hr] at hcall
  have HCL := Lib.hid hcall
  clear hcall hr
  cases ok with
  | false =>
    have HE : Hid (rb L n q = ([], 0, false)) := by show _ = _; unfold rb; rw [HR.out]; simp
    go_enter Try.func47, Try.ntmps47
    go_wp2_with fail
    refine HCL.out.mono ?_
    rintro e w1 ⟨rfl, hg1⟩
    have HG1 := Lib.hid hg1
    clear hg1
    go_wp2
    go_ret3
    rw [HE.out]
    exact ⟨_, rfl, (own_empty _).lower HG1.out.size, grownN_trans HG1.out (World.grownBy_alloc _ _ _)⟩
  | true =>
    obtain ⟨m, s, rfl, rfl, hm, hs, _, _, _⟩ := rd_ok HW.out HR.out
    by_cases h1 : (m : Int) > q
    · have HE : Hid (rb L n q = ([], 0, false)) := by show _ = _; unfold rb; rw [HR.out, if_neg (by simp; omega)]
      go_enter Try.func47, Try.ntmps47
      go_wp2_with fail
      refine HCL.out.mono ?_
      rintro e w1 ⟨rfl, hg1⟩
      have HG1 := Lib.hid hg1
      clear hg1
      go_wp2
      go_ret3
      rw [HE.out]
      exact ⟨_, rfl, (own_empty _).lower HG1.out.size, grownN_trans HG1.out (World.grownBy_alloc _ _ _)⟩
    · by_cases h2 : (m : Int) > (L.length : Int) - (s : Int)
      · have HE : Hid (rb L n q = ([], 0, false)) := by show _ = _; unfold rb; rw [HR.out, if_neg (by simp; omega)]
        go_enter Try.func47, Try.ntmps47
        go_wp2_with fail
        refine HCL.out.mono ?_
        rintro e w1 ⟨rfl, hg1⟩
        have HG1 := Lib.hid hg1
        clear hg1
        go_wp2
        go_ret3
        rw [HE.out]
        exact ⟨_, rfl, (own_empty _).lower HG1.out.size, grownN_trans HG1.out (World.grownBy_alloc _ _ _)⟩
      · have HE : Hid (rb L n q = ((L.drop s).take m, (s : Int) + m, true)) := by show _ = _; unfold rb; rw [HR.out, if_pos (by simp; omega)]; simp
        rcases HC.out with hX | ⟨b, o, rfl, hc⟩
        · have : L.length = 0 := by rw [hX]; rfl
          omega
        have HCC := Lib.hid hc
        clear hc
        have hl : ((L.drop s).take m).length ≤ 100000000000 := by simp; omega
        have HLM : Hid (([] : List Int).length + ((L.drop s).take m).length ≤ maxLen) := by show _ + _ ≤ _; unfold maxLen; simp only [List.length_nil]; omega
        have HLB : Hid ((([] : List Int).length + ((L.drop s).take m).length) * 1 ≤ 140737488355328) := by show _ * _ ≤ _; simp only [List.length_nil]; omega
        clear hl
        by_cases hsc : s = cap
        · have hm0 : m = 0 := by omega
          subst hm0
          subst hsc
          have HS : Hid (∀ w', w.grownBy w' none → Sees .u8 w' (.slice (some ⟨b, o, none⟩) 0 0) ((L.drop s).take 0)) := fun _ _ => by rw [List.take_zero]; exact sees_zero _ _ _ (Nat.zero_le _)
          have HO1 : Hid (∀ w1 : World, Own .u8 5 (w1.alloc (.cells #[] 5 (0, 0))) w1.heap.size (.slice (some ⟨w1.heap.size, 0, none⟩) 0 0) []) := fun w1 => own_empty w1
          go_enter Try.func47, Try.ntmps47
          go_wp2_with fail
          refine HCL.out.mono ?_
          rintro e w1 ⟨rfl, hg1⟩
          have HG1 := Lib.hid hg1
          clear hg1
          have HSA := Lib.hid (HS.out (w1.alloc (.cells #[] 5 (0, 0))) (grownN_trans HG1.out (World.grownBy_alloc _ _ _)))
          have HOA := Lib.hid (HO1.out w1)
          go_wp2_with (at_builtin; go_loud (refine wpList_append_sees _ rfl _ _ 22 rfl w1.heap.size 5 i0 (.int .u8 0) 1 Try.underlying22 hi hz0 hz1 hz2 rfl .u8 _ [] rfl HOA.out _ _ rfl HSA.out HLM.out HLB.out (by simp) ?_); intro v2 w2 hown2 hgrow2; have HO2 := Lib.hid hown2; have HG2 := Lib.hid (grown_new (World.grownBy_alloc w1 _ none) hgrow2 (fun c hc => (HOA.out.lt c hc).1)); clear hown2 hgrow2)
          go_ret3
          rw [HE.out]
          exact ⟨_, rfl, HO2.out.lower HG1.out.size, grownN_trans HG1.out HG2.out⟩
        · have hsc1 : s < cap := by omega
          have HS : Hid (∀ w', w.grownBy w' none → Sees .u8 w' (.slice (some ⟨b, o + s, none⟩) (s + m - s) (cap - s)) ((L.drop s).take m)) := fun w' hg => by rw [Nat.add_sub_cancel_left]; exact (sees_cut HCC.out HW.out (by omega) (by omega) (by omega)).grown hg
          clear hsc
          have HO1 : Hid (∀ w1 : World, Own .u8 5 (w1.alloc (.cells #[] 5 (0, 0))) w1.heap.size (.slice (some ⟨w1.heap.size, 0, none⟩) 0 0) []) := fun w1 => own_empty w1
          go_enter Try.func47, Try.ntmps47
          go_wp2_with fail
          refine HCL.out.mono ?_
          rintro e w1 ⟨rfl, hg1⟩
          have HG1 := Lib.hid hg1
          clear hg1
          have HSA := Lib.hid (HS.out (w1.alloc (.cells #[] 5 (0, 0))) (grownN_trans HG1.out (World.grownBy_alloc _ _ _)))
          have HOA := Lib.hid (HO1.out w1)
          go_wp2_with (at_builtin; go_loud (refine wpList_append_sees _ rfl _ _ 22 rfl w1.heap.size 5 i0 (.int .u8 0) 1 Try.underlying22 hi hz0 hz1 hz2 rfl .u8 _ [] rfl HOA.out _ _ rfl HSA.out HLM.out HLB.out (by simp) ?_); intro v2 w2 hown2 hgrow2; have HO2 := Lib.hid hown2; have HG2 := Lib.hid (grown_new (World.grownBy_alloc w1 _ none) hgrow2 (fun c hc => (HOA.out.lt c hc).1)); clear hown2 hgrow2)
          go_ret3
          rw [HE.out]
          exact ⟨_, rfl, HO2.out.lower HG1.out.size, grownN_trans HG1.out HG2.out⟩
end Go.Proofs.Ytbpmbbmgmpdhnaa.RdB
