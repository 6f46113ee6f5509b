/- The law FnVarints: an integer is decoded from its varint, and a decoded varint is the encoding of its integer. No condition. -/
import Derived.Deep.RegionHeld3
import Derived.Test.YtbpmbbmgmpdhnaaRows
import Derived.Test.YtbpmbbmgmpdhnaaDraw2
import Derived.Test.YtbpmbbmgmpdhnaaSame
import Derived.Test.YtbpmbbmgmpdhnaaRdB
import Derived.WalkKit
import Derived.ProofKit
import Derived.OpenShut
import Derived.ShutString
import Derived.ChangeOld
import Derived.Below
import Derived.Deep.DeepHandedRow
import Derived.Deep.DeepWitnessRowRef
import Derived.Lib.LaidTab
namespace Go.Proofs.Ytbpmbbmgmpdhnaa.fnVarints
open Go.ChangeShapes Go.WideShapes Go.ChangeAt Go.RowKit
open Go.ChangeMaps (open_string shut_string)
set_option linter.unusedVariables false

theorem own : ownKnob Try.prog.godebug = none := by kernel_rfl
theorem laidOut : laidOutB Try.prog = true := by kernel_rfl

open Kit Rw Var LawsB Put Rdv RdB Draw Same

theorem rd_false {L : List Int} {n : Int} (h : (rd L n).2.2 = false) : rd L n = (0, 0, false) := by
  unfold rd at h ⊢
  split
  · rename_i hin
    rw [if_pos hin] at h
    cases hk : rdk (L.drop n.toNat) 0 0 with
    | none => rfl
    | some p => obtain ⟨q, j⟩ := p; rw [hk] at h; simp at h
  · rfl
/-- What has been read is the varint that lies there. -/
theorem rd_read {L : List Int} {at' : Int} {n nx : Int} (hwf : ∀ x ∈ L, (Lit.int .u8 x).wf = true) (h : rd L at' = (n, nx, true)) :
    ∃ m s t : Nat, n = m ∧ at' = t ∧ nx = s ∧ m ≤ 1000000000000 ∧ t < s ∧ s ≤ L.length ∧ enc m = (L.drop t).take (s - t) := by
  unfold rd at h
  split at h
  · rename_i hin
    cases hk : rdk (L.drop at'.toNat) 0 0 with
    | none => rw [hk] at h; simp at h
    | some p =>
      obtain ⟨q, j⟩ := p
      rw [hk] at h
      simp only [Prod.mk.injEq, and_true] at h
      obtain ⟨rfl, rfl⟩ := h
      obtain ⟨m, e1, e2, e3, e4, e5, e6⟩ := enc_rdk 6 0 0 _ q j rfl (fun x hx => u8_of (hwf x (List.mem_of_mem_drop hx))) hk
      have hm : q = (m : Int) := by rw [e1]; simp
      have hl := enc_len 5 m (by omega)
      rw [List.length_drop] at e5
      refine ⟨m, at'.toNat + j, at'.toNat, hm, by omega, by omega, by omega, by omega, by omega, ?_⟩
      rw [e6]
      congr 1
      omega
  · simp at h
/-- What is read where a number has been written behind other bytes. -/
theorem rd_put (L : List Int) (n : Nat) (hn : n ≤ 1000000000000) : rd (L ++ enc n) (L.length : Nat) = ((n : Int), ((L ++ enc n).length : Int), true) := by
  have h := rdk_enc 6 n 0 0 [] (by omega) (by omega) (by omega) (by omega) (by simp; omega)
  rw [List.append_nil] at h
  have h2 : rdk ((L ++ enc n).drop L.length) 0 0 = some ((n : Int), (enc n).length) := by
    rw [List.drop_left, h]
    simp
  rw [rd_some (by simp) h2]
  simp
theorem rd_end (L : List Int) : rd L (L.length : Nat) = (0, 0, false) := rd_none (Nat.le_refl _) (by rw [List.drop_length]; rfl)

theorem shape {k : IntKind} {w : World} {v : Value} {L : List Int} (h : Sees k w v L) : ∃ a n cap, v = .slice a n cap ∧ Hid (L.length = n) := by
  obtain ⟨a, cap, h, _⟩ := h
  exact ⟨a, _, cap, h, rfl⟩

set_option maxRecDepth 100000 in
set_option maxHeartbeats 400000 in
theorem walk (w : World) (a : Option Addr) (len cap : Nat) (z : List Int) (w0 : Kit.IsRow .u8 w a len cap z) :
    Calls Try.prog 3 #[.slice a len cap] w fun e w' => e = .returned (.bool true) ∧ Below w.heap.size w w' := by
  have hll := w0.len_le
  have hl64 : len ≤ 9223372036854775807 := by unfold maxLen at hll; omega
  have HR := Lib.hid w0
  clear w0 hll
  by_cases hbig : 1048576 < len
  · go_enter Try.func3, Try.ntmps3
    go_wp2_with (go_at_call 16; refine (big_any _ _ _ _ hl64).mono ?_; rintro e w' ⟨rfl, rfl⟩)
    go_ret
    exact ⟨rfl, Below.refl _ _⟩
  go_enter Try.func3, Try.ntmps3
  go_wp2_with fail
  refine (big_any _ _ _ _ hl64).mono ?_
  rintro e w' ⟨rfl, rfl⟩
  go_wp2_with fail
  refine (dAppendUvarint_any w a len cap z HR.out).mono ?_
  rintro e w1 ⟨u, L, n, rfl, ho, hL, hn, hg⟩
  have HO := Lib.hid ho
  have HN := Lib.hid hn.wf
  have HL := Lib.hid hL
  have HB1 := Lib.hid (grown_below hg w.heap.size (Nat.le_refl _))
  clear ho hn hL hg
  obtain ⟨ua, un, uc, hu, HUN⟩ := shape HO.out.sees
  subst hu
  go_wp2_with fail
  refine (uvarint_any w1 _ L n HO.out.sees (by have := HL.out; omega) HN.out).mono ?_
  rintro e w2 ⟨x, rfl, ho, hg⟩
  have HX := Lib.hid ho
  have HO2 := Lib.hid (HO.out.grown hg)
  have HB2 := Lib.hid (HB1.out.trans (grown_below hg _ HB1.out.size))
  clear ho hg HO HB1
  obtain ⟨xa, xn, xc, hx, HXN⟩ := shape HX.out.sees
  subst hx
  go_wp2_with fail
  refine (read_three w2 _ (L ++ encI n) (un : Nat) HX.out.sees (i64_mk (by have := HL.out; have := HUN.out; omega))).mono ?_
  rintro e w3 ⟨rfl, hg⟩
  have HX3 := Lib.hid (HX.out.grown hg)
  have HO3 := Lib.hid (HO2.out.grown hg)
  have HB3 := Lib.hid (HB2.out.trans (grown_below hg _ HB2.out.size))
  clear hg HX HO2 HB2
  by_cases hin : 0 ≤ n ∧ n ≤ 1000000000000
  · obtain ⟨q, rfl⟩ : ∃ q : Nat, n = q := ⟨n.toNat, by omega⟩
    have he : encI (q : Int) = enc q := by unfold encI; rw [if_pos hin]; simp
    have hrd : rd (L ++ encI (q : Int)) (un : Nat) = ((q : Int), (xn : Int), true) := by
      have h1 := HXN.out
      rw [he] at h1 ⊢
      rw [← HUN.out, ← h1]
      exact rd_put L q (by omega)
    rw [hrd]
    clear hrd he
    clear HX3 HO3
    go_wp2_with fail
    refine (dReadUvarint_any w3 a len cap z (HR.out.below HB3.out)).mono ?_
    rintro e w4 ⟨y, M, o, rfl, ho, hM, hob, hg⟩
    have HY := Lib.hid ho
    have HOB := Lib.hid hob.wf
    have HM := Lib.hid hM
    have HB4 := Lib.hid (HB3.out.trans (grown_below hg _ HB3.out.size))
    clear ho hob hM hg
    obtain ⟨ya, yn, yc, hy, HYN⟩ := shape HY.out.sees
    subst hy
    go_wp2_with fail
    refine (read_three w4 _ M o HY.out.sees HOB.out).mono ?_
    rintro e w5 ⟨rfl, hg⟩
    have HY5 := Lib.hid (HY.out.grown hg)
    have HB5 := Lib.hid (HB4.out.trans (grown_below hg _ HB4.out.size))
    clear hg HY HB4
    obtain ⟨r1, r2, r3, hr⟩ : ∃ r1 r2 r3, rd M o = (r1, r2, r3) := ⟨_, _, _, rfl⟩
    cases r3 with
    | false =>
      have hr' := rd_false (by rw [hr])
      rw [hr']
      have HRD := Lib.hid hr'
      clear hr hr'
      go_wp2_with fail
      refine (sRead_three w5 _ M o HY5.out.sees (by have := HM.out; omega) HOB.out).mono ?_
      rintro e w6 ⟨rfl, hg⟩
      rw [HRD.out]
      have HB6 := Lib.hid (HB5.out.trans (grown_below hg _ HB5.out.size))
      clear hg
      go_wp2
      go_ret
      exact ⟨rfl, HB6.out⟩
    | true =>
      obtain ⟨m, s, t, rfl, rfl, rfl, hm, hts, hs, he⟩ := rd_read HY5.out.sees.wf hr
      rw [hr]
      have HE := Lib.hid he
      have hsn : s ≤ yn := by have := HYN.out; omega
      clear hr he hs
      obtain ⟨ya', yc', hyy, hyc, hycm, _, hywf, hyy2⟩ := HY5.out.sees
      injection hyy with hy1 hy2 hy3
      subst hy1
      subst hy3
      rcases hyy2 with hM0 | ⟨b, ob, rfl, hcell⟩
      · have h0 := HYN.out
        rw [hM0] at h0
        simp at h0
        omega
      have HSL : Hid (∀ w', w5.grownBy w' none → Sees .u8 w' (.slice (some ⟨b, ob + t, none⟩) (s - t) (yc - t)) (enc m)) := fun w' hg => by
        have h1 := HYN.out
        rw [HE.out]
        exact (sees_cut (c := yc - t) hcell hywf (by omega) (by omega) (by omega)).grown hg
      have hyc2 : yn ≤ yc := by have := HYN.out; omega
      have hyc3 : t < yc := by omega
      have HM2 : Hid ((Lit.int .i64 (m : Int)).wf = true) := i64_mk (by omega)
      clear hcell hywf hy2
      go_wp2_with fail
      have k1 : (0 : Int) ≤ (t : Int) := by omega
      have k2 : (s : Int) ≤ (yn : Int) := by omega
      have k3 : (t : Int) < (s : Int) := by omega
      have k4 : (t : Int) ≤ (s : Int) := by omega
      have k5 : (s : Int) ≤ (yc : Int) := by omega
      have HEM : Hid (Sees .u8 (w5.alloc (.cells #[] 5 (0, 0))).drew (.slice (some ⟨w5.heap.size, 0, none⟩) 0 0) []) := (own_empty (E := 5) w5).sees.grown (grown_drew (grown_refl _ none))
      have HGA : Hid (w5.grownBy (w5.alloc (.cells #[] 5 (0, 0))).drew none) := grown_drew (World.grownBy_alloc _ _ _)
      have HMM : Hid ([] ++ encI (m : Int) = enc m) := by show _ = _; unfold encI; rw [if_pos (by omega)]; simp
      have fin : ∀ w6 w7 : World, w5.grownBy w6 none → w6.grownBy w7 none → Below w.heap.size w w7 := fun w6 w7 h6 h7 => HB5.out.trans (grown_below (grownN_trans h6 h7) _ HB5.out.size)
      have FIN := Lib.hid fin
      clear fin
      go_region_held3 (fun _ => True) (trivial) (first
        | (go_at_call 18; refine (uvarint_any _ _ [] (m : Int) HEM.out (by decide) HM2.out).mono ?_; rintro e w6 ⟨v6, rfl, ho6, hg6⟩; have HG6 := Lib.hid (grownN_trans HGA.out hg6); rw [HMM.out] at ho6; have HO6 := Lib.hid ho6.sees; have HS6 := Lib.hid (HSL.out w6 HG6.out); clear ho6 hg6)
        | (go_at_call 20; refine (same_same _ _ _ (enc m) HO6.out HS6.out).mono ?_; rintro e w7 ⟨rfl, hg7⟩; have HG7 := Lib.hid hg7; clear hg7))
      go_wp2
      go_ret
      exact ⟨rfl, FIN.out _ _ HG6.out HG7.out⟩
  · have he : encI n = [] := by unfold encI; rw [if_neg hin]
    rw [he, List.append_nil] at HX3
    have hrd : rd (L ++ encI n) (un : Nat) = (0, 0, false) := by
      rw [he, List.append_nil, ← HUN.out]
      exact rd_end L
    rw [hrd]
    clear hrd he
    by_cases hneg : n < 0
    · clear hin
      go_wp2_with fail
      refine (same_same w3 _ _ L HX3.out.sees HO3.out.sees).mono ?_
      rintro e w3 ⟨rfl, hg⟩
      have HB3 := Lib.hid (HB3.out.trans (grown_below hg _ HB3.out.size))
      clear hg HX3 HO3
      go_wp2_with fail
      refine (dReadUvarint_any w3 a len cap z (HR.out.below HB3.out)).mono ?_
      rintro e w4 ⟨y, M, o, rfl, ho, hM, hob, hg⟩
      have HY := Lib.hid ho
      have HOB := Lib.hid hob.wf
      have HM := Lib.hid hM
      have HB4 := Lib.hid (HB3.out.trans (grown_below hg _ HB3.out.size))
      clear ho hob hM hg
      obtain ⟨ya, yn, yc, hy, HYN⟩ := shape HY.out.sees
      subst hy
      go_wp2_with fail
      refine (read_three w4 _ M o HY.out.sees HOB.out).mono ?_
      rintro e w5 ⟨rfl, hg⟩
      have HY5 := Lib.hid (HY.out.grown hg)
      have HB5 := Lib.hid (HB4.out.trans (grown_below hg _ HB4.out.size))
      clear hg HY HB4
      obtain ⟨r1, r2, r3, hr⟩ : ∃ r1 r2 r3, rd M o = (r1, r2, r3) := ⟨_, _, _, rfl⟩
      cases r3 with
      | false =>
        have hr' := rd_false (by rw [hr])
        rw [hr']
        have HRD := Lib.hid hr'
        clear hr hr'
        go_wp2_with fail
        refine (sRead_three w5 _ M o HY5.out.sees (by have := HM.out; omega) HOB.out).mono ?_
        rintro e w6 ⟨rfl, hg⟩
        rw [HRD.out]
        have HB6 := Lib.hid (HB5.out.trans (grown_below hg _ HB5.out.size))
        clear hg
        go_wp2
        go_ret
        exact ⟨rfl, HB6.out⟩
      | true =>
        obtain ⟨m, s, t, rfl, rfl, rfl, hm, hts, hs, he⟩ := rd_read HY5.out.sees.wf hr
        rw [hr]
        have HE := Lib.hid he
        have hsn : s ≤ yn := by have := HYN.out; omega
        clear hr he hs
        obtain ⟨ya', yc', hyy, hyc, hycm, _, hywf, hyy2⟩ := HY5.out.sees
        injection hyy with hy1 hy2 hy3
        subst hy1
        subst hy3
        rcases hyy2 with hM0 | ⟨b, ob, rfl, hcell⟩
        · have h0 := HYN.out
          rw [hM0] at h0
          simp at h0
          omega
        have HSL : Hid (∀ w', w5.grownBy w' none → Sees .u8 w' (.slice (some ⟨b, ob + t, none⟩) (s - t) (yc - t)) (enc m)) := fun w' hg => by
          have h1 := HYN.out
          rw [HE.out]
          exact (sees_cut (c := yc - t) hcell hywf (by omega) (by omega) (by omega)).grown hg
        have hyc2 : yn ≤ yc := by have := HYN.out; omega
        have hyc3 : t < yc := by omega
        have HM2 : Hid ((Lit.int .i64 (m : Int)).wf = true) := i64_mk (by omega)
        clear hcell hywf hy2
        go_wp2_with fail
        have k1 : (0 : Int) ≤ (t : Int) := by omega
        have k2 : (s : Int) ≤ (yn : Int) := by omega
        have k3 : (t : Int) < (s : Int) := by omega
        have k4 : (t : Int) ≤ (s : Int) := by omega
        have k5 : (s : Int) ≤ (yc : Int) := by omega
        have HEM : Hid (Sees .u8 (w5.alloc (.cells #[] 5 (0, 0))).drew (.slice (some ⟨w5.heap.size, 0, none⟩) 0 0) []) := (own_empty (E := 5) w5).sees.grown (grown_drew (grown_refl _ none))
        have HGA : Hid (w5.grownBy (w5.alloc (.cells #[] 5 (0, 0))).drew none) := grown_drew (World.grownBy_alloc _ _ _)
        have HMM : Hid ([] ++ encI (m : Int) = enc m) := by show _ = _; unfold encI; rw [if_pos (by omega)]; simp
        have fin : ∀ w6 w7 : World, w5.grownBy w6 none → w6.grownBy w7 none → Below w.heap.size w w7 := fun w6 w7 h6 h7 => HB5.out.trans (grown_below (grownN_trans h6 h7) _ HB5.out.size)
        have FIN := Lib.hid fin
        clear fin
        go_region_held3 (fun _ => True) (trivial) (first
          | (go_at_call 18; refine (uvarint_any _ _ [] (m : Int) HEM.out (by decide) HM2.out).mono ?_; rintro e w6 ⟨v6, rfl, ho6, hg6⟩; have HG6 := Lib.hid (grownN_trans HGA.out hg6); rw [HMM.out] at ho6; have HO6 := Lib.hid ho6.sees; have HS6 := Lib.hid (HSL.out w6 HG6.out); clear ho6 hg6)
          | (go_at_call 20; refine (same_same _ _ _ (enc m) HO6.out HS6.out).mono ?_; rintro e w7 ⟨rfl, hg7⟩; have HG7 := Lib.hid hg7; clear hg7))
        go_wp2
        go_ret
        exact ⟨rfl, FIN.out _ _ HG6.out HG7.out⟩
    · have hbg : 1000000000000 < n := by omega
      clear hin
      go_wp2_with fail
      refine (same_same w3 _ _ L HX3.out.sees HO3.out.sees).mono ?_
      rintro e w3 ⟨rfl, hg⟩
      have HB3 := Lib.hid (HB3.out.trans (grown_below hg _ HB3.out.size))
      clear hg HX3 HO3
      go_wp2_with fail
      refine (dReadUvarint_any w3 a len cap z (HR.out.below HB3.out)).mono ?_
      rintro e w4 ⟨y, M, o, rfl, ho, hM, hob, hg⟩
      have HY := Lib.hid ho
      have HOB := Lib.hid hob.wf
      have HM := Lib.hid hM
      have HB4 := Lib.hid (HB3.out.trans (grown_below hg _ HB3.out.size))
      clear ho hob hM hg
      obtain ⟨ya, yn, yc, hy, HYN⟩ := shape HY.out.sees
      subst hy
      go_wp2_with fail
      refine (read_three w4 _ M o HY.out.sees HOB.out).mono ?_
      rintro e w5 ⟨rfl, hg⟩
      have HY5 := Lib.hid (HY.out.grown hg)
      have HB5 := Lib.hid (HB4.out.trans (grown_below hg _ HB4.out.size))
      clear hg HY HB4
      obtain ⟨r1, r2, r3, hr⟩ : ∃ r1 r2 r3, rd M o = (r1, r2, r3) := ⟨_, _, _, rfl⟩
      cases r3 with
      | false =>
        have hr' := rd_false (by rw [hr])
        rw [hr']
        have HRD := Lib.hid hr'
        clear hr hr'
        go_wp2_with fail
        refine (sRead_three w5 _ M o HY5.out.sees (by have := HM.out; omega) HOB.out).mono ?_
        rintro e w6 ⟨rfl, hg⟩
        rw [HRD.out]
        have HB6 := Lib.hid (HB5.out.trans (grown_below hg _ HB5.out.size))
        clear hg
        go_wp2
        go_ret
        exact ⟨rfl, HB6.out⟩
      | true =>
        obtain ⟨m, s, t, rfl, rfl, rfl, hm, hts, hs, he⟩ := rd_read HY5.out.sees.wf hr
        rw [hr]
        have HE := Lib.hid he
        have hsn : s ≤ yn := by have := HYN.out; omega
        clear hr he hs
        obtain ⟨ya', yc', hyy, hyc, hycm, _, hywf, hyy2⟩ := HY5.out.sees
        injection hyy with hy1 hy2 hy3
        subst hy1
        subst hy3
        rcases hyy2 with hM0 | ⟨b, ob, rfl, hcell⟩
        · have h0 := HYN.out
          rw [hM0] at h0
          simp at h0
          omega
        have HSL : Hid (∀ w', w5.grownBy w' none → Sees .u8 w' (.slice (some ⟨b, ob + t, none⟩) (s - t) (yc - t)) (enc m)) := fun w' hg => by
          have h1 := HYN.out
          rw [HE.out]
          exact (sees_cut (c := yc - t) hcell hywf (by omega) (by omega) (by omega)).grown hg
        have hyc2 : yn ≤ yc := by have := HYN.out; omega
        have hyc3 : t < yc := by omega
        have HM2 : Hid ((Lit.int .i64 (m : Int)).wf = true) := i64_mk (by omega)
        clear hcell hywf hy2
        go_wp2_with fail
        have k1 : (0 : Int) ≤ (t : Int) := by omega
        have k2 : (s : Int) ≤ (yn : Int) := by omega
        have k3 : (t : Int) < (s : Int) := by omega
        have k4 : (t : Int) ≤ (s : Int) := by omega
        have k5 : (s : Int) ≤ (yc : Int) := by omega
        have HEM : Hid (Sees .u8 (w5.alloc (.cells #[] 5 (0, 0))).drew (.slice (some ⟨w5.heap.size, 0, none⟩) 0 0) []) := (own_empty (E := 5) w5).sees.grown (grown_drew (grown_refl _ none))
        have HGA : Hid (w5.grownBy (w5.alloc (.cells #[] 5 (0, 0))).drew none) := grown_drew (World.grownBy_alloc _ _ _)
        have HMM : Hid ([] ++ encI (m : Int) = enc m) := by show _ = _; unfold encI; rw [if_pos (by omega)]; simp
        have fin : ∀ w6 w7 : World, w5.grownBy w6 none → w6.grownBy w7 none → Below w.heap.size w w7 := fun w6 w7 h6 h7 => HB5.out.trans (grown_below (grownN_trans h6 h7) _ HB5.out.size)
        have FIN := Lib.hid fin
        clear fin
        go_region_held3 (fun _ => True) (trivial) (first
          | (go_at_call 18; refine (uvarint_any _ _ [] (m : Int) HEM.out (by decide) HM2.out).mono ?_; rintro e w6 ⟨v6, rfl, ho6, hg6⟩; have HG6 := Lib.hid (grownN_trans HGA.out hg6); rw [HMM.out] at ho6; have HO6 := Lib.hid ho6.sees; have HS6 := Lib.hid (HSL.out w6 HG6.out); clear ho6 hg6)
          | (go_at_call 20; refine (same_same _ _ _ (enc m) HO6.out HS6.out).mono ?_; rintro e w7 ⟨rfl, hg7⟩; have HG7 := Lib.hid hg7; clear hg7))
        go_wp2
        go_ret
        exact ⟨rfl, FIN.out _ _ HG6.out HG7.out⟩

set_option maxRecDepth 100000 in
/-- What the walk gives, for every argument. -/
theorem contract (H : Type) (enc : TypeId × Value → H) (W : World) (base : Nat) (args : Array Value) (ds gs : List (DataW H)) (before : List MemPlace)
    (hval : ∀ (j : Nat) t v, Try.f3.params[j]? = some t → args[j]? = some v → Value.okWide Try.prog W .any base t v)
    (hW : DataW.Whole enc Try.prog Try.f3.params.toList Rows.fnVarintsSpec.vars false W args.toList ds gs before) :
    Calls Try.prog 3 args W fun e W' => ∃ v, e = .returned v ∧ Rows.fnVarintsSpec.post enc Try.prog Try.f3 false true false false W args v W' := by
  have hW' := hW
  obtain ⟨p, q, hA0, hV, rfl, hfz, hnd⟩ := hW
  have hA : DataW.TrodAll enc Try.prog W 0 (fun _ => true) true Try.f3.params.toList args.toList ds p := hA0
  rw [Try.params3] at hA hval
  obtain ⟨v0, vs0, d0, ds0, p0, q0, hargs, rfl, rfl, h0, r0⟩ := trodAll_cons hA
  obtain ⟨rfl, rfl, rfl⟩ := trodAll_nil r0
  obtain rfl : args = #[v0] := by cases args; simp_all
  obtain ⟨rfl, rfl⟩ := trodVars_none hV
  obtain ⟨a0, len0, cap0, rfl⟩ := okWide_slice Try.underlying22 (hval 0 22 v0 rfl rfl)
  have k0 := h0
  have lt0 : ∀ x ∈ p0, x.block < W.heap.size := by obtain ⟨m, hm⟩ := k0; exact DataW.trod_lt m _ _ _ hm
  obtain ⟨z0, w0⟩ : ∃ zs, Kit.IsRow .u8 W a0 len0 cap0 zs := Kit.row_open Try.underlying22 Try.underlying5 (by kernel_rfl) h0
  clear hA0
  refine (walk W a0 len0 cap0 z0 w0).mono fun e W' ⟨he, bel⟩ => ?_
  subst he
  exact ⟨_, rfl, _, _, _, [], _, [], hW', trodAll_mk1 (shut_bool Try.underlying4 _), (trodAll_cons_mk (Below.trod laidOut (by kernel_rfl) (of_decide_eq_true (by kernel_rfl)) k0 bel lt0) trodAll_mk0), rfl, bel.frame _, fun h => by cases h⟩

noncomputable def laidWorld (os : Os) : World := World.holding Try.prog os ⟨#[], #[], []⟩
theorem reads (os : Os) {H : Type} (enc : TypeId × Value → H) : ∃ places, DataW.whole enc Try.prog ((laidWorld os).forCall (fun _ _ => 0) ⟨#[], #[.slice none 0 0], []⟩).memory Try.f3.params.toList Rows.fnVarintsSpec.vars false (#[.slice none 0 0] : Array Value).toList 8 = some ([.nil], [], places) :=
  ⟨[], by kernel_rfl⟩

set_option maxRecDepth 100000 in
theorem lifted (os : Os) (started : os.Started) (H : Type) (enc : TypeId × Value → H) (F : Stop.Interp) :
    ReturnsInHanded {} Try.checked os 3 .any ((OpenSpec.ofChange Rows.fnVarintsSpec).preRow enc Try.prog Try.f3 Rows.fnVarintsRow.domain false Rows.fnVarintsRow.laid) (((OpenSpec.ofChange Rows.fnVarintsSpec).at F).post enc Try.prog Try.f3 false true false false) := by
  obtain ⟨places, hx⟩ := reads os enc
  refine returnsInHanded_of_row (C := Try.checked) (s := (OpenSpec.ofChange Rows.fnVarintsSpec)) own started (by kernel_rfl) Try.func3
    (witness_row_at (enc := enc) (C := Try.checked) false (laidWorld os) #[.slice none 0 0] rfl (by kernel_rfl) (by kernel_rfl) (by kernel_rfl)
      (OpenSpec.preRow_of_cond 8 hx (by kernel_rfl) (fun k hk => by cases hk) (by kernel_rfl) (laidMetH_nil _ _))) ?_
  intro W base args ds gs before hval hW _ _ _ _ _ _
  exact contract H enc W base args ds gs before hval hW

set_option maxRecDepth 100000 in
theorem said : Rows.FnVarintsSaid :=
  OpenClaim.holds_of_cond 3 Try.f3 rfl rfl rfl rfl rfl rfl rfl ⟨rfl, rfl, rfl, rfl, rfl⟩ rfl rfl rfl rfl rfl (by kernel_rfl) Try.func3 (by kernel_rfl)
    (of_decide_eq_true (by kernel_rfl)) (by unfold Func.isWrapper; first | (rw [if_pos (by decide +kernel)]; kernel_rfl) | (rw [if_neg (by decide +kernel)]; exact ⟨rfl, rfl⟩))
    (fun os started H enc _ F => by rw [OpenClaim.pre_eq_preRow]; exact lifted os started H enc F)

theorem proved : Rows.FnVarintsSaid := said
#print axioms proved
end Go.Proofs.Ytbpmbbmgmpdhnaa.fnVarints
