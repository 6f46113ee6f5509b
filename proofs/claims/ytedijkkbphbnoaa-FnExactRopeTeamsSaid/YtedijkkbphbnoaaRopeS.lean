/- Contract of the model's ropes, as far as their number goes; who can be roped. -/
import Derived.Test.YtedijkkbphbnoaaRope
namespace Go.Proofs.Ytedijkkbphbnoaa.Rop
open Go.RowKit Kit Rw Rg Crw Mn CrH Cln

theorem from_at {w : World} {b o n c i : Nat} {M : List Int} (h : SeesG encI w (.slice (some ⟨b, o, none⟩) n c) M) (hi : i ≤ M.length) (hc : i < c) (h0 : 0 < i) : SeesG encI w (.slice (some ⟨b, o + i, none⟩) (n - i) (c - i)) (M.drop i) := by
  have := seesG_from h hi (k := i) (by simp [encI])
  rw [if_neg (by omega)] at this
  simpa [Addr.add, show ¬ i = 0 by omega] using this
theorem Off.move {K b o o' n c n' c' : Nat} {t : Value} (h : Off K (.slice (some ⟨b, o, none⟩) n c) t) : Off K (.slice (some ⟨b, o', none⟩) n' c') t := h

set_option maxRecDepth 20000 in
set_option maxHeartbeats 8000000 in
theorem sTeams_any (w : World) (v : Value) (L : List Mem) (hv : SeesG encM w v L) (hn : L.length ≤ 1000000000) :
    Calls Try.prog 6 #[v] w fun e w' => ∃ t, e = .returned t ∧ ∃ Vs, OwnG encV 34 w' w.heap.size t Vs ∧ decide (0 < Vs.length) = canRope L ∧ w.grownBy w' none := by
  have hg0 := World.grownBy_alloc w (.cells #[] 34 (0, 0)) (none : Option Nat)
  have HW : Hid (OwnG encV 34 (w.alloc (.cells #[] 34 (0, 0))) w.heap.size (.slice (some ⟨w.heap.size, 0, none⟩) 0 0) []) := ownG_empty w
  have HG0 := Lib.hid hg0
  have HV := Lib.hid (hv.grown hg0)
  obtain ⟨i0, hi, hz0, hz1, hz2⟩ := info_parts info_row
  obtain ⟨j0, hj, hy0, hy1, hy2⟩ := info_parts info_int2
  have ha := fun w hv => CrS.sAreCrew_any w v L hv
  clear hv hg0
  cases hcr : areCrew L
  · rw [hcr] at ha
    have HA := Lib.hid ha
    have HC := Lib.hid (can_no hcr)
    clear ha hcr
    go_enter Try.func6, Try.ntmps6
    go_wp2_with fail
    refine (sHealthy_any _ v L HV.out hn).mono ?_
    rintro e w1 ⟨l, rfl, ho, hg⟩
    have HW1 := Lib.hid (HW.out.grown hg)
    have HG1 := Lib.hid (grownN_trans HG0.out hg)
    have HV1 := Lib.hid (HV.out.grown hg)
    clear ho hg
    go_wp2_with fail
    refine (HA.out _ HV1.out).mono ?_
    rintro e w2 ⟨rfl, hg⟩
    have HW2 := Lib.hid (HW1.out.grown hg)
    have HG2 := Lib.hid (grownN_trans HG1.out hg)
    clear hg
    go_wp2
    go_ret
    exact ⟨_, rfl, [], HW2.out, by rw [HC.out]; rfl, HG2.out⟩
  · rw [hcr] at ha
    have HA := Lib.hid ha
    have HCR := Lib.hid hcr
    have hlen : (healthy L).length ≤ 8 := Nat.le_trans (healthy_len L) (crew_len hcr).2
    clear ha hcr
    go_enter Try.func6, Try.ntmps6
    go_wp2_with fail
    have HL2 : Hid (w.heap.size < (w.alloc (.cells #[] 34 (0, 0))).heap.size) := by show _ < _; simp only [World.size_alloc]; omega
    refine (sHealthy_any _ v L HV.out hn).mono ?_
    rintro e w1 ⟨l, rfl, ho, hg⟩
    have HW1 := Lib.hid (HW.out.grown hg)
    have HG1 := Lib.hid (grownN_trans HG0.out hg)
    have HV1 := Lib.hid (HV.out.grown hg)
    have HS1 := Lib.hid (seesI ho.sees)
    have HO1 : Hid (Off w1.heap.size l (.slice (some ⟨w.heap.size, 0, none⟩) 0 0)) := fun g e => by
      have h1 := ho.lt g e
      have h2 := HL2.out
      exact ⟨h1.2, fun e2 => by simp only [Value.ownBlock, Option.some.injEq] at e2; omega⟩
    clear ho hg HW HG0 HV HL2
    go_wp2_with fail
    refine (HA.out _ HV1.out).mono ?_
    rintro e w2 ⟨rfl, hg⟩
    have HW2 := Lib.hid (HW1.out.grown hg)
    have HS2 := Lib.hid (HS1.out.grown hg)
    have HG2 : Hid (w.grownBy w2 none ∧ w1.heap.size ≤ w2.heap.size) := ⟨grownN_trans HG1.out hg, hg.size⟩
    clear hg HW1 HS1 HG1 HV1
    obtain ⟨la, lc, hl, _⟩ := HS2.out
    subst hl
    generalize w1.heap.size = K at *
    by_cases h2 : 2 ≤ (healthy L).length
    · have HCY := Lib.hid (can_yes HCR.out h2)
      have h2i : ¬ ((healthy L).length : Int) < 2 := by omega
      go_wp2_with fail
      go_loopw [3, 4] (fun t l wr => ∃ (Vs : List SV) (M : List Int) (a : Option Addr) (c : Nat), l = .slice a M.length c ∧ Hid (SeesG encI wr (.slice a M.length c) M) ∧ Hid (OwnG encV 34 wr w.heap.size t Vs) ∧ Hid (Off K (.slice a M.length c) t) ∧ 2 ≤ M.length ∧ Vs.length + M.length ≤ 8 ∧ Hid (w.grownBy wr none ∧ K ≤ wr.heap.size)) (fun _ l _ => match l with | .slice _ n _ => n | _ => 0)
      case atStart => exact ⟨[], healthy L, la, lc, rfl, HS2, HW2, HO1, h2, by simp; omega, HG2⟩
      case round =>
        obtain ⟨Vs, M, a, c, rfl, HS, HO, HF, hM2, hsum, HGW⟩ := hrel
        obtain ⟨b, o, rfl, _, _⟩ := HS.out.at_row (show 0 < M.length by omega)
        have hcap : M.length ≤ c := by obtain ⟨_, _, e, h, _⟩ := HS.out; injection e with _ _ e; omega
        have hcM : c ≤ 9223372036854775807 := by obtain ⟨_, _, e, _, h, _⟩ := HS.out; injection e with _ _ e; unfold maxLen at h; omega
        by_cases h4 : 4 < M.length
        · have h4i : (4 : Int) < (M.length : Int) := by omega
          have hc3 : (3 : Int) ≤ (c : Int) := by omega
          have hm3 : (3 : Int) ≤ (M.length : Int) := by omega
          have hga := World.grownBy_alloc wr (.cells #[] 3 (0, 0)) (none : Option Nat)
          have HE : Hid (OwnG encI 3 (wr.alloc (.cells #[] 3 (0, 0))) wr.heap.size (.slice (some ⟨wr.heap.size, 0, none⟩) 0 0) []) := ownG_empty wr
          have HSA := Lib.hid (HS.out.grown hga)
          have HOA := Lib.hid (HO.out.grown hga)
          have HGA := Lib.hid hga
          clear hga
          go_wp2_with (first
            | (at_builtin; (refine wpListG_append_sees (e := encI) _ rfl _ _ 34 rfl wr.heap.size 3 j0 (.int .i64 0) 8 Try.underlying34 hj hy0 hy1 hy2 rfl _ [] rfl HE.out (.slice (some ⟨b, o, none⟩) 3 c) (M.take 3) rfl (sees_to HSA.out (by omega)) (by (try rw [List.length_take]); unfold maxLen; simp; omega) (by (try rw [List.length_take]); simp; omega) HGA.out.size ?_); intro y w6 hown hgrow; rw [List.nil_append] at hown; obtain ⟨ya, yc, hy, _⟩ := hown.sees; generalize (M.take 3).length = yn at hy; subst hy; have HG6 := Lib.hid (grown_new HGA.out hgrow (fun g hg => (HE.out.lt g hg).1)); have HS6 := Lib.hid (HS.out.grown HG6.out); have HO6 := Lib.hid (HO.out.grown HG6.out); have HK6 : Hid (w.heap.size ≤ w6.heap.size ∧ K ≤ w6.heap.size) := ⟨Nat.le_trans HGW.out.1.size HG6.out.size, Nat.le_trans HGW.out.2 HG6.out.size⟩; clear hown hgrow)
            | (at_builtin; (refine wpListG_append_one (e := encV) _ rfl _ _ 24 rfl w.heap.size 34 i0 (.slice none 0 0) 24 Try.underlying24 hi hz0 hz1 hz2 rfl _ Vs rfl HO6.out ⟨ya, yn, yc⟩ #[.slice ya yn yc] rfl rfl trivial (by omega) (by decide) HK6.out.1 ?_); intro v4 w7 hown hgrow hloc; have HS7 := Lib.hid (HS6.out.kept hgrow HF.out.ne); have HO7 := Lib.hid hown; have HF7 := Lib.hid (HF.out.next HK6.out.2 hloc); have HG7 : Hid (w.grownBy w7 none ∧ K ≤ w7.heap.size) := ⟨grown_new (grownN_trans HGW.out.1 HG6.out) hgrow (fun g hg => (HO6.out.lt g hg).1), Nat.le_trans HK6.out.2 hgrow.size⟩; clear hown hgrow hloc))
          go_roundw
          case rel => exact ⟨Vs ++ [⟨ya, yn, yc⟩], M.drop 3, some ⟨b, o + 3, none⟩, c - 3, by rw [List.length_drop], by have := from_at HS7.out (i := 3) (by omega) (by omega) (by omega); rw [List.length_drop]; exact this, HO7, HF7.out.move, by rw [List.length_drop]; omega, by simp; omega, HG7⟩
          case measure => simp; omega
        · have h4i : ¬ (4 : Int) < (M.length : Int) := by omega
          by_cases he : M.length = 4
          · have hei : (M.length : Int) = 4 := by omega
            have heb : ((M.length : Int) == 4) = true := by simp; omega
            have hc2 : (2 : Int) ≤ (c : Int) := by omega
            have hm2 : (2 : Int) ≤ (M.length : Int) := by omega
            have hga := World.grownBy_alloc wr (.cells #[] 3 (0, 0)) (none : Option Nat)
            have HE : Hid (OwnG encI 3 (wr.alloc (.cells #[] 3 (0, 0))) wr.heap.size (.slice (some ⟨wr.heap.size, 0, none⟩) 0 0) []) := ownG_empty wr
            have HSA := Lib.hid (HS.out.grown hga)
            have HGA := Lib.hid hga
            have hc3 : 2 < c := by omega
            have hsm : Vs.length ≤ 8 := by omega
            have hml : 2 ≤ M.length ∧ M.length ≤ 8 := by omega
            clear hga he hei h4i
            go_wp2_with (first
              | (at_builtin; (refine wpListG_append_sees (e := encI) _ rfl _ _ 34 rfl wr.heap.size 3 j0 (.int .i64 0) 8 Try.underlying34 hj hy0 hy1 hy2 rfl _ [] rfl HE.out (.slice (some ⟨b, o, none⟩) 2 c) (M.take 2) rfl (sees_to HSA.out (by omega)) (by rw [List.length_take]; unfold maxLen; simp; omega) (by rw [List.length_take]; simp; omega) HGA.out.size ?_; intro y w6 hown hgrow; rw [List.nil_append] at hown; obtain ⟨ya, yc, hy, _⟩ := hown.sees; generalize (M.take 2).length = yn at hy; subst hy; have HG6 := Lib.hid (grown_new HGA.out hgrow (fun g hg => (HE.out.lt g hg).1)); have HS6 := Lib.hid (HS.out.grown HG6.out); have HO6 := Lib.hid (HO.out.grown HG6.out); have HK6 : Hid (w.heap.size ≤ w6.heap.size ∧ K ≤ w6.heap.size) := ⟨Nat.le_trans HGW.out.1.size HG6.out.size, Nat.le_trans HGW.out.2 HG6.out.size⟩; clear hown hgrow))
              | (at_builtin; (refine wpListG_append_one (e := encV) _ rfl _ _ 24 rfl w.heap.size 34 i0 (.slice none 0 0) 24 Try.underlying24 hi hz0 hz1 hz2 rfl _ Vs rfl HO6.out ⟨ya, yn, yc⟩ #[.slice ya yn yc] rfl rfl trivial (by omega) (by decide) HK6.out.1 ?_; intro v4 w7 hown hgrow hloc; have HS7 := Lib.hid (from_at (HS6.out.kept hgrow HF.out.ne) (i := 2) (by omega) (by omega) (by omega)); have HO7 := Lib.hid hown; have HG7 : Hid (w.grownBy w7 none ∧ K ≤ w7.heap.size) := ⟨grown_new (grownN_trans HGW.out.1 HG6.out) hgrow (fun g hg => (HO6.out.lt g hg).1), Nat.le_trans HK6.out.2 hgrow.size⟩; clear hown hgrow hloc; have HGB := Lib.hid (World.grownBy_alloc w7 (.cells #[] 3 (0, 0)) (none : Option Nat)); have HEB : Hid (OwnG encI 3 (w7.alloc (.cells #[] 3 (0, 0))) w7.heap.size (.slice (some ⟨w7.heap.size, 0, none⟩) 0 0) []) := ownG_empty w7; have HSB := Lib.hid (HS7.out.grown HGB.out)))
              | (at_builtin; (refine wpListG_append_sees (e := encI) _ rfl _ _ 34 rfl w7.heap.size 3 j0 (.int .i64 0) 8 Try.underlying34 hj hy0 hy1 hy2 rfl _ [] rfl HEB.out (.slice (some ⟨b, o + 2, none⟩) (M.length - 2) (c - 2)) (M.drop 2) rfl HSB.out (by rw [List.length_drop]; unfold maxLen; simp; omega) (by rw [List.length_drop]; simp; omega) HGB.out.size ?_; intro z w8 hown hgrow; rw [List.nil_append] at hown; obtain ⟨za, zc, hz, _⟩ := hown.sees; generalize (M.drop 2).length = zn at hz; subst hz; have HG8 := Lib.hid (grown_new HGB.out hgrow (fun g hg => (HEB.out.lt g hg).1)); have HO8 := Lib.hid (HO7.out.grown HG8.out); have HK8 : Hid (w.heap.size ≤ w8.heap.size) := Nat.le_trans HG7.out.1.size HG8.out.size; clear hown hgrow))
              | (at_builtin; (refine wpListG_append_one (e := encV) _ rfl _ _ 24 rfl w.heap.size 34 i0 (.slice none 0 0) 24 Try.underlying24 hi hz0 hz1 hz2 rfl _ (Vs ++ [⟨ya, yn, yc⟩]) rfl HO8.out ⟨za, zn, zc⟩ #[.slice za zn zc] rfl rfl trivial (by simp; omega) (by decide) HK8.out ?_; intro v9 w9 hown hgrow hloc; have HO9 := Lib.hid hown; have HG9 : Hid (w.grownBy w9 none) := grown_new (grownN_trans HG7.out.1 HG8.out) hgrow (fun g hg => (HO8.out.lt g hg).1); clear hown hgrow hloc)))
            go_ret
            exact ⟨v9, rfl, _, HO9.out, by rw [HCY.out]; simp, HG9.out⟩
          · have heb : ((M.length : Int) == 4) = false := by simp; omega
            have hei : ¬ (M.length : Int) = 4 := by omega
            have hga := World.grownBy_alloc wr (.cells #[] 3 (0, 0)) (none : Option Nat)
            have HE : Hid (OwnG encI 3 (wr.alloc (.cells #[] 3 (0, 0))) wr.heap.size (.slice (some ⟨wr.heap.size, 0, none⟩) 0 0) []) := ownG_empty wr
            have HSA := Lib.hid (HS.out.grown hga)
            have HOA := Lib.hid (HO.out.grown hga)
            have HGA := Lib.hid hga
            clear hga
            go_wp2_with (first
              | (at_builtin; (refine wpListG_append_sees (e := encI) _ rfl _ _ 34 rfl wr.heap.size 3 j0 (.int .i64 0) 8 Try.underlying34 hj hy0 hy1 hy2 rfl _ [] rfl HE.out (.slice (some ⟨b, o, none⟩) M.length c) M rfl HSA.out (by (try rw [List.length_take]); unfold maxLen; simp; omega) (by (try rw [List.length_take]); simp; omega) HGA.out.size ?_); intro y w6 hown hgrow; rw [List.nil_append] at hown; obtain ⟨ya, yc, hy, _⟩ := hown.sees; generalize M.length = yn at hy; subst hy; have HG6 := Lib.hid (grown_new HGA.out hgrow (fun g hg => (HE.out.lt g hg).1)); have HS6 := Lib.hid (HS.out.grown HG6.out); have HO6 := Lib.hid (HO.out.grown HG6.out); have HK6 : Hid (w.heap.size ≤ w6.heap.size ∧ K ≤ w6.heap.size) := ⟨Nat.le_trans HGW.out.1.size HG6.out.size, Nat.le_trans HGW.out.2 HG6.out.size⟩; clear hown hgrow)
              | (at_builtin; (refine wpListG_append_one (e := encV) _ rfl _ _ 24 rfl w.heap.size 34 i0 (.slice none 0 0) 24 Try.underlying24 hi hz0 hz1 hz2 rfl _ Vs rfl HO6.out ⟨ya, yn, yc⟩ #[.slice ya yn yc] rfl rfl trivial (by omega) (by decide) HK6.out.1 ?_); intro v4 w7 hown hgrow hloc; have HS7 := Lib.hid (HS6.out.kept hgrow HF.out.ne); have HO7 := Lib.hid hown; have HF7 := Lib.hid (HF.out.next HK6.out.2 hloc); have HG7 : Hid (w.grownBy w7 none ∧ K ≤ w7.heap.size) := ⟨grown_new (grownN_trans HGW.out.1 HG6.out) hgrow (fun g hg => (HO6.out.lt g hg).1), Nat.le_trans HK6.out.2 hgrow.size⟩; clear hown hgrow hloc))
            go_ret
            exact ⟨v4, rfl, Vs ++ [⟨ya, yn, yc⟩], HO7.out, by rw [HCY.out]; simp, HG7.out.1⟩
    · have HCN := Lib.hid (can_few (L := L) h2)
      have h2i : ((healthy L).length : Int) < 2 := by omega
      go_wp2
      go_ret
      exact ⟨_, rfl, [], HW2.out, by rw [HCN.out]; rfl, HG2.out.1⟩
end Go.Proofs.Ytedijkkbphbnoaa.Rop
