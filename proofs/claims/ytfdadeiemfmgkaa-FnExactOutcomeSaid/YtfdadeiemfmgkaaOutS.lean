/- Contract of the model's outcome of a vote. -/
import Derived.Test.YtfdadeiemfmgkaaOutF
import Derived.Test.YtfdadeiemfmgkaaVotJ
import Derived.Deep.RegionHeld3
namespace Go.Proofs.Ytfdadeiemfmgkaa.Out
open Go.RowKit Kit Rw Rg Crw Vot

set_option maxRecDepth 100000 in
set_option maxHeartbeats 4000000 in
theorem sOut_any (w : World) (lv v : Value) (L : List Mem) (V : List V2) (leader : Int) (hl : SeesG encM w lv L) (hv : SeesG encP w v V) (hn : V.length ≤ 100000000) :
    Calls Try.prog 35 #[lv, v, .int .i64 leader] w fun e w' => e = .returned (.int .i64 (outcome L V leader)) ∧ w.grownBy w' none := by
  have HV := Lib.hid hv
  have HVT := Lib.hid (VotI.sVotes_any w lv v L V hl hv)
  have HCT := Lib.hid (fun (w' : World) (hg : w.grownBy w' none) (c : Int) => VotI.sCount_any w' v V c (hv.grown hg))
  obtain ⟨a, cap, rfl, _⟩ := hv
  by_cases h0 : V.length = 0
  · have HR : Hid (outcome L V leader = -1) := by show _ = _; unfold outcome; rw [if_pos (.inl (List.eq_nil_of_length_eq_zero h0))]
    have hb : ((V.length : Int) == 0) = true := by simp [h0]
    go_enter Try.func35, Try.ntmps35
    go_wp2
    go_ret
    exact ⟨ret_i64 HR.out.symm, World.grownBy.refl _ _⟩
  · have hb : ((V.length : Int) == 0) = false := by rw [beq_eq_false_iff_ne]; omega
    have hne : V ≠ [] := fun e => h0 (by rw [e]; rfl)
    cases hok : areVotes L V
    · have HR : Hid (outcome L V leader = -1) := by show _ = _; unfold outcome; rw [if_pos (.inr hok)]
      rw [hok] at HVT
      clear hok
      go_enter Try.func35, Try.ntmps35
      go_wp2_with (go_at_call 33; refine HVT.out.mono ?_; rintro e w2 ⟨rfl, hg⟩; have HG2 := Lib.hid hg; clear hg)
      go_ret
      exact ⟨ret_i64 HR.out.symm, HG2.out⟩
    · have HR : Hid (outcome L V leader = choice V leader) := by
        show _ = _; unfold outcome
        rw [if_neg (by intro h; rcases h with h | h; exact hne h; rw [hok] at h; cases h)]
      obtain ⟨hcrew, hup⟩ := votes_of hok
      have HUP := Lib.hid hup
      rw [hok] at HVT
      clear hok hup hcrew hne h0
      go_enter Try.func35, Try.ntmps35
      go_wp2_with (go_at_call 33; refine HVT.out.mono ?_; rintro e w2 ⟨rfl, hg⟩; have HG2 := Lib.hid hg; clear hg)
      go_loopw [7, 8] (fun b i wr => ∃ k : Nat, 1 ≤ k ∧ k ≤ 10 ∧ i = .int .i64 k ∧ b = .int .i64 (bestTo V V.length (k - 1) : Nat) ∧ Hid (w.grownBy wr none)) (fun _ i _ => 10 - (intOf i).toNat)
      case atStart => exact ⟨1, by omega, by omega, rfl, rfl, HG2⟩
      case round =>
        rename_i _ _ wr
        obtain ⟨k, hk1, hk, rfl, rfl, HG⟩ := hrel
        obtain ⟨q, hq⟩ : ∃ q, q = bestTo V V.length (k - 1) := ⟨_, rfl⟩
        rw [← hq]
        by_cases hlt : k ≤ 9
        · have hkI : (k : Int) ≤ 9 := by omega
          obtain ⟨m, rfl⟩ : ∃ m, k = m + 1 := ⟨k - 1, by omega⟩
          have hq' : q = bestTo V V.length m := hq
          have HC1 := Lib.hid (HCT.out wr HG.out ((m + 1 : Nat) : Int))
          have HC2 := Lib.hid (fun w' (hg : w.grownBy w' none) => HCT.out w' hg (q : Int))
          have HN : Hid (bestTo V V.length (m + 1) = if cnt V q V.length < cnt V ((m + 1 : Nat) : Int) V.length then m + 1 else q) := by show _ = _; simp only [bestTo]; rw [← hq']
          obtain ⟨x, hx⟩ : ∃ x, x = cnt V ((m + 1 : Nat) : Int) V.length := ⟨_, rfl⟩
          obtain ⟨y, hy⟩ : ∃ y, y = cnt V (q : Int) V.length := ⟨_, rfl⟩
          rw [← hx] at HC1 HN
          rw [← hy] at HC2 HN
          clear hq hq' hx hy
          by_cases hc : y < x
          · rw [if_pos hc] at HN
            go_wp2_with fail
            refine HC1.out.mono ?_
            rintro e w3 ⟨rfl, hg⟩
            have HG3 := Lib.hid (grownN_trans HG.out hg)
            clear hg
            go_wp2_with fail
            refine (HC2.out _ HG3.out).mono ?_
            rintro e w4 ⟨rfl, hg⟩
            have HG4 := Lib.hid (grownN_trans HG3.out hg)
            clear hg
            go_wp2
            go_roundw
            case rel => exact ⟨m + 1 + 1, by omega, by omega, by go_num, (by rw [Nat.add_sub_cancel, HN.out] <;> first | rfl | go_num), HG4⟩
            case measure => simp [intOf]; omega
          · rw [if_neg hc] at HN
            go_wp2_with fail
            refine HC1.out.mono ?_
            rintro e w3 ⟨rfl, hg⟩
            have HG3 := Lib.hid (grownN_trans HG.out hg)
            clear hg
            go_wp2_with fail
            refine (HC2.out _ HG3.out).mono ?_
            rintro e w4 ⟨rfl, hg⟩
            have HG4 := Lib.hid (grownN_trans HG3.out hg)
            clear hg
            go_wp2
            go_roundw
            case rel => exact ⟨m + 1 + 1, by omega, by omega, by go_num, (by rw [Nat.add_sub_cancel, HN.out] <;> first | rfl | go_num), HG4⟩
            case measure => simp [intOf]; omega
        · have hk10 : k = 10 := by omega
          subst hk10
          have ec : ((10 : Nat) : Int) = 10 := rfl
          rw [ec]
          have hq9 : q = bestTo V V.length 9 := hq
          have HQ9 := Lib.hid hq9
          have HC9 := Lib.hid (fun w' (hg : w.grownBy w' none) => HCT.out w' hg (q : Int))
          obtain ⟨y, hy⟩ : ∃ y, y = cnt V (q : Int) V.length := ⟨_, rfl⟩
          have HYQ := Lib.hid hy
          rw [← hy] at HC9
          clear hq hq9 hy
          go_wp2
          go_loopw [9] (fun i wz => ∃ j : Nat, j ≤ V.length ∧ i = .int .i64 j ∧ Hid ((∀ m, m < j → (whos V).getD m 0 ≠ leader) ∨ ∃ k : Nat, k < j ∧ (whos V).getD k 0 = leader ∧ Wat.place (whos V) leader 0 = k ∧ cnt V (V.getD k (0, 0)).2 V.length ≠ y) ∧ Hid (w.grownBy wz none)) (fun i _ => V.length - (intOf i).toNat)
          case atStart => exact ⟨0, Nat.zero_le _, rfl, .inl (fun m h => absurd h (Nat.not_lt_zero _)), HG⟩
          case round =>
            obtain ⟨j, hj, rfl, HE, HZ⟩ := hrel
            by_cases hlt2 : j < V.length
            · obtain ⟨b, o, rfl, _, _⟩ := HV.out.at_row hlt2
              obtain ⟨x, hx⟩ : ∃ x, V.getD j (0, 0) = x := ⟨_, rfl⟩
              have HD := Lib.hid (fun w' (hg : w.grownBy w' none) => atP_in HV.out hg hlt2 hx)
              have HW : Hid ((whos V).getD j 0 = x.1) := by show _ = _; rw [← hx]; simp [hlt2]
              have HX := Lib.hid hx
              clear hx
              obtain ⟨x0, x1⟩ := x
              dsimp only at HD HW
              obtain ⟨d0, d1⟩ := HD.out _ HZ.out
              by_cases he : x0 = leader
              · have hfirst : ∀ m, m < j → (whos V).getD m 0 ≠ leader := by
                  rcases HE.out with h | ⟨k, hkj, hkw, _, _⟩
                  · exact h
                  · exact absurd (by rw [HW.out, he, hkw]) (who_once HUP.out hlt2 hkj)
                have hpl : Wat.place (whos V) leader 0 = j := by
                  rw [Wat.place_hit (j := j) (by simp; omega) (by rw [HW.out, he]) hfirst, Nat.zero_add]
                have HPL := Lib.hid hpl
                have heb : (x0 == leader) = true := by simpa using he
                have HC1 := Lib.hid (HCT.out _ HZ.out x1)
                obtain ⟨z, hz⟩ : ∃ z, z = cnt V x1 V.length := ⟨_, rfl⟩
                have HZQ := Lib.hid hz
                rw [← hz] at HC1
                clear hfirst hpl hz
                by_cases hc : z = y
                · have HRR : Hid (choice V leader = x1) := by
                    show _ = _
                    rw [choice_hit HPL.out (by rw [HX.out]; dsimp only; rw [← HZQ.out, hc, HYQ.out, HQ9.out]), HX.out]
                  have hcb : (z == y) = true := by simpa using hc
                  go_wp2_with fail
                  refine HC1.out.mono ?_
                  rintro e w3 ⟨rfl, hg⟩
                  have HG3 := Lib.hid (grownN_trans HZ.out hg)
                  clear hg
                  go_wp2_with fail
                  refine (HC9.out _ HG3.out).mono ?_
                  rintro e w4 ⟨rfl, hg⟩
                  have HG4 := Lib.hid (grownN_trans HG3.out hg)
                  obtain ⟨q0, q1⟩ := HD.out _ HG4.out
                  clear hg
                  go_wp2
                  go_ret
                  exact ⟨ret_i64 (by rw [HR.out, HRR.out]), HG4.out⟩
                · have hcb : (z == y) = false := by simpa using hc
                  have HE2 : Hid ((∀ m, m < j + 1 → (whos V).getD m 0 ≠ leader) ∨ ∃ k : Nat, k < j + 1 ∧ (whos V).getD k 0 = leader ∧ Wat.place (whos V) leader 0 = k ∧ cnt V (V.getD k (0, 0)).2 V.length ≠ y) :=
                    .inr ⟨j, by omega, by rw [HW.out, he], HPL.out, by rw [HX.out]; dsimp only; rw [← HZQ.out]; exact hc⟩
                  go_wp2_with fail
                  refine HC1.out.mono ?_
                  rintro e w3 ⟨rfl, hg⟩
                  have HG3 := Lib.hid (grownN_trans HZ.out hg)
                  clear hg
                  go_wp2_with fail
                  refine (HC9.out _ HG3.out).mono ?_
                  rintro e w4 ⟨rfl, hg⟩
                  have HG4 := Lib.hid (grownN_trans HG3.out hg)
                  clear hg
                  go_wp2
                  go_roundw
                  case rel =>
                    first
                    | exact ⟨j + 1, by omega, by go_num, HE2, HG4⟩
                    | exact ⟨_, j + 1, by omega, by go_num, HE2, HG4⟩
                    | exact ⟨_, _, j + 1, by omega, by go_num, HE2, HG4⟩
                    | exact ⟨_, _, _, j + 1, by omega, by go_num, HE2, HG4⟩
                    | exact ⟨_, _, _, _, j + 1, by omega, by go_num, HE2, HG4⟩
                    | (set_option pp.deepTerms true in set_option pp.maxSteps 200000 in trace_state; sorry)
                  case measure => simp [intOf]; omega
              · have heb : (x0 == leader) = false := by simpa using he
                have HE2 : Hid ((∀ m, m < j + 1 → (whos V).getD m 0 ≠ leader) ∨ ∃ k : Nat, k < j + 1 ∧ (whos V).getD k 0 = leader ∧ Wat.place (whos V) leader 0 = k ∧ cnt V (V.getD k (0, 0)).2 V.length ≠ y) := by
                  rcases HE.out with h | ⟨k, hkj, h⟩
                  · left
                    intro m hm
                    by_cases e : m = j
                    · subst e; rw [HW.out]; exact he
                    · exact h m (by omega)
                  · exact .inr ⟨k, by omega, h⟩
                go_wp2
                go_roundw
                case rel => exact ⟨j + 1, by omega, by go_num, HE2, HZ⟩
                case measure => simp [intOf]; omega
            · have hjn : j = V.length := by omega
              subst hjn
              have HRR : Hid (choice V leader = (q : Int)) := by
                show _ = _
                rw [HQ9.out]
                apply choice_miss
                rcases HE.out with h | ⟨k, hkj, hkw, hkp, hkc⟩
                · left
                  exact Wat.place_miss (fun m hm => h m (by simp at hm; omega))
                · right
                  exact ⟨k, hkp, by rw [← HQ9.out, ← HYQ.out]; exact hkc⟩
              go_wp2
              go_ret
              exact ⟨ret_i64 (by rw [HR.out, HRR.out]), HZ.out⟩
end Go.Proofs.Ytfdadeiemfmgkaa.Out
