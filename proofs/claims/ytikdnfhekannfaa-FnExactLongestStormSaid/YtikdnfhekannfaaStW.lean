/- Contracts of AddDay, of the worst weather's closure and of WorstDays. -/
import Derived.Test.YtikdnfhekannfaaStP
namespace Go.Proofs.Ytikdnfhekannfaa.StI
open Go.RowKit Kit Rw Rg Stm Md StormS

set_option maxHeartbeats 1000000 in
theorem clos_any (w : World) (base b g cap p : Nat) (m : Int) (n : Nat) (L : List Bool) (hW : Wy w base b g cap m n L) (hp : Box w p #[.pointer (some ⟨b, 0, none⟩)] 164) (hpb : p ≠ b) (hpg : p ≠ g) :
    Calls Try.prog 156 #[.pointer (some ⟨p, 0, none⟩)] w fun e w' => e = .returned (.bool (decide ((lastN (n - 1) L : Int) < m))) ∧
      Wy w' base b g cap m n (L ++ [decide ((lastN (n - 1) L : Int) < m)]) ∧ Box w' p #[.pointer (some ⟨b, 0, none⟩)] 164 ∧ Below base w w' := by
  have HW := Lib.hid hW
  have HP := Lib.hid hp
  have c0 := hp.cell 0
  have hbs : base ≤ w.heap.size := by obtain ⟨D, t, h1, h2, _⟩ := hW; have := h2.lt g rfl; omega
  have hsz := hp.lt
  obtain ⟨s, hs⟩ : ∃ s, s = decide ((lastN (n - 1) L : Int) < m) := ⟨_, rfl⟩
  have ha := may_any w base b m n L hW.any
  rw [← hs] at ha ⊢
  have HA := Lib.hid ha
  clear ha hs hW hp
  go_enter Try.func156, Try.ntmps156
  go_wp2_with fail
  refine HA.out.mono ?_
  rintro e w1 ⟨rfl, hg⟩
  have HW1 := Lib.hid (HW.out.grown hg)
  have HP1 := Lib.hid (HP.out.grown hg)
  have HB1 := Lib.hid (grown_below hg base hbs)
  have c1 := HP1.out.cell 0
  have hsz1 := HP1.out.lt
  clear hg c0
  go_wp2_with fail
  refine (pass_one _ base b g cap m n L s HW1.out).mono ?_
  rintro e w2 ⟨rfl, hw, hb, hk⟩
  have HW2 := Lib.hid hw
  have HB2 := Lib.hid hb
  have HP2 : Hid (Box w2 p #[.pointer (some ⟨b, 0, none⟩)] 164) := (hk p hsz1 hpb hpg).trans HP1.out
  clear hw hb hk c1
  go_wp2
  go_ret
  exact ⟨rfl, HW2.out, HP2.out, HB1.out.trans HB2.out⟩

set_option maxHeartbeats 1000000 in
theorem worstW_any (w : World) (m : Int) (n : Nat) (v : Value) (L : List Bool) (hm : (Lit.int .i64 m).wf = true) (h1 : 1 ≤ n) (h10 : n ≤ 10) (hv : SeesG encB w v L) :
    Calls Try.prog 108 #[.agg #[.int .i64 m, .int .i64 (n : Nat)], v] w fun e w' => ∃ b g cap p, e = .returned (.func (.func 156) #[] #[.pointer (some ⟨p, 0, none⟩)]) ∧
      Wy w' w.heap.size b g cap m n L ∧ Box w' p #[.pointer (some ⟨b, 0, none⟩)] 164 ∧ p ≠ b ∧ p ≠ g ∧ w.grownBy w' none := by
  have hgr := World.grownBy_alloc w (.cells #[.int .i64 m, .int .i64 (n : Nat)] 57 (0, 0)) none
  have HV := Lib.hid (hv.grown hgr)
  have HG := Lib.hid hgr
  obtain ⟨c0, c1⟩ := two (box_new w #[.int .i64 m, .int .i64 (n : Nat)] 57)
  have ha := fun w hv => after_any w m n v L hm h1 h10 hv
  have HA := Lib.hid ha
  clear hgr ha hm hv
  have hmf : ∀ (fn : Fn) (first cap : Array Value) (w : World), (Instr.makeFunc fn first cap).run Try.prog w = .ok (.func fn first cap) w := fun _ _ _ _ => rfl
  go_enter Try.func108, Try.ntmps108
  go_wp2_with fail
  refine (HA.out _ HV.out).mono ?_
  rintro e w2 ⟨b, rfl, hW, hg⟩
  obtain ⟨gg, cap, hW⟩ := hW.one
  have HG2 := Lib.hid (grownN_trans HG.out hg)
  have hga := World.grownBy_alloc w2 (.cells #[.pointer (some ⟨b, 0, none⟩)] 164 (0, 0)) none
  have HG3 := Lib.hid (grownN_trans HG2.out hga)
  have HW3 := Lib.hid (hW.grown hga)
  have HB3 := Lib.hid (box_new w2 #[.pointer (some ⟨b, 0, none⟩)] 164)
  have hbg : b < w2.heap.size ∧ gg < w2.heap.size := by
    obtain ⟨D, t, h1, h2, _⟩ := hW
    exact ⟨h1.lt, (h2.lt gg rfl).2⟩
  have HN := Lib.hid hbg
  have HZ := Lib.hid (World.size_alloc w (.cells #[.int .i64 m, .int .i64 (n : Nat)] 57 (0, 0)))
  clear hg hW hga c0 c1 hbg
  go_wp2
  go_ret
  have hN := HN.out
  refine ⟨b, gg, cap, w2.heap.size, rfl, ?_, HB3.out, by omega, by omega, HG3.out⟩
  obtain ⟨D, t, q1, q2, q3, q4, q5, q6⟩ := HW3.out
  have hz := HZ.out
  exact ⟨D, t, q1, q2.lower (by omega), q3, q4, by omega, q6⟩

theorem worst_int {m n : Nat} {L : List Bool} {k : Nat} (hk : k ≤ 200) : (worst m n L k : Int) ≤ 4010 := by
  have := worst_le m n L k; omega

end Go.Proofs.Ytikdnfhekannfaa.StI
