/- Contracts of the program's Keeps, MayStorm, copies with room and AddDay. Contracts of AddDay, of the worst weather's closure and of WorstDays. Contracts of the model's WorstDays and of the program's AddDay. Contracts of the program's Min and Max, for every two arguments. Contract of the program's AddDay. Contracts of the laws' helper on rules, and of the counts, as frames. Results that lie in a block: a struct of one-cell fields, alone and ahead of others. No condition. Boxes of four cells: read, stored into, stored whole. No condition. -/
import Derived.Test.YtbjnbaddbanhbaaGreatG8
import Derived.Test.YtbjnbaddbanhbaaGreatMBase
import Derived.WalkKit
import Derived.Laws.Rows
import Derived.Test.YtbjnbaddbanhbaaGreatG2
namespace Go.Proofs.YtbjnbaddbanhbaaGreat.StI
open Go.RowKit Kit Rw Rg Stm Md StormS

theorem sees_nil {α : Type} (e : Enc α) (w : World) : SeesG e w (.slice none 0 0) [] := ⟨none, 0, rfl, by simp, by unfold maxLen; omega, fun _ => rfl, by simp, .inl rfl⟩
set_option maxRecDepth 20000 in
set_option maxHeartbeats 1000000 in
theorem iMayStorm_any (w : World) (m n : Int) (hm : (Lit.int .i64 m).wf = true) (hn : (Lit.int .i64 n).wf = true) (v : Value) (L : List Bool) (hv : SeesG encB w v L) :
    Calls Tryz.prog 82 #[.agg #[.int .i64 m, .int .i64 n], v] w fun e w' => e = .returned (.bool (mayStorm m n L)) ∧ w.grownBy w' none := by
  have hl := hv.len
  have hgr := World.grownBy_alloc w (.cells #[.int .i64 m, .int .i64 n] 38 (0, 0)) none
  have HV := Lib.hid hv
  have HG := Lib.hid hgr
  have HB := Lib.hid (box_new w #[.int .i64 m, .int .i64 n] 38)
  obtain ⟨c0, c1⟩ := two HB.out
  clear hgr
  have hs := fun w => iIsRule_any w m n hm hn
  cases h : isRule m n
  · rw [h] at hs
    have HS := Lib.hid hs
    have HF : Hid (mayStorm m n L = false) := by show _ = _; unfold mayStorm; rw [h, Bool.false_and]
    clear hs h hm hn
    go_enter Tryz.func82, Tryz.ntmps82
    go_wp2_with fail
    refine (HS.out _).mono ?_
    rintro e w2 ⟨rfl, hg⟩
    have HG2 := Lib.hid (grownN_trans HG.out hg)
    clear hg
    go_wp2
    go_ret
    exact ⟨ret_bool HF.out.symm, HG2.out⟩
  · rw [h] at hs
    obtain ⟨M, N, rfl, rfl, hMN, hN⟩ := rule_nat h
    have HS := Lib.hid hs
    have HF : Hid (mayStorm (M : Int) (N : Int) L = decide (lastN (N - 1) L < M)) := mayStorm_may h
    have ha := fun w hv => after_any w (M : Int) N v L hm (by omega) hN hv
    have HA := Lib.hid ha
    clear hs h ha hm hn hv
    go_enter Tryz.func82, Tryz.ntmps82
    go_wp2_with fail
    refine (HS.out _).mono ?_
    rintro e w2 ⟨rfl, hg⟩
    have HG2 := Lib.hid (grownN_trans HG.out hg)
    obtain ⟨d0, d1⟩ := two (HB.out.grown hg)
    clear hg c0 c1
    go_wp2_with fail
    refine (HA.out _ (HV.out.grown HG2.out)).mono ?_
    rintro e w3 ⟨b, rfl, hW, hg⟩
    have HG3 := Lib.hid (grownN_trans HG2.out hg)
    have HW := Lib.hid hW
    clear hg hW d0 d1
    go_wp2_with fail
    refine (may_any _ _ b M N L HW.out).mono ?_
    rintro e w4 ⟨rfl, hg⟩
    have HG4 := Lib.hid (grownN_trans HG3.out hg)
    clear hg
    go_wp2
    go_ret
    exact ⟨ret_bool HF.out.symm, HG4.out⟩

set_option maxHeartbeats 1000000 in
theorem copyB_any (w : World) (v : Value) (X : List Bool) (r : Int) (hv : SeesG encB w v X) (h0 : 0 ≤ r) (hn : X.length + r ≤ 1000000000000) :
    Calls Tryz.prog 188 #[v, .int .i64 r] w fun e w' => ∃ u, e = .returned u ∧ OwnG encB 4 w' w.heap.size u X ∧ w.grownBy w' none := by
  have HV := Lib.hid hv
  obtain ⟨a, cap, rfl, _⟩ := hv
  obtain ⟨r, rfl⟩ : ∃ c : Nat, r = c := ⟨r.toNat, by omega⟩
  obtain ⟨i0, hi, hz0, hz1, hz2⟩ := info_parts StI.info_bool
  go_enter Tryz.func188, Tryz.ntmps188
  go_wp2_with (first
    | (at_make; refine wpList_make_own _ rfl _ _ 29 rfl w.heap.size 4 i0 (.bool false) 1 Tryz.underlying29 hi hz0 hz1 .i64 .i64 _ (X.length + r) rfl rfl (by simp) (by rw [hz2]; omega) (by unfold maxLen; omega) (Nat.le_refl _) ?_; intro w1 hown hgrow; have HS := Lib.hid (HV.out.grown hgrow); have HO : Hid (OwnG encB 4 w1 w.heap.size _ []) := ⟨hown, fun _ h => by cases h⟩; have HG := Lib.hid hgrow; clear hown hgrow)
    | (at_builtin; go_loud (refine wpListG_append_sees _ rfl _ _ 29 rfl w.heap.size 4 i0 (.bool false) 1 Tryz.underlying29 hi hz0 hz1 hz2 rfl _ [] rfl HO.out _ X rfl HS.out (by unfold maxLen; simp; omega) (by simp; omega) (by exact HG.out.size) ?_); intro v2 w2 hown2 hgrow2; rw [List.nil_append] at hown2; have HO2 := Lib.hid hown2; have HG2 := Lib.hid hgrow2; clear hown2 hgrow2))
  go_ret
  exact ⟨_, rfl, HO2.out, grown_new HG.out HG2.out (fun c hc => (HO.out.lt c hc).1)⟩
end Go.Proofs.YtbjnbaddbanhbaaGreat.StI

namespace Go.Proofs.YtbjnbaddbanhbaaGreat.StI
open Go.RowKit Kit Rw Rg Stm Md StormS

set_option maxHeartbeats 1000000 in
theorem clos_any (w : World) (base b g cap p : Nat) (m : Int) (n : Nat) (L : List Bool) (hW : Wy w base b g cap m n L) (hp : Box w p #[.pointer (some ⟨b, 0, none⟩)] 135) (hpb : p ≠ b) (hpg : p ≠ g) :
    Calls Tryz.prog 177 #[.pointer (some ⟨p, 0, none⟩)] w fun e w' => e = .returned (.bool (decide ((lastN (n - 1) L : Int) < m))) ∧
      Wy w' base b g cap m n (L ++ [decide ((lastN (n - 1) L : Int) < m)]) ∧ Box w' p #[.pointer (some ⟨b, 0, none⟩)] 135 ∧ Below base w w' := by
  have HW := Lib.hid hW
  have HP := Lib.hid hp
  have c0 := hp.cell 0
  have hbs : base ≤ w.heap.size := by obtain ⟨D, t, h1, h2, _⟩ := hW; have := h2.lt g rfl; omega
  have hsz := hp.lt
  obtain ⟨s, hs⟩ : ∃ s, s = decide ((lastN (n - 1) L : Int) < m) := ⟨_, rfl⟩
  have ha := may_any w base b m n L hW.any
  rw [← hs] at ha ⊢
  have HA := Lib.hid ha
  clear ha hs hW hp
  go_enter Tryz.func177, Tryz.ntmps177
  go_wp2_with fail
  refine HA.out.mono ?_
  rintro e w1 ⟨rfl, hg⟩
  have HW1 := Lib.hid (HW.out.grown hg)
  have HP1 := Lib.hid (HP.out.grown hg)
  have HB1 := Lib.hid (grown_below hg base hbs)
  have c1 := HP1.out.cell 0
  have hsz1 := HP1.out.lt
  clear hg c0
  go_wp2_with fail
  refine (pass_one _ base b g cap m n L s HW1.out).mono ?_
  rintro e w2 ⟨rfl, hw, hb, hk⟩
  have HW2 := Lib.hid hw
  have HB2 := Lib.hid hb
  have HP2 : Hid (Box w2 p #[.pointer (some ⟨b, 0, none⟩)] 135) := (hk p hsz1 hpb hpg).trans HP1.out
  clear hw hb hk c1
  go_wp2
  go_ret
  exact ⟨rfl, HW2.out, HP2.out, HB1.out.trans HB2.out⟩

set_option maxHeartbeats 1000000 in
theorem worstW_any (w : World) (m : Int) (n : Nat) (v : Value) (L : List Bool) (hm : (Lit.int .i64 m).wf = true) (h1 : 1 ≤ n) (h10 : n ≤ 10) (hv : SeesG encB w v L) :
    Calls Tryz.prog 156 #[.agg #[.int .i64 m, .int .i64 (n : Nat)], v] w fun e w' => ∃ b g cap p, e = .returned (.func (.func 177) #[] #[.pointer (some ⟨p, 0, none⟩)]) ∧
      Wy w' w.heap.size b g cap m n L ∧ Box w' p #[.pointer (some ⟨b, 0, none⟩)] 135 ∧ p ≠ b ∧ p ≠ g ∧ w.grownBy w' none := by
  have hgr := World.grownBy_alloc w (.cells #[.int .i64 m, .int .i64 (n : Nat)] 38 (0, 0)) none
  have HV := Lib.hid (hv.grown hgr)
  have HG := Lib.hid hgr
  obtain ⟨c0, c1⟩ := two (box_new w #[.int .i64 m, .int .i64 (n : Nat)] 38)
  have ha := fun w hv => after_any w m n v L hm h1 h10 hv
  have HA := Lib.hid ha
  clear hgr ha hm hv
  have hmf : ∀ (fn : Fn) (first cap : Array Value) (w : World), (Instr.makeFunc fn first cap).run Tryz.prog w = .ok (.func fn first cap) w := fun _ _ _ _ => rfl
  go_enter Tryz.func156, Tryz.ntmps156
  go_wp2_with fail
  refine (HA.out _ HV.out).mono ?_
  rintro e w2 ⟨b, rfl, hW, hg⟩
  obtain ⟨gg, cap, hW⟩ := hW.one
  have HG2 := Lib.hid (grownN_trans HG.out hg)
  have hga := World.grownBy_alloc w2 (.cells #[.pointer (some ⟨b, 0, none⟩)] 135 (0, 0)) none
  have HG3 := Lib.hid (grownN_trans HG2.out hga)
  have HW3 := Lib.hid (hW.grown hga)
  have HB3 := Lib.hid (box_new w2 #[.pointer (some ⟨b, 0, none⟩)] 135)
  have hbg : b < w2.heap.size ∧ gg < w2.heap.size := by
    obtain ⟨D, t, h1, h2, _⟩ := hW
    exact ⟨h1.lt, (h2.lt gg rfl).2⟩
  have HN := Lib.hid hbg
  have HZ := Lib.hid (World.size_alloc w (.cells #[.int .i64 m, .int .i64 (n : Nat)] 38 (0, 0)))
  clear hg hW hga c0 c1 hbg
  go_wp2
  go_ret
  have hN := HN.out
  refine ⟨b, gg, cap, w2.heap.size, rfl, ?_, HB3.out, by omega, by omega, HG3.out⟩
  obtain ⟨D, t, q1, q2, q3, q4, q5, q6⟩ := HW3.out
  have hz := HZ.out
  exact ⟨D, t, q1, q2.lower (by omega), q3, q4, by omega, q6⟩

theorem worst_int {m n : Nat} {L : List Bool} {k : Nat} (hk : k ≤ 200) : (worst m n L k : Int) ≤ 4010 := by
  have := worst_le m n L k; omega

end Go.Proofs.YtbjnbaddbanhbaaGreat.StI

namespace Go.Proofs.YtbjnbaddbanhbaaGreat.StI
open Go.RowKit Kit Rw Rg Stm Md StormS

def slen : Value → Nat
  | .slice _ n _ => n
  | _ => 0
end Go.Proofs.YtbjnbaddbanhbaaGreat.StI

namespace Go.Proofs.YtbjnbaddbanhbaaGreat.Mn
open Go.RowKit Kit Rw
def least (a b : Int) : Int := if b < a then b else a
theorem least_lt {a b : Int} (h : b < a) : least a b = b := by unfold least; rw [if_pos h]
theorem least_ge {a b : Int} (h : a ≤ b) : least a b = a := by unfold least; rw [if_neg (by omega)]

set_option maxHeartbeats 400000 in
theorem foremost_min (a b : Int) (w : World) (p : Addr) (hc : w.cell? p = some (.int .i64 b)) :
    Calls Tryz.prog 180 #[.func (.func 182) #[] #[], .int .i64 a, .slice (some p) 1 1] w fun e w' => e = .returned (.int .i64 (least a b)) ∧ w = w' := by
  go_enter Tryz.func180, Tryz.ntmps180
  go_wp2
  go_loop [7, 13] (fun v i => (i = .int .i64 0 ∧ v = .int .i64 a) ∨ (i = .int .i64 1 ∧ v = .int .i64 (least a b))) (fun _ i => 1 - (intOf i).toNat)
  case atStart => exact Or.inl ⟨rfl, rfl⟩
  case round =>
    rcases hrel with ⟨rfl, rfl⟩ | ⟨rfl, rfl⟩
    · by_cases h : b < a
      · go_wp2
        go_round
        case rel => exact Or.inr ⟨rfl, by rw [least_lt (by omega)]⟩
        case measure => simp [intOf]
      · go_wp2
        go_round
        case rel => exact Or.inr ⟨rfl, by rw [least_ge (by omega)]⟩
        case measure => simp [intOf]
    · go_wp2
      go_ret
      exact ⟨rfl, rfl⟩

theorem min_any (a b : Int) (w : World) :
    Calls Tryz.prog 160 #[.int .i64 a, .int .i64 b] w fun e w' => e = .returned (.int .i64 (least a b)) ∧ w.grownBy w' none := by
  have hc : (w.alloc (.cells #[.int .i64 b] 3)).cell? ⟨w.heap.size, 0, none⟩ = some (.int .i64 b) := by go_simp
  go_enter Tryz.func160, Tryz.ntmps160
  go_wp2_with (go_at_call 180; refine (foremost_min _ _ _ _ hc).mono ?_; rintro e w' ⟨rfl, rfl⟩)
  go_ret
  exact ⟨rfl, World.grownBy_alloc _ _ _⟩
def most (a b : Int) : Int := if a < b then b else a
theorem most_gt {a b : Int} (h : a < b) : most a b = b := by unfold most; rw [if_pos h]
theorem most_le {a b : Int} (h : b ≤ a) : most a b = a := by unfold most; rw [if_neg (by omega)]
set_option maxHeartbeats 400000 in
theorem foremost_max (a b : Int) (w : World) (p : Addr) (hc : w.cell? p = some (.int .i64 b)) :
    Calls Tryz.prog 180 #[.func (.func 181) #[] #[], .int .i64 a, .slice (some p) 1 1] w fun e w' => e = .returned (.int .i64 (most a b)) ∧ w = w' := by
  go_enter Tryz.func180, Tryz.ntmps180
  go_wp2
  go_loop [7, 13] (fun v i => (i = .int .i64 0 ∧ v = .int .i64 a) ∨ (i = .int .i64 1 ∧ v = .int .i64 (most a b))) (fun _ i => 1 - (intOf i).toNat)
  case atStart => exact Or.inl ⟨rfl, rfl⟩
  case round =>
    rcases hrel with ⟨rfl, rfl⟩ | ⟨rfl, rfl⟩
    · by_cases h : a < b
      · go_wp2
        go_round
        case rel => exact Or.inr ⟨rfl, by rw [most_gt (by omega)]⟩
        case measure => simp [intOf]
      · go_wp2
        go_round
        case rel => exact Or.inr ⟨rfl, by rw [most_le (by omega)]⟩
        case measure => simp [intOf]
    · go_wp2
      go_ret
      exact ⟨rfl, rfl⟩

theorem max_any (a b : Int) (w : World) :
    Calls Tryz.prog 159 #[.int .i64 a, .int .i64 b] w fun e w' => e = .returned (.int .i64 (most a b)) ∧ w.grownBy w' none := by
  have hc : (w.alloc (.cells #[.int .i64 b] 3)).cell? ⟨w.heap.size, 0, none⟩ = some (.int .i64 b) := by go_simp
  go_enter Tryz.func159, Tryz.ntmps159
  go_wp2_with (go_at_call 180; refine (foremost_max _ _ _ _ hc).mono ?_; rintro e w' ⟨rfl, rfl⟩)
  go_ret
  exact ⟨rfl, World.grownBy_alloc _ _ _⟩
end Go.Proofs.YtbjnbaddbanhbaaGreat.Mn

namespace Go.Proofs.YtbjnbaddbanhbaaGreat.StI
open Go.RowKit Kit Rw Rg Stm Md StormS Mn

set_option maxHeartbeats 1000000 in
theorem iAddDay_any (w : World) (v : Value) (L : List Bool) (b : Bool) (hv : SeesG encB w v L) (hL : L.length ≤ 100000000) :
    Calls Tryz.prog 173 #[v, .bool b] w fun e w' => ∃ u, e = .returned u ∧ OwnG encB 4 w' w.heap.size u (addDay L b) ∧ w.grownBy w' none := by
  have HV := Lib.hid hv
  obtain ⟨a, cap, rfl, hlc, hcm, _⟩ := hv
  obtain ⟨i0, hi, hz0, hz1, hz2⟩ := info_parts StI.info_bool
  obtain ⟨i, hii⟩ : ∃ i, i = L.length + 1 - 10 := ⟨_, rfl⟩
  have hmx : most 0 ((L.length : Int) + 1 - 10) = i := by unfold most; split <;> omega
  have hM := fun w => max_any 0 ((L.length : Int) + 1 - 10) w
  rw [hmx] at hM
  have HM := Lib.hid hM
  have hil : i ≤ L.length := by omega
  have hS := seesG_from HV.out hil (k := i) (by simp [encB])
  have HS : Hid (SeesG encB w (.slice (if cap = i then a else a.map (fun x => x.add i)) (L.length - i) (cap - i)) (L.drop i)) := hS
  have HD : Hid (addDay L b = L.drop i ++ [b]) := by
    show _ = _
    unfold addDay
    rw [List.drop_append_of_le_length (by omega), hii]
  have HLD : Hid ((L.drop i).length ≤ 1000000000) := by show _ ≤ _; simp; omega
  have HLE : Hid (((L.drop i).length : Int) + 1 ≤ 1000000000000) := by show _ ≤ _; simp; omega
  clear hM hmx hii hS
  by_cases hci : cap = i
  · subst hci
    have HS1 : Hid (SeesG encB w (.slice a 0 0) (L.drop cap)) := by
      have := HS.out
      rw [if_pos rfl, show L.length - cap = 0 by omega, Nat.sub_self] at this
      exact this
    go_enter Tryz.func173, Tryz.ntmps173
    go_wp2_with fail
    refine (HM.out _).mono ?_
    rintro e w2 ⟨rfl, hg⟩
    have HG2 := Lib.hid hg
    clear hg
    go_wp2_with fail
    refine (copyB_any _ _ (L.drop cap) 1 (HS1.out.grown HG2.out) (by omega) HLE.out).mono ?_
    rintro e w3 ⟨u, rfl, ho, hg⟩
    have HO3 := Lib.hid ho
    have HG3 := Lib.hid hg
    have HZ := Lib.hid HG2.out.size
    have HB3 := Lib.hid (grownN_trans HG2.out hg)
    clear ho hg
    go_wp2_with (at_builtin; go_loud (refine wpListG_append_one _ rfl _ _ 29 rfl w2.heap.size 4 i0 (.bool false) 1 Tryz.underlying29 hi hz0 hz1 hz2 rfl _ (L.drop cap) rfl HO3.out b #[.bool b] rfl rfl trivial HLD.out (by decide) HG3.out.size ?_); intro v4 w4 hown4 hgrow4 hnew4; have HO4 := Lib.hid hown4; have HG4 := Lib.hid (grown_new HB3.out hgrow4 (fun c hc => Nat.le_trans HZ.out (HO3.out.lt c hc).1)); clear hown4 hgrow4 hnew4)
    go_ret
    exact ⟨_, rfl, by rw [HD.out]; exact HO4.out.lower HZ.out, HG4.out⟩
  · have HS1 : Hid (SeesG encB w (.slice (a.map (fun x => x.add i)) (L.length - i) (cap - i)) (L.drop i)) := by
      have := HS.out
      rw [if_neg hci] at this
      exact this
    go_enter Tryz.func173, Tryz.ntmps173
    go_wp2_with fail
    refine (HM.out _).mono ?_
    rintro e w2 ⟨rfl, hg⟩
    have HG2 := Lib.hid hg
    clear hg
    go_wp2_with fail
    refine (copyB_any _ _ (L.drop i) 1 (HS1.out.grown HG2.out) (by omega) HLE.out).mono ?_
    rintro e w3 ⟨u, rfl, ho, hg⟩
    have HO3 := Lib.hid ho
    have HG3 := Lib.hid hg
    have HZ := Lib.hid HG2.out.size
    have HB3 := Lib.hid (grownN_trans HG2.out hg)
    clear ho hg
    go_wp2_with (at_builtin; go_loud (refine wpListG_append_one _ rfl _ _ 29 rfl w2.heap.size 4 i0 (.bool false) 1 Tryz.underlying29 hi hz0 hz1 hz2 rfl _ (L.drop i) rfl HO3.out b #[.bool b] rfl rfl trivial HLD.out (by decide) HG3.out.size ?_); intro v4 w4 hown4 hgrow4 hnew4; have HO4 := Lib.hid hown4; have HG4 := Lib.hid (grown_new HB3.out hgrow4 (fun c hc => Nat.le_trans HZ.out (HO3.out.lt c hc).1)); clear hown4 hgrow4 hnew4)
    go_ret
    exact ⟨_, rfl, by rw [HD.out]; exact HO4.out.lower HZ.out, HG4.out⟩
end Go.Proofs.YtbjnbaddbanhbaaGreat.StI

namespace Go.Proofs.YtbjnbaddbanhbaaGreat.RuleL
open Go.RowKit Kit Rw Rg Stm StormS StI

theorem sStormsG (w : World) (v : Value) (L : List Bool) (hv : SeesG encB w v L) :
    Calls Tryz.prog 118 #[v] w fun e w' => e = .returned (.int .i64 (storms L)) ∧ w.grownBy w' none :=
  (sStorms_any w v L hv).mono fun e w' h => ⟨h.1, by rw [← h.2]; exact World.grownBy.refl _ _⟩
theorem iStormsG (w : World) (v : Value) (L : List Bool) (hv : SeesG encB w v L) :
    Calls Tryz.prog 166 #[v] w fun e w' => e = .returned (.int .i64 (storms L)) ∧ w.grownBy w' none :=
  (iStorms_any w v L hv).mono fun e w' h => ⟨h.1, by rw [← h.2]; exact World.grownBy.refl _ _⟩

theorem sAddDayG (w : World) (v : Value) (L : List Bool) (b : Bool) (hv : SeesG encB w v L) (hL : L.length ≤ 100000000) :
    Calls Tryz.prog 80 #[v, .bool b] w fun e w' => ∃ u, e = .returned u ∧ SitsG encB w' w.heap.size u (addDay L b) ∧ w.grownBy w' none :=
  (sAddDay_any w v L b hv hL).mono fun e w' ⟨u, h1, h2, h3, h4⟩ => ⟨u, h1, ⟨h2, h3⟩, h4⟩

set_option maxHeartbeats 400000 in
theorem toRule_any (w : World) (m n : Int) :
    Calls Tryz.prog 20 #[.agg #[.int .i64 m, .int .i64 n]] w fun e w' => e = .returned (.agg #[.int .i64 m, .int .i64 n]) ∧ w.grownBy w' none := by
  have b1 := (box_new (w.alloc (.cells #[.int .i64 m, .int .i64 n] 26 (0, 0))) #[.int .i64 m, .int .i64 n] 38).grown (World.grownBy_alloc _ (.cells #[.int .i64 m, .int .i64 n] 38 (0, 0)) none)
  simp only [World.size_alloc] at b1
  have HG := Lib.hid (grownN_trans (grownN_trans (World.grownBy_alloc w (.cells #[.int .i64 m, .int .i64 n] 26 (0, 0)) none) (World.grownBy_alloc _ (.cells #[.int .i64 m, .int .i64 n] 38 (0, 0)) none)) (World.grownBy_alloc _ (.cells #[.int .i64 m, .int .i64 n] 38 (0, 0)) none))
  obtain ⟨c0, c1⟩ := two b1
  clear b1
  go_enter Tryz.func20, Tryz.ntmps20
  go_wp2
  refine bodyPost_ret (v := .agg #[.int .i64 m, .int .i64 n]) ?_ rfl ⟨rfl, HG.out⟩
  simp [results, Tryz.results20, go_sem, c0, c1]
end Go.Proofs.YtbjnbaddbanhbaaGreat.RuleL

namespace Go.Proofs.YtbjnbaddbanhbaaGreat.Rw
open Go.RowKit Kit

section
variable {P : Program} {fn : Func} {R : Ending → World → Prop} {a : Act} {w : World} {p u v : Tmp} {ty t : TypeId} {g : Nat} {cs : Array Value} {d : TypeDesc}
theorem ret_box (h : fn.results = #[.cell p ty]) (hp : a.tmps.getD p undef = .pointer (some ⟨g, 0, none⟩)) (hg : Box w g cs t)
    (hu : P.underlying ty = some d) (hd : (match d with | .struct _ | .array _ _ => true | _ => false) = true) (hi : (P.info? ty).map (·.size) = some cs.size)
    (hf : a.defers = []) (hR : R (.returned (.agg cs)) w) : bodyPost P fn R .ret a w := by
  refine bodyPost_ret (v := .agg cs) ?_ hf hR
  have hp' : a.tmps[p]?.getD undef = .pointer (some ⟨g, 0, none⟩) := by simpa using hp
  simp [results, h, hp', asAddr, run_loadVar_row w g t ty cs (0, 0) d hg hu hd hi]
theorem ret_box1 (h : fn.results = #[.cell p ty, .tmp u]) (hp : a.tmps.getD p undef = .pointer (some ⟨g, 0, none⟩)) (hg : Box w g cs t)
    (hu : P.underlying ty = some d) (hd : (match d with | .struct _ | .array _ _ => true | _ => false) = true) (hi : (P.info? ty).map (·.size) = some cs.size)
    (hf : a.defers = []) (hR : R (.returned (.tuple #[.agg cs, a.tmps.getD u undef])) w) : bodyPost P fn R .ret a w := by
  refine bodyPost_ret (v := .tuple #[.agg cs, a.tmps.getD u undef]) ?_ hf hR
  have hp' : a.tmps[p]?.getD undef = .pointer (some ⟨g, 0, none⟩) := by simpa using hp
  simp [results, h, hp', asAddr, run_loadVar_row w g t ty cs (0, 0) d hg hu hd hi]
theorem ret_box2 (h : fn.results = #[.cell p ty, .tmp u, .tmp v]) (hp : a.tmps.getD p undef = .pointer (some ⟨g, 0, none⟩)) (hg : Box w g cs t)
    (hu : P.underlying ty = some d) (hd : (match d with | .struct _ | .array _ _ => true | _ => false) = true) (hi : (P.info? ty).map (·.size) = some cs.size)
    (hf : a.defers = []) (hR : R (.returned (.tuple #[.agg cs, a.tmps.getD u undef, a.tmps.getD v undef])) w) : bodyPost P fn R .ret a w := by
  refine bodyPost_ret (v := .tuple #[.agg cs, a.tmps.getD u undef, a.tmps.getD v undef]) ?_ hf hR
  have hp' : a.tmps[p]?.getD undef = .pointer (some ⟨g, 0, none⟩) := by simpa using hp
  simp [results, h, hp', asAddr, run_loadVar_row w g t ty cs (0, 0) d hg hu hd hi]
end
end Go.Proofs.YtbjnbaddbanhbaaGreat.Rw

namespace Go.Proofs.YtbjnbaddbanhbaaGreat.Four
open Go.RowKit Kit Rw Rg

section
variable {w : World} {b : Nat} {x y z u v : Value} {t : TypeId}
theorem four (h : Box w b #[x, y, z, u] t) : w.cell? ⟨b, 0, none⟩ = some x ∧ w.cell? ⟨b, 1, none⟩ = some y ∧ w.cell? ⟨b, 2, none⟩ = some z ∧ w.cell? ⟨b, 3, none⟩ = some u := ⟨h.cell 0, h.cell 1, h.cell 2, h.cell 3⟩
theorem heap4 (h : Box w b #[x, y, z, u] t) : w.heap[b]? = some (.cells #[x, y, z, u] t (0, 0)) := h
theorem four_set0 (h : Box w b #[x, y, z, u] t) : Box (w.setCell ⟨b, 0, none⟩ v) b #[v, y, z, u] t := by
  have hlt := h.lt
  have h' : w.heap[b] = .cells #[x, y, z, u] t (0, 0) := by simpa [Array.getElem?_eq_getElem hlt] using heap4 h
  show (w.heap.modify b _)[b]? = _
  rw [Array.getElem?_eq_getElem (by simpa using hlt), Array.getElem_modify_self, h']
  rfl
theorem four_set1 (h : Box w b #[x, y, z, u] t) : Box (w.setCell ⟨b, 1, none⟩ v) b #[x, v, z, u] t := by
  have hlt := h.lt
  have h' : w.heap[b] = .cells #[x, y, z, u] t (0, 0) := by simpa [Array.getElem?_eq_getElem hlt] using heap4 h
  show (w.heap.modify b _)[b]? = _
  rw [Array.getElem?_eq_getElem (by simpa using hlt), Array.getElem_modify_self, h']
  rfl
theorem four_set2 (h : Box w b #[x, y, z, u] t) : Box (w.setCell ⟨b, 2, none⟩ v) b #[x, y, v, u] t := by
  have hlt := h.lt
  have h' : w.heap[b] = .cells #[x, y, z, u] t (0, 0) := by simpa [Array.getElem?_eq_getElem hlt] using heap4 h
  show (w.heap.modify b _)[b]? = _
  rw [Array.getElem?_eq_getElem (by simpa using hlt), Array.getElem_modify_self, h']
  rfl
theorem four_set3 (h : Box w b #[x, y, z, u] t) : Box (w.setCell ⟨b, 3, none⟩ v) b #[x, y, z, v] t := by
  have hlt := h.lt
  have h' : w.heap[b] = .cells #[x, y, z, u] t (0, 0) := by simpa [Array.getElem?_eq_getElem hlt] using heap4 h
  show (w.heap.modify b _)[b]? = _
  rw [Array.getElem?_eq_getElem (by simpa using hlt), Array.getElem_modify_self, h']
  rfl
end
/-- A struct of four cells that is stored whole. -/
def put4 (w : World) (b : Nat) (x y z u : Value) : World := (((w.setCell ⟨b, 0, none⟩ x).setCell ⟨b, 1, none⟩ y).setCell ⟨b, 2, none⟩ z).setCell ⟨b, 3, none⟩ u
theorem put4_grown (w : World) (b : Nat) (x y z u : Value) : w.grownBy (put4 w b x y z u) (some b) :=
  grown_trans (grown_trans (grown_trans (grown_set w b 0 x) (grown_set _ b 1 y)) (grown_set _ b 2 z)) (grown_set _ b 3 u)
section
variable {w : World} {b : Nat} {x y z u : Value} {T : TypeId}
theorem put4_box {x' y' z' u' : Value} (h : Box w b #[x, y, z, u] T) : Box (put4 w b x' y' z' u') b #[x', y', z', u'] T := four_set3 (four_set2 (four_set1 (four_set0 h)))
/-- What is asked at each of its four stores, and what its cells then hold. -/
theorem put4_on (h : Box w b #[x, y, z, u] T) (x' y' z' u' : Value) :
    (w.cell? ⟨b, 0, none⟩ = some x ∧ w.frozen? ⟨b, 0, none⟩ = false) ∧
    ((w.setCell ⟨b, 0, none⟩ x').cell? ⟨b, 1, none⟩ = some y ∧ (w.setCell ⟨b, 0, none⟩ x').frozen? ⟨b, 1, none⟩ = false) ∧
    (((w.setCell ⟨b, 0, none⟩ x').setCell ⟨b, 1, none⟩ y').cell? ⟨b, 2, none⟩ = some z ∧ ((w.setCell ⟨b, 0, none⟩ x').setCell ⟨b, 1, none⟩ y').frozen? ⟨b, 2, none⟩ = false) ∧
    ((((w.setCell ⟨b, 0, none⟩ x').setCell ⟨b, 1, none⟩ y').setCell ⟨b, 2, none⟩ z').cell? ⟨b, 3, none⟩ = some u ∧ (((w.setCell ⟨b, 0, none⟩ x').setCell ⟨b, 1, none⟩ y').setCell ⟨b, 2, none⟩ z').frozen? ⟨b, 3, none⟩ = false) := by
  have b1 := four_set0 (v := x') h
  have b2 := four_set1 (v := y') b1
  have b3 := four_set2 (v := z') b2
  exact ⟨⟨h.cell 0, h.free 0⟩, ⟨b1.cell 1, b1.free 1⟩, ⟨b2.cell 2, b2.free 2⟩, ⟨b3.cell 3, b3.free 3⟩⟩
end
end Go.Proofs.YtbjnbaddbanhbaaGreat.Four
