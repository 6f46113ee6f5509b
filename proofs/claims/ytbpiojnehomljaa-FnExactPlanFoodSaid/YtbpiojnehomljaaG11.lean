/- Contracts of the model's WorstDays and of the program's AddDay. Contracts of the program's Min and Max, for every two arguments. Contract of the program's AddDay. Contracts of the laws' helper on rules, and of the counts, as frames. Results that lie in a block: a struct of one-cell fields, alone and ahead of others. No condition. Boxes of four cells: read, stored into, stored whole. No condition. -/
import Derived.Test.YtbpiojnehomljaaG10
import Derived.Test.YtbpiojnehomljaaMBase
import Derived.WalkKit
import Derived.Laws.Rows
import Derived.Test.YtbpiojnehomljaaG2
namespace Go.Proofs.Ytbpiojnehomljaa.StI
open Go.RowKit Kit Rw Rg Stm Md StormS

def slen : Value → Nat
  | .slice _ n _ => n
  | _ => 0
set_option maxRecDepth 20000 in
set_option maxHeartbeats 1000000 in
theorem sWorst_any (w : World) (m n k : Int) (hm : (Lit.int .i64 m).wf = true) (hn : (Lit.int .i64 n).wf = true) (v : Value) (L : List Bool) (hv : SeesG encB w v L) :
    Calls Try.prog 58 #[.agg #[.int .i64 m, .int .i64 n], v, .int .i64 k] w fun e w' => e = .returned (.int .i64 (worstOf m n L k)) ∧ w.grownBy w' none := by
  have hl := hv.len
  have hgr := World.grownBy_alloc w (.cells #[.int .i64 m, .int .i64 n] 49 (0, 0)) none
  have HV := Lib.hid hv
  have HG := Lib.hid hgr
  have HB := Lib.hid (box_new w #[.int .i64 m, .int .i64 n] 49)
  obtain ⟨c0, c1⟩ := two HB.out
  clear hgr
  have hs := fun w => sIsRule_any w m n hm hn
  obtain ⟨a, cap, rfl, _⟩ := hv
  cases h : isRule m n
  · rw [h] at hs
    have HS := Lib.hid hs
    have HF : Hid (worstOf m n L k = -1) := by show _ = _; unfold worstOf; rw [if_neg (by rw [h]; simp)]
    clear hs h hm hn
    go_enter Try.func58, Try.ntmps58
    go_wp2_with fail
    refine (HS.out _).mono ?_
    rintro e w2 ⟨rfl, hg⟩
    have HG2 := Lib.hid (grownN_trans HG.out hg)
    clear hg
    go_wp2
    go_ret
    exact ⟨ret_i64 HF.out.symm, HG2.out⟩
  · rw [h] at hs
    obtain ⟨M, N, rfl, rfl, hMN, hN⟩ := rule_nat h
    have HS := Lib.hid hs
    have hr := fun w => l1In_any k 0 200 w
    by_cases hk : 0 ≤ k ∧ k ≤ 200
    · have hd := decide_eq_true hk
      rw [hd] at hr
      have HR := Lib.hid hr
      by_cases h400 : L.length ≤ 400
      · obtain ⟨K, rfl⟩ : ∃ c : Nat, k = c := ⟨k.toNat, by omega⟩
        have HF : Hid (worstOf (M : Int) (N : Int) L (K : Int) = (worst M N L K : Int)) := by
          show _ = _
          unfold worstOf
          rw [if_pos ⟨h, hk.1, hk.2, h400⟩]
          simp
        have ha := fun w v L hv => sMayStorm_any w (M : Int) (N : Int) hm hn v L hv
        have HA := Lib.hid ha
        have HMS : Hid (∀ L, mayStorm (M : Int) (N : Int) L = may M N L) := fun L => mayStorm_may h
        obtain ⟨i0, hi, hz0, hz1, hz2⟩ := info_parts StI.info_bool
        clear hs h ha hm hn hr hd
        go_enter Try.func58, Try.ntmps58
        go_wp2_with fail
        refine (HS.out _).mono ?_
        rintro e w2 ⟨rfl, hg⟩
        have HG2 := Lib.hid (grownN_trans HG.out hg)
        have HB2 := Lib.hid (HB.out.grown hg)
        clear hg c0 c1
        go_wp2_with fail
        refine (HR.out _).mono ?_
        rintro e w3 ⟨rfl, rfl⟩
        have hg0 := World.grownBy_alloc w2 (.cells #[] 4 (0, 0)) none
        have HG3 := Lib.hid (grownN_trans HG2.out hg0)
        have HB3 := Lib.hid (HB2.out.grown hg0)
        have HV3 := Lib.hid (HV.out.grown HG3.out)
        have HW : Hid (OwnG encB 4 (w2.alloc (.cells #[] 4 (0, 0))) w2.heap.size (.slice (some ⟨w2.heap.size, 0, none⟩) 0 0) []) := ownG_empty w2
        have hbl := HB2.out.lt
        have HBL := Lib.hid hbl
        have HG0 := Lib.hid hg0.size
        clear hg0 hbl
        go_wp2_with (at_builtin; refine wpListG_append_sees _ rfl _ _ 44 rfl w2.heap.size 4 i0 (.bool false) 1 Try.underlying44 hi hz0 hz1 hz2 rfl _ [] rfl HW.out _ L rfl HV3.out (by unfold maxLen; simp; omega) (by simp; omega) HG0.out ?_; intro v3 w4 hown3 hgrow3; rw [List.nil_append] at hown3; have HO3 := Lib.hid hown3; have HG4 := Lib.hid (grown_new HG3.out hgrow3 (fun c hc => by have h1 := (HW.out.lt c hc).1; have h2 := HBL.out; omega)); have HB4 := Lib.hid (HB3.out.kept hgrow3 (HW.out.off HBL.out)); have HZ4 := Lib.hid (Nat.le_trans HG0.out hgrow3.size); clear hown3 hgrow3)
        go_loopw [2, 7] (fun k u wr => ∃ (c : Nat) (S : List Bool), c ≤ K ∧ k = .int .i64 c ∧ S.length ≤ 4010 ∧ Hid (S.length + worst M N (L ++ S) c = worst M N L K) ∧ Hid (OwnG encB 4 wr w2.heap.size u (L ++ S)) ∧ Hid (Box wr w.heap.size #[.int .i64 (M : Int), .int .i64 (N : Int)] 49) ∧ Hid (w.grownBy wr none) ∧ Hid (w2.heap.size ≤ wr.heap.size)) (fun _ u _ => 5000 - slen u)
        case atStart => exact ⟨K, [], Nat.le_refl _, rfl, by simp, by show _ = _; simp, by rw [List.append_nil]; exact HO3, HB4, HG4, HZ4⟩
        case round =>
          rename_i wr
          obtain ⟨c, S, hc, rfl, hS, HE, HO, HBj, HGj, HZj⟩ := hrel
          have hc0 : c ≤ 200 := by omega
          obtain ⟨ua, un, uc, hu, HUN⟩ := HO.out.sees.shape
          subst hu
          have hun : un ≤ 4410 := by have := HUN.out; simp at this; omega
          obtain ⟨d0, d1⟩ := two HBj.out
          by_cases hlt : 0 < c
          · have HLS : Hid ((L ++ S).length ≤ 1000000000) := by show _ ≤ _; simp; omega
            have hm := HA.out wr _ _ HO.out.sees
            rw [HMS.out] at hm
            obtain ⟨s, hs⟩ : ∃ s, s = may M N (L ++ S) := ⟨_, rfl⟩
            have hw := worst_next (L := L ++ S) (k := c) hMN hN (by omega)
            rw [← hs] at hw hm
            have hi := worst_int (m := M) (n := N) (L := L) (k := K) (by omega)
            have he := HE.out
            have HE1 : Hid ((S ++ [s]).length + worst M N (L ++ (S ++ [s])) (if s = true then c else c - 1) = worst M N L K) := by show _ = _; rw [← List.append_assoc, List.length_append, List.length_singleton]; omega
            have hS1 : (S ++ [s]).length ≤ 4010 := by rw [List.length_append, List.length_singleton]; omega
            have HM := Lib.hid hm
            clear hm hw hi he hs
            go_wp2_with (first
              | (go_at_call 67; refine HM.out.mono ?_; rintro e w5 ⟨rfl, hg5⟩; have HO5 := Lib.hid (HO.out.grown hg5); have HB5 := Lib.hid (HBj.out.grown hg5); have HG5 := Lib.hid (grownN_trans HGj.out hg5); have HZ5 := Lib.hid (Nat.le_trans HZj.out hg5.size); clear hg5)
              | (at_builtin; go_loud (refine wpListG_append_one _ rfl _ _ 44 rfl w2.heap.size 4 i0 (.bool false) 1 Try.underlying44 hi hz0 hz1 hz2 rfl _ (L ++ S) rfl HO5.out s #[.bool s] rfl rfl trivial HLS.out (by decide) HZ5.out ?_); intro v6 w6 hown6 hgrow6 hnew6; rw [List.append_assoc] at hown6; have HO6 := Lib.hid hown6; have HG6 := Lib.hid (grown_new HG5.out hgrow6 (fun c hc => by have h1 := (HO5.out.lt c hc).1; have h2 := HBL.out; omega)); have HB6 := Lib.hid (HB5.out.kept hgrow6 (HO5.out.off HBL.out)); have HZ6 := Lib.hid (Nat.le_trans HZ5.out hgrow6.size); clear hown6 hgrow6 hnew6; cases s))
            all_goals
              obtain ⟨ua6, un6, uc6, hu6, HUN6⟩ := HO6.out.sees.shape
              subst hu6
              go_roundw
              case rel => exact ⟨_, _, by (first | exact hc | exact Nat.le_trans (Nat.sub_le _ _) hc), by go_num, hS1, HE1, HO6, HB6, HG6, HZ6⟩
              case measure => (have h6 := HUN6.out; have h5 := HUN.out; simp at h5 h6; simp [slen]; omega)
          · have : c = 0 := by omega
            subst this
            have he := HE.out
            rw [worst_zero, Nat.add_zero] at he
            have HX := Lib.hid he
            clear he
            go_wp2
            go_ret
            exact ⟨ret_i64 (by rw [HF.out, ← HX.out]; have h5 := HUN.out; simp at h5; omega), HGj.out⟩
      · have HF : Hid (worstOf (M : Int) (N : Int) L k = -1) := by show _ = _; unfold worstOf; rw [if_neg (by omega)]
        clear hs h hm hn hr hd
        go_enter Try.func58, Try.ntmps58
        go_wp2_with fail
        refine (HS.out _).mono ?_
        rintro e w2 ⟨rfl, hg⟩
        have HG2 := Lib.hid (grownN_trans HG.out hg)
        clear hg
        go_wp2_with fail
        refine (HR.out _).mono ?_
        rintro e w3 ⟨rfl, rfl⟩
        go_wp2
        go_ret
        exact ⟨ret_i64 HF.out.symm, HG2.out⟩
    · have hd := decide_eq_false hk
      rw [hd] at hr
      have HR := Lib.hid hr
      have HF : Hid (worstOf (M : Int) (N : Int) L k = -1) := by show _ = _; unfold worstOf; rw [if_neg (by omega)]
      clear hs h hm hn hr hd hk
      go_enter Try.func58, Try.ntmps58
      go_wp2_with fail
      refine (HS.out _).mono ?_
      rintro e w2 ⟨rfl, hg⟩
      have HG2 := Lib.hid (grownN_trans HG.out hg)
      clear hg
      go_wp2_with fail
      refine (HR.out _).mono ?_
      rintro e w3 ⟨rfl, rfl⟩
      go_wp2
      go_ret
      exact ⟨ret_i64 HF.out.symm, HG2.out⟩
end Go.Proofs.Ytbpiojnehomljaa.StI

namespace Go.Proofs.Ytbpiojnehomljaa.Mn
open Go.RowKit Kit Rw
def least (a b : Int) : Int := if b < a then b else a
theorem least_lt {a b : Int} (h : b < a) : least a b = b := by unfold least; rw [if_pos h]
theorem least_ge {a b : Int} (h : a ≤ b) : least a b = a := by unfold least; rw [if_neg (by omega)]

def most (a b : Int) : Int := if a < b then b else a
theorem most_gt {a b : Int} (h : a < b) : most a b = b := by unfold most; rw [if_pos h]
theorem most_le {a b : Int} (h : b ≤ a) : most a b = a := by unfold most; rw [if_neg (by omega)]
set_option maxHeartbeats 400000 in
theorem foremost_max (a b : Int) (w : World) (p : Addr) (hc : w.cell? p = some (.int .i64 b)) :
    Calls Try.prog 106 #[.func (.func 107) #[] #[], .int .i64 a, .slice (some p) 1 1] w fun e w' => e = .returned (.int .i64 (most a b)) ∧ w = w' := by
  go_enter Try.func106, Try.ntmps106
  go_wp2
  go_loop [7, 13] (fun v i => (i = .int .i64 0 ∧ v = .int .i64 a) ∨ (i = .int .i64 1 ∧ v = .int .i64 (most a b))) (fun _ i => 1 - (intOf i).toNat)
  case atStart => exact Or.inl ⟨rfl, rfl⟩
  case round =>
    rcases hrel with ⟨rfl, rfl⟩ | ⟨rfl, rfl⟩
    · by_cases h : a < b
      · go_wp2
        go_round
        case rel => exact Or.inr ⟨rfl, by rw [most_gt (by omega)]⟩
        case measure => simp [intOf]
      · go_wp2
        go_round
        case rel => exact Or.inr ⟨rfl, by rw [most_le (by omega)]⟩
        case measure => simp [intOf]
    · go_wp2
      go_ret
      exact ⟨rfl, rfl⟩

theorem max_any (a b : Int) (w : World) :
    Calls Try.prog 76 #[.int .i64 a, .int .i64 b] w fun e w' => e = .returned (.int .i64 (most a b)) ∧ w.grownBy w' none := by
  have hc : (w.alloc (.cells #[.int .i64 b] 3)).cell? ⟨w.heap.size, 0, none⟩ = some (.int .i64 b) := by go_simp
  go_enter Try.func76, Try.ntmps76
  go_wp2_with (go_at_call 106; refine (foremost_max _ _ _ _ hc).mono ?_; rintro e w' ⟨rfl, rfl⟩)
  go_ret
  exact ⟨rfl, World.grownBy_alloc _ _ _⟩
end Go.Proofs.Ytbpiojnehomljaa.Mn

namespace Go.Proofs.Ytbpiojnehomljaa.StI
open Go.RowKit Kit Rw Rg Stm Md StormS Mn

set_option maxHeartbeats 1000000 in
theorem iAddDay_any (w : World) (v : Value) (L : List Bool) (b : Bool) (hv : SeesG encB w v L) (hL : L.length ≤ 100000000) :
    Calls Try.prog 104 #[v, .bool b] w fun e w' => ∃ u, e = .returned u ∧ OwnG encB 4 w' w.heap.size u (addDay L b) ∧ w.grownBy w' none := by
  have HV := Lib.hid hv
  obtain ⟨a, cap, rfl, hlc, hcm, _⟩ := hv
  obtain ⟨i0, hi, hz0, hz1, hz2⟩ := info_parts StI.info_bool
  obtain ⟨i, hii⟩ : ∃ i, i = L.length + 1 - 10 := ⟨_, rfl⟩
  have hmx : most 0 ((L.length : Int) + 1 - 10) = i := by unfold most; split <;> omega
  have hM := fun w => max_any 0 ((L.length : Int) + 1 - 10) w
  rw [hmx] at hM
  have HM := Lib.hid hM
  have hil : i ≤ L.length := by omega
  have hS := seesG_from HV.out hil (k := i) (by simp [encB])
  have HS : Hid (SeesG encB w (.slice (if cap = i then a else a.map (fun x => x.add i)) (L.length - i) (cap - i)) (L.drop i)) := hS
  have HD : Hid (addDay L b = L.drop i ++ [b]) := by
    show _ = _
    unfold addDay
    rw [List.drop_append_of_le_length (by omega), hii]
  have HLD : Hid ((L.drop i).length ≤ 1000000000) := by show _ ≤ _; simp; omega
  have HLE : Hid (((L.drop i).length : Int) + 1 ≤ 1000000000000) := by show _ ≤ _; simp; omega
  clear hM hmx hii hS
  by_cases hci : cap = i
  · subst hci
    have HS1 : Hid (SeesG encB w (.slice a 0 0) (L.drop cap)) := by
      have := HS.out
      rw [if_pos rfl, show L.length - cap = 0 by omega, Nat.sub_self] at this
      exact this
    go_enter Try.func104, Try.ntmps104
    go_wp2_with fail
    refine (HM.out _).mono ?_
    rintro e w2 ⟨rfl, hg⟩
    have HG2 := Lib.hid hg
    clear hg
    go_wp2_with fail
    refine (copyB_any _ _ (L.drop cap) 1 (HS1.out.grown HG2.out) (by omega) HLE.out).mono ?_
    rintro e w3 ⟨u, rfl, ho, hg⟩
    have HO3 := Lib.hid ho
    have HG3 := Lib.hid hg
    have HZ := Lib.hid HG2.out.size
    have HB3 := Lib.hid (grownN_trans HG2.out hg)
    clear ho hg
    go_wp2_with (at_builtin; go_loud (refine wpListG_append_one _ rfl _ _ 44 rfl w2.heap.size 4 i0 (.bool false) 1 Try.underlying44 hi hz0 hz1 hz2 rfl _ (L.drop cap) rfl HO3.out b #[.bool b] rfl rfl trivial HLD.out (by decide) HG3.out.size ?_); intro v4 w4 hown4 hgrow4 hnew4; have HO4 := Lib.hid hown4; have HG4 := Lib.hid (grown_new HB3.out hgrow4 (fun c hc => Nat.le_trans HZ.out (HO3.out.lt c hc).1)); clear hown4 hgrow4 hnew4)
    go_ret
    exact ⟨_, rfl, by rw [HD.out]; exact HO4.out.lower HZ.out, HG4.out⟩
  · have HS1 : Hid (SeesG encB w (.slice (a.map (fun x => x.add i)) (L.length - i) (cap - i)) (L.drop i)) := by
      have := HS.out
      rw [if_neg hci] at this
      exact this
    go_enter Try.func104, Try.ntmps104
    go_wp2_with fail
    refine (HM.out _).mono ?_
    rintro e w2 ⟨rfl, hg⟩
    have HG2 := Lib.hid hg
    clear hg
    go_wp2_with fail
    refine (copyB_any _ _ (L.drop i) 1 (HS1.out.grown HG2.out) (by omega) HLE.out).mono ?_
    rintro e w3 ⟨u, rfl, ho, hg⟩
    have HO3 := Lib.hid ho
    have HG3 := Lib.hid hg
    have HZ := Lib.hid HG2.out.size
    have HB3 := Lib.hid (grownN_trans HG2.out hg)
    clear ho hg
    go_wp2_with (at_builtin; go_loud (refine wpListG_append_one _ rfl _ _ 44 rfl w2.heap.size 4 i0 (.bool false) 1 Try.underlying44 hi hz0 hz1 hz2 rfl _ (L.drop i) rfl HO3.out b #[.bool b] rfl rfl trivial HLD.out (by decide) HG3.out.size ?_); intro v4 w4 hown4 hgrow4 hnew4; have HO4 := Lib.hid hown4; have HG4 := Lib.hid (grown_new HB3.out hgrow4 (fun c hc => Nat.le_trans HZ.out (HO3.out.lt c hc).1)); clear hown4 hgrow4 hnew4)
    go_ret
    exact ⟨_, rfl, by rw [HD.out]; exact HO4.out.lower HZ.out, HG4.out⟩
end Go.Proofs.Ytbpiojnehomljaa.StI

namespace Go.Proofs.Ytbpiojnehomljaa.RuleL
open Go.RowKit Kit Rw Rg Stm StormS StI

theorem sStormsG (w : World) (v : Value) (L : List Bool) (hv : SeesG encB w v L) :
    Calls Try.prog 101 #[v] w fun e w' => e = .returned (.int .i64 (storms L)) ∧ w.grownBy w' none :=
  (sStorms_any w v L hv).mono fun e w' h => ⟨h.1, by rw [← h.2]; exact World.grownBy.refl _ _⟩
theorem iStormsG (w : World) (v : Value) (L : List Bool) (hv : SeesG encB w v L) :
    Calls Try.prog 136 #[v] w fun e w' => e = .returned (.int .i64 (storms L)) ∧ w.grownBy w' none :=
  (iStorms_any w v L hv).mono fun e w' h => ⟨h.1, by rw [← h.2]; exact World.grownBy.refl _ _⟩

set_option maxHeartbeats 400000 in
theorem toRule_any (w : World) (m n : Int) :
    Calls Try.prog 27 #[.agg #[.int .i64 m, .int .i64 n]] w fun e w' => e = .returned (.agg #[.int .i64 m, .int .i64 n]) ∧ w.grownBy w' none := by
  have b1 := (box_new (w.alloc (.cells #[.int .i64 m, .int .i64 n] 42 (0, 0))) #[.int .i64 m, .int .i64 n] 49).grown (World.grownBy_alloc _ (.cells #[.int .i64 m, .int .i64 n] 49 (0, 0)) none)
  simp only [World.size_alloc] at b1
  have HG := Lib.hid (grownN_trans (grownN_trans (World.grownBy_alloc w (.cells #[.int .i64 m, .int .i64 n] 42 (0, 0)) none) (World.grownBy_alloc _ (.cells #[.int .i64 m, .int .i64 n] 49 (0, 0)) none)) (World.grownBy_alloc _ (.cells #[.int .i64 m, .int .i64 n] 49 (0, 0)) none))
  obtain ⟨c0, c1⟩ := two b1
  clear b1
  go_enter Try.func27, Try.ntmps27
  go_wp2
  refine bodyPost_ret (v := .agg #[.int .i64 m, .int .i64 n]) ?_ rfl ⟨rfl, HG.out⟩
  simp [results, Try.results27, go_sem, c0, c1]
end Go.Proofs.Ytbpiojnehomljaa.RuleL

namespace Go.Proofs.Ytbpiojnehomljaa.Rw
open Go.RowKit Kit

section
variable {P : Program} {fn : Func} {R : Ending → World → Prop} {a : Act} {w : World} {p u v : Tmp} {ty t : TypeId} {g : Nat} {cs : Array Value} {d : TypeDesc}
theorem ret_box (h : fn.results = #[.cell p ty]) (hp : a.tmps.getD p undef = .pointer (some ⟨g, 0, none⟩)) (hg : Box w g cs t)
    (hu : P.underlying ty = some d) (hd : (match d with | .struct _ | .array _ _ => true | _ => false) = true) (hi : (P.info? ty).map (·.size) = some cs.size)
    (hf : a.defers = []) (hR : R (.returned (.agg cs)) w) : bodyPost P fn R .ret a w := by
  refine bodyPost_ret (v := .agg cs) ?_ hf hR
  have hp' : a.tmps[p]?.getD undef = .pointer (some ⟨g, 0, none⟩) := by simpa using hp
  simp [results, h, hp', asAddr, run_loadVar_row w g t ty cs (0, 0) d hg hu hd hi]
theorem ret_box1 (h : fn.results = #[.cell p ty, .tmp u]) (hp : a.tmps.getD p undef = .pointer (some ⟨g, 0, none⟩)) (hg : Box w g cs t)
    (hu : P.underlying ty = some d) (hd : (match d with | .struct _ | .array _ _ => true | _ => false) = true) (hi : (P.info? ty).map (·.size) = some cs.size)
    (hf : a.defers = []) (hR : R (.returned (.tuple #[.agg cs, a.tmps.getD u undef])) w) : bodyPost P fn R .ret a w := by
  refine bodyPost_ret (v := .tuple #[.agg cs, a.tmps.getD u undef]) ?_ hf hR
  have hp' : a.tmps[p]?.getD undef = .pointer (some ⟨g, 0, none⟩) := by simpa using hp
  simp [results, h, hp', asAddr, run_loadVar_row w g t ty cs (0, 0) d hg hu hd hi]
theorem ret_box2 (h : fn.results = #[.cell p ty, .tmp u, .tmp v]) (hp : a.tmps.getD p undef = .pointer (some ⟨g, 0, none⟩)) (hg : Box w g cs t)
    (hu : P.underlying ty = some d) (hd : (match d with | .struct _ | .array _ _ => true | _ => false) = true) (hi : (P.info? ty).map (·.size) = some cs.size)
    (hf : a.defers = []) (hR : R (.returned (.tuple #[.agg cs, a.tmps.getD u undef, a.tmps.getD v undef])) w) : bodyPost P fn R .ret a w := by
  refine bodyPost_ret (v := .tuple #[.agg cs, a.tmps.getD u undef, a.tmps.getD v undef]) ?_ hf hR
  have hp' : a.tmps[p]?.getD undef = .pointer (some ⟨g, 0, none⟩) := by simpa using hp
  simp [results, h, hp', asAddr, run_loadVar_row w g t ty cs (0, 0) d hg hu hd hi]
end
end Go.Proofs.Ytbpiojnehomljaa.Rw

namespace Go.Proofs.Ytbpiojnehomljaa.Four
open Go.RowKit Kit Rw Rg

section
variable {w : World} {b : Nat} {x y z u v : Value} {t : TypeId}
theorem four (h : Box w b #[x, y, z, u] t) : w.cell? ⟨b, 0, none⟩ = some x ∧ w.cell? ⟨b, 1, none⟩ = some y ∧ w.cell? ⟨b, 2, none⟩ = some z ∧ w.cell? ⟨b, 3, none⟩ = some u := ⟨h.cell 0, h.cell 1, h.cell 2, h.cell 3⟩
theorem heap4 (h : Box w b #[x, y, z, u] t) : w.heap[b]? = some (.cells #[x, y, z, u] t (0, 0)) := h
theorem four_set0 (h : Box w b #[x, y, z, u] t) : Box (w.setCell ⟨b, 0, none⟩ v) b #[v, y, z, u] t := by
  have hlt := h.lt
  have h' : w.heap[b] = .cells #[x, y, z, u] t (0, 0) := by simpa [Array.getElem?_eq_getElem hlt] using heap4 h
  show (w.heap.modify b _)[b]? = _
  rw [Array.getElem?_eq_getElem (by simpa using hlt), Array.getElem_modify_self, h']
  rfl
theorem four_set1 (h : Box w b #[x, y, z, u] t) : Box (w.setCell ⟨b, 1, none⟩ v) b #[x, v, z, u] t := by
  have hlt := h.lt
  have h' : w.heap[b] = .cells #[x, y, z, u] t (0, 0) := by simpa [Array.getElem?_eq_getElem hlt] using heap4 h
  show (w.heap.modify b _)[b]? = _
  rw [Array.getElem?_eq_getElem (by simpa using hlt), Array.getElem_modify_self, h']
  rfl
theorem four_set2 (h : Box w b #[x, y, z, u] t) : Box (w.setCell ⟨b, 2, none⟩ v) b #[x, y, v, u] t := by
  have hlt := h.lt
  have h' : w.heap[b] = .cells #[x, y, z, u] t (0, 0) := by simpa [Array.getElem?_eq_getElem hlt] using heap4 h
  show (w.heap.modify b _)[b]? = _
  rw [Array.getElem?_eq_getElem (by simpa using hlt), Array.getElem_modify_self, h']
  rfl
theorem four_set3 (h : Box w b #[x, y, z, u] t) : Box (w.setCell ⟨b, 3, none⟩ v) b #[x, y, z, v] t := by
  have hlt := h.lt
  have h' : w.heap[b] = .cells #[x, y, z, u] t (0, 0) := by simpa [Array.getElem?_eq_getElem hlt] using heap4 h
  show (w.heap.modify b _)[b]? = _
  rw [Array.getElem?_eq_getElem (by simpa using hlt), Array.getElem_modify_self, h']
  rfl
end
/-- A struct of four cells that is stored whole. -/
def put4 (w : World) (b : Nat) (x y z u : Value) : World := (((w.setCell ⟨b, 0, none⟩ x).setCell ⟨b, 1, none⟩ y).setCell ⟨b, 2, none⟩ z).setCell ⟨b, 3, none⟩ u
theorem put4_grown (w : World) (b : Nat) (x y z u : Value) : w.grownBy (put4 w b x y z u) (some b) :=
  grown_trans (grown_trans (grown_trans (grown_set w b 0 x) (grown_set _ b 1 y)) (grown_set _ b 2 z)) (grown_set _ b 3 u)
section
variable {w : World} {b : Nat} {x y z u : Value} {T : TypeId}
theorem put4_box {x' y' z' u' : Value} (h : Box w b #[x, y, z, u] T) : Box (put4 w b x' y' z' u') b #[x', y', z', u'] T := four_set3 (four_set2 (four_set1 (four_set0 h)))
/-- What is asked at each of its four stores, and what its cells then hold. -/
theorem put4_on (h : Box w b #[x, y, z, u] T) (x' y' z' u' : Value) :
    (w.cell? ⟨b, 0, none⟩ = some x ∧ w.frozen? ⟨b, 0, none⟩ = false) ∧
    ((w.setCell ⟨b, 0, none⟩ x').cell? ⟨b, 1, none⟩ = some y ∧ (w.setCell ⟨b, 0, none⟩ x').frozen? ⟨b, 1, none⟩ = false) ∧
    (((w.setCell ⟨b, 0, none⟩ x').setCell ⟨b, 1, none⟩ y').cell? ⟨b, 2, none⟩ = some z ∧ ((w.setCell ⟨b, 0, none⟩ x').setCell ⟨b, 1, none⟩ y').frozen? ⟨b, 2, none⟩ = false) ∧
    ((((w.setCell ⟨b, 0, none⟩ x').setCell ⟨b, 1, none⟩ y').setCell ⟨b, 2, none⟩ z').cell? ⟨b, 3, none⟩ = some u ∧ (((w.setCell ⟨b, 0, none⟩ x').setCell ⟨b, 1, none⟩ y').setCell ⟨b, 2, none⟩ z').frozen? ⟨b, 3, none⟩ = false) := by
  have b1 := four_set0 (v := x') h
  have b2 := four_set1 (v := y') b1
  have b3 := four_set2 (v := z') b2
  exact ⟨⟨h.cell 0, h.free 0⟩, ⟨b1.cell 1, b1.free 1⟩, ⟨b2.cell 2, b2.free 2⟩, ⟨b3.cell 3, b3.free 3⟩⟩
end
end Go.Proofs.Ytbpiojnehomljaa.Four
