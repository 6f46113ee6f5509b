/- Contract of the model's AddDay. Contracts of the program's Keeps, MayStorm, copies with room and AddDay. Contracts of AddDay, of the worst weather's closure and of WorstDays. Contracts of the model's WorstDays and of the program's AddDay. Contracts of the program's Min and Max, for every two arguments. Contract of the program's AddDay. Contracts of the laws' helper on rules, and of the counts, as frames. -/
import Derived.Test.YtochohoihmfanaaStormS
import Derived.Test.YtochohoihmfanaaStJ
import Derived.Test.YtochohoihmfanaaStormK
import Derived.Test.YtochohoihmfanaaMBase
import Derived.WalkKit
namespace Go.Proofs.Ytochohoihmfanaa.StormS
open Go.RowKit Kit Rw Rg Stm Md

theorem info_bool : (Try.prog.info? 4).map (fun i => (i.zero, i.size, i.bytes)) = some (some (.bool false), 1, 1) := by kernel_rfl
theorem from_block {a : Option Addr} {n cap i k m m' : Nat} {c : Nat} (h : (Value.slice (if cap = i then a else a.map (fun x => x.add k)) m m').ownBlock = some c) : (Value.slice a n cap).ownBlock = some c := by
  split at h
  · cases a with
    | none => simp [Value.ownBlock] at h
    | some x => simpa [Value.ownBlock] using h
  · cases a with
    | none => simp [Value.ownBlock] at h
    | some x =>
      simp only [Value.ownBlock, Option.map_some] at h ⊢
      rw [← h]
      simp only [Addr.add]
      split <;> rfl
end Go.Proofs.Ytochohoihmfanaa.StormS

namespace Go.Proofs.Ytochohoihmfanaa.StI
open Go.RowKit Kit Rw Rg Stm Md StormS

theorem sees_nil {α : Type} (e : Enc α) (w : World) : SeesG e w (.slice none 0 0) [] := ⟨none, 0, rfl, by simp, by unfold maxLen; omega, fun _ => rfl, by simp, .inl rfl⟩
set_option maxRecDepth 20000 in
set_option maxHeartbeats 1000000 in
theorem iKeeps_any (w : World) (m n : Int) (hm : (Lit.int .i64 m).wf = true) (hn : (Lit.int .i64 n).wf = true) (v : Value) (L : List Bool) (hv : SeesG encB w v L) :
    Calls Try.prog 89 #[.agg #[.int .i64 m, .int .i64 n], v] w fun e w' => e = .returned (.bool (keeps m n L)) ∧ w.grownBy w' none := by
  have hl := hv.len
  have hgr := World.grownBy_alloc w (.cells #[.int .i64 m, .int .i64 n] 40 (0, 0)) none
  have HV := Lib.hid hv
  have HG := Lib.hid hgr
  have HB := Lib.hid (box_new w #[.int .i64 m, .int .i64 n] 40)
  obtain ⟨c0, c1⟩ := two HB.out
  clear hgr
  have hs := fun w => iIsRule_any w m n hm hn
  obtain ⟨a, cap, rfl, _⟩ := hv
  cases h : isRule m n
  · rw [h] at hs
    have HS := Lib.hid hs
    have HF : Hid (keeps m n L = false) := by show _ = _; unfold keeps; rw [h, Bool.false_and]
    clear hs h hm hn
    go_enter Try.func89, Try.ntmps89
    go_wp2_with fail
    refine (HS.out _).mono ?_
    rintro e w2 ⟨rfl, hg⟩
    have HG2 := Lib.hid (grownN_trans HG.out hg)
    clear hg
    go_wp2
    go_ret
    exact ⟨ret_bool HF.out.symm, HG2.out⟩
  · rw [h] at hs
    obtain ⟨M, N, rfl, rfl, hMN, hN⟩ := rule_nat h
    have HS := Lib.hid hs
    have HI := Lib.hid h
    have ha := fun w => after_any w (M : Int) N (.slice none 0 0) [] hm (by omega) hN (sees_nil encB w)
    have HA := Lib.hid ha
    clear hs h ha hm hn
    go_enter Try.func89, Try.ntmps89
    go_wp2_with fail
    refine (HS.out _).mono ?_
    rintro e w2 ⟨rfl, hg⟩
    have HG2 := Lib.hid (grownN_trans HG.out hg)
    obtain ⟨d0, d1⟩ := two (HB.out.grown hg)
    clear hg c0 c1
    go_wp2_with fail
    refine (HA.out _).mono ?_
    rintro e w3 ⟨b, rfl, hW, hg⟩
    have HG3 := Lib.hid (grownN_trans HG2.out hg)
    have HW : Hid (Wx w3 w2.heap.size b M N (L.take 0)) := by rw [List.take_zero]; exact hW
    have HZ := Lib.hid HG2.out.size
    clear hg hW d0 d1
    go_wp2
    go_loopw [15] (fun i wr => ∃ j : Nat, j ≤ L.length ∧ i = .int .i64 j ∧ Hid (∀ k, k < j → (late (N : Int) (L.take (k + 1)) : Int) ≤ M) ∧ Hid (Wx wr w2.heap.size b M N (L.take j)) ∧ Hid (w.grownBy wr none)) (fun i _ => L.length - (intOf i).toNat)
    case atStart => exact ⟨0, Nat.zero_le _, rfl, fun k hk => absurd hk (Nat.not_lt_zero _), HW, HG3⟩
    case round =>
      obtain ⟨j, hj, rfl, HE, HWj, HGj⟩ := hrel
      by_cases hlt : j < L.length
      · obtain ⟨x, hx⟩ : ∃ x, x = L.getD j false := ⟨_, rfl⟩
        obtain ⟨ab, ao, rfl, hab, hc0⟩ := HV.out.at_rowB hlt
        have hcj : wr.cell? ⟨ab, ao + j, none⟩ = some (.bool (L.getD j false)) := HGj.out.cell hc0 (by simp)
        have hT : L.take (j + 1) = L.take j ++ [x] := by rw [List.take_add_one, hx]; congr 1; simp [hlt]
        rw [← hx] at hcj
        have HT := Lib.hid hT
        clear hx hc0 hab
        by_cases hq : (lastN N (L.take j ++ [x]) : Int) ≤ M
        · have hd := decide_eq_true hq
          have hp := pass_any wr w2.heap.size b M N (L.take j) x HWj.out
          rw [hd] at hp
          have HP := Lib.hid hp
          have HQ := Lib.hid hq
          clear hd hp hq hT
          go_wp2_with (go_at_call 126; refine HP.out.mono ?_; rintro e w5 ⟨rfl, hw5, hb5⟩; have HW5 := Lib.hid hw5; have HB5 := Lib.hid hb5; clear hw5 hb5)
          go_roundw
          case rel =>
            refine ⟨j + 1, by omega, by go_num, fun k hk => ?_, by rw [HT.out]; exact HW5, below_grown ((grown_below HGj.out _ (Nat.le_refl _)).trans (HB5.out.mono HZ.out))⟩
            by_cases h : k = j
            · subst h; rw [HT.out, late_lastN]; exact HQ.out
            · exact HE.out k (by omega)
          case measure => simp [intOf]; omega
        · have hd := decide_eq_false hq
          have hp := pass_any wr w2.heap.size b M N (L.take j) x HWj.out
          rw [hd] at hp
          have HP := Lib.hid hp
          have HK := Lib.hid (keeps_no (n := (N : Int)) (m := (M : Int)) hlt (by rw [hT, late_lastN]; omega))
          clear hd hp hq hT
          go_wp2_with (go_at_call 126; refine HP.out.mono ?_; rintro e w5 ⟨rfl, hw5, hb5⟩; have HB5 := Lib.hid hb5; clear hw5 hb5)
          go_ret
          exact ⟨ret_bool HK.out.symm, below_grown ((grown_below HGj.out _ (Nat.le_refl _)).trans (HB5.out.mono HZ.out))⟩
      · have : j = L.length := by omega
        subst this
        have HK := Lib.hid (keeps_yes HI.out HE.out)
        go_wp2
        go_ret
        exact ⟨ret_bool HK.out.symm, HGj.out⟩

set_option maxRecDepth 20000 in
set_option maxHeartbeats 1000000 in
theorem iMayStorm_any (w : World) (m n : Int) (hm : (Lit.int .i64 m).wf = true) (hn : (Lit.int .i64 n).wf = true) (v : Value) (L : List Bool) (hv : SeesG encB w v L) :
    Calls Try.prog 123 #[.agg #[.int .i64 m, .int .i64 n], v] w fun e w' => e = .returned (.bool (mayStorm m n L)) ∧ w.grownBy w' none := by
  have hl := hv.len
  have hgr := World.grownBy_alloc w (.cells #[.int .i64 m, .int .i64 n] 40 (0, 0)) none
  have HV := Lib.hid hv
  have HG := Lib.hid hgr
  have HB := Lib.hid (box_new w #[.int .i64 m, .int .i64 n] 40)
  obtain ⟨c0, c1⟩ := two HB.out
  clear hgr
  have hs := fun w => iIsRule_any w m n hm hn
  cases h : isRule m n
  · rw [h] at hs
    have HS := Lib.hid hs
    have HF : Hid (mayStorm m n L = false) := by show _ = _; unfold mayStorm; rw [h, Bool.false_and]
    clear hs h hm hn
    go_enter Try.func123, Try.ntmps123
    go_wp2_with fail
    refine (HS.out _).mono ?_
    rintro e w2 ⟨rfl, hg⟩
    have HG2 := Lib.hid (grownN_trans HG.out hg)
    clear hg
    go_wp2
    go_ret
    exact ⟨ret_bool HF.out.symm, HG2.out⟩
  · rw [h] at hs
    obtain ⟨M, N, rfl, rfl, hMN, hN⟩ := rule_nat h
    have HS := Lib.hid hs
    have HF : Hid (mayStorm (M : Int) (N : Int) L = decide (lastN (N - 1) L < M)) := mayStorm_may h
    have ha := fun w hv => after_any w (M : Int) N v L hm (by omega) hN hv
    have HA := Lib.hid ha
    clear hs h ha hm hn hv
    go_enter Try.func123, Try.ntmps123
    go_wp2_with fail
    refine (HS.out _).mono ?_
    rintro e w2 ⟨rfl, hg⟩
    have HG2 := Lib.hid (grownN_trans HG.out hg)
    obtain ⟨d0, d1⟩ := two (HB.out.grown hg)
    clear hg c0 c1
    go_wp2_with fail
    refine (HA.out _ (HV.out.grown HG2.out)).mono ?_
    rintro e w3 ⟨b, rfl, hW, hg⟩
    have HG3 := Lib.hid (grownN_trans HG2.out hg)
    have HW := Lib.hid hW
    clear hg hW d0 d1
    go_wp2_with fail
    refine (may_any _ _ b M N L HW.out).mono ?_
    rintro e w4 ⟨rfl, hg⟩
    have HG4 := Lib.hid (grownN_trans HG3.out hg)
    clear hg
    go_wp2
    go_ret
    exact ⟨ret_bool HF.out.symm, HG4.out⟩

set_option maxHeartbeats 1000000 in
theorem copyB_any (w : World) (v : Value) (X : List Bool) (r : Int) (hv : SeesG encB w v X) (h0 : 0 ≤ r) (hn : X.length + r ≤ 1000000000000) :
    Calls Try.prog 141 #[v, .int .i64 r] w fun e w' => ∃ u, e = .returned u ∧ OwnG encB 4 w' w.heap.size u X ∧ w.grownBy w' none := by
  have HV := Lib.hid hv
  obtain ⟨a, cap, rfl, _⟩ := hv
  obtain ⟨r, rfl⟩ : ∃ c : Nat, r = c := ⟨r.toNat, by omega⟩
  obtain ⟨i0, hi, hz0, hz1, hz2⟩ := info_parts StI.info_bool
  go_enter Try.func141, Try.ntmps141
  go_wp2_with (first
    | (at_make; refine wpList_make_own _ rfl _ _ 38 rfl w.heap.size 4 i0 (.bool false) 1 Try.underlying38 hi hz0 hz1 .i64 .i64 _ (X.length + r) rfl rfl (by simp) (by rw [hz2]; omega) (by unfold maxLen; omega) (Nat.le_refl _) ?_; intro w1 hown hgrow; have HS := Lib.hid (HV.out.grown hgrow); have HO : Hid (OwnG encB 4 w1 w.heap.size _ []) := ⟨hown, fun _ h => by cases h⟩; have HG := Lib.hid hgrow; clear hown hgrow)
    | (at_builtin; go_loud (refine wpListG_append_sees _ rfl _ _ 38 rfl w.heap.size 4 i0 (.bool false) 1 Try.underlying38 hi hz0 hz1 hz2 rfl _ [] rfl HO.out _ X rfl HS.out (by unfold maxLen; simp; omega) (by simp; omega) (by exact HG.out.size) ?_); intro v2 w2 hown2 hgrow2; rw [List.nil_append] at hown2; have HO2 := Lib.hid hown2; have HG2 := Lib.hid hgrow2; clear hown2 hgrow2))
  go_ret
  exact ⟨_, rfl, HO2.out, grown_new HG.out HG2.out (fun c hc => (HO.out.lt c hc).1)⟩
end Go.Proofs.Ytochohoihmfanaa.StI

namespace Go.Proofs.Ytochohoihmfanaa.StI
open Go.RowKit Kit Rw Rg Stm Md StormS

theorem worst_int {m n : Nat} {L : List Bool} {k : Nat} (hk : k ≤ 200) : (worst m n L k : Int) ≤ 4010 := by
  have := worst_le m n L k; omega

end Go.Proofs.Ytochohoihmfanaa.StI

namespace Go.Proofs.Ytochohoihmfanaa.StI
open Go.RowKit Kit Rw Rg Stm Md StormS

def slen : Value → Nat
  | .slice _ n _ => n
  | _ => 0
end Go.Proofs.Ytochohoihmfanaa.StI

namespace Go.Proofs.Ytochohoihmfanaa.Mn
open Go.RowKit Kit Rw
def least (a b : Int) : Int := if b < a then b else a
theorem least_lt {a b : Int} (h : b < a) : least a b = b := by unfold least; rw [if_pos h]
theorem least_ge {a b : Int} (h : a ≤ b) : least a b = a := by unfold least; rw [if_neg (by omega)]

set_option maxHeartbeats 400000 in
theorem foremost_min (a b : Int) (w : World) (p : Addr) (hc : w.cell? p = some (.int .i64 b)) :
    Calls Try.prog 116 #[.func (.func 117) #[] #[], .int .i64 a, .slice (some p) 1 1] w fun e w' => e = .returned (.int .i64 (least a b)) ∧ w = w' := by
  go_enter Try.func116, Try.ntmps116
  go_wp2
  go_loop [7, 13] (fun v i => (i = .int .i64 0 ∧ v = .int .i64 a) ∨ (i = .int .i64 1 ∧ v = .int .i64 (least a b))) (fun _ i => 1 - (intOf i).toNat)
  case atStart => exact Or.inl ⟨rfl, rfl⟩
  case round =>
    rcases hrel with ⟨rfl, rfl⟩ | ⟨rfl, rfl⟩
    · by_cases h : b < a
      · go_wp2
        go_round
        case rel => exact Or.inr ⟨rfl, by rw [least_lt (by omega)]⟩
        case measure => simp [intOf]
      · go_wp2
        go_round
        case rel => exact Or.inr ⟨rfl, by rw [least_ge (by omega)]⟩
        case measure => simp [intOf]
    · go_wp2
      go_ret
      exact ⟨rfl, rfl⟩

theorem min_any (a b : Int) (w : World) :
    Calls Try.prog 71 #[.int .i64 a, .int .i64 b] w fun e w' => e = .returned (.int .i64 (least a b)) ∧ w.grownBy w' none := by
  have hc : (w.alloc (.cells #[.int .i64 b] 3)).cell? ⟨w.heap.size, 0, none⟩ = some (.int .i64 b) := by go_simp
  go_enter Try.func71, Try.ntmps71
  go_wp2_with (go_at_call 116; refine (foremost_min _ _ _ _ hc).mono ?_; rintro e w' ⟨rfl, rfl⟩)
  go_ret
  exact ⟨rfl, World.grownBy_alloc _ _ _⟩
def most (a b : Int) : Int := if a < b then b else a
theorem most_gt {a b : Int} (h : a < b) : most a b = b := by unfold most; rw [if_pos h]
theorem most_le {a b : Int} (h : b ≤ a) : most a b = a := by unfold most; rw [if_neg (by omega)]
set_option maxHeartbeats 400000 in
theorem foremost_max (a b : Int) (w : World) (p : Addr) (hc : w.cell? p = some (.int .i64 b)) :
    Calls Try.prog 116 #[.func (.func 124) #[] #[], .int .i64 a, .slice (some p) 1 1] w fun e w' => e = .returned (.int .i64 (most a b)) ∧ w = w' := by
  go_enter Try.func116, Try.ntmps116
  go_wp2
  go_loop [7, 13] (fun v i => (i = .int .i64 0 ∧ v = .int .i64 a) ∨ (i = .int .i64 1 ∧ v = .int .i64 (most a b))) (fun _ i => 1 - (intOf i).toNat)
  case atStart => exact Or.inl ⟨rfl, rfl⟩
  case round =>
    rcases hrel with ⟨rfl, rfl⟩ | ⟨rfl, rfl⟩
    · by_cases h : a < b
      · go_wp2
        go_round
        case rel => exact Or.inr ⟨rfl, by rw [most_gt (by omega)]⟩
        case measure => simp [intOf]
      · go_wp2
        go_round
        case rel => exact Or.inr ⟨rfl, by rw [most_le (by omega)]⟩
        case measure => simp [intOf]
    · go_wp2
      go_ret
      exact ⟨rfl, rfl⟩

theorem max_any (a b : Int) (w : World) :
    Calls Try.prog 86 #[.int .i64 a, .int .i64 b] w fun e w' => e = .returned (.int .i64 (most a b)) ∧ w.grownBy w' none := by
  have hc : (w.alloc (.cells #[.int .i64 b] 3)).cell? ⟨w.heap.size, 0, none⟩ = some (.int .i64 b) := by go_simp
  go_enter Try.func86, Try.ntmps86
  go_wp2_with (go_at_call 116; refine (foremost_max _ _ _ _ hc).mono ?_; rintro e w' ⟨rfl, rfl⟩)
  go_ret
  exact ⟨rfl, World.grownBy_alloc _ _ _⟩
end Go.Proofs.Ytochohoihmfanaa.Mn

namespace Go.Proofs.Ytochohoihmfanaa.StI
open Go.RowKit Kit Rw Rg Stm Md StormS Mn

set_option maxHeartbeats 1000000 in
theorem iAddDay_any (w : World) (v : Value) (L : List Bool) (b : Bool) (hv : SeesG encB w v L) (hL : L.length ≤ 100000000) :
    Calls Try.prog 122 #[v, .bool b] w fun e w' => ∃ u, e = .returned u ∧ OwnG encB 4 w' w.heap.size u (addDay L b) ∧ w.grownBy w' none := by
  have HV := Lib.hid hv
  obtain ⟨a, cap, rfl, hlc, hcm, _⟩ := hv
  obtain ⟨i0, hi, hz0, hz1, hz2⟩ := info_parts StI.info_bool
  obtain ⟨i, hii⟩ : ∃ i, i = L.length + 1 - 10 := ⟨_, rfl⟩
  have hmx : most 0 ((L.length : Int) + 1 - 10) = i := by unfold most; split <;> omega
  have hM := fun w => max_any 0 ((L.length : Int) + 1 - 10) w
  rw [hmx] at hM
  have HM := Lib.hid hM
  have hil : i ≤ L.length := by omega
  have hS := seesG_from HV.out hil (k := i) (by simp [encB])
  have HS : Hid (SeesG encB w (.slice (if cap = i then a else a.map (fun x => x.add i)) (L.length - i) (cap - i)) (L.drop i)) := hS
  have HD : Hid (addDay L b = L.drop i ++ [b]) := by
    show _ = _
    unfold addDay
    rw [List.drop_append_of_le_length (by omega), hii]
  have HLD : Hid ((L.drop i).length ≤ 1000000000) := by show _ ≤ _; simp; omega
  have HLE : Hid (((L.drop i).length : Int) + 1 ≤ 1000000000000) := by show _ ≤ _; simp; omega
  clear hM hmx hii hS
  by_cases hci : cap = i
  · subst hci
    have HS1 : Hid (SeesG encB w (.slice a 0 0) (L.drop cap)) := by
      have := HS.out
      rw [if_pos rfl, show L.length - cap = 0 by omega, Nat.sub_self] at this
      exact this
    go_enter Try.func122, Try.ntmps122
    go_wp2_with fail
    refine (HM.out _).mono ?_
    rintro e w2 ⟨rfl, hg⟩
    have HG2 := Lib.hid hg
    clear hg
    go_wp2_with fail
    refine (copyB_any _ _ (L.drop cap) 1 (HS1.out.grown HG2.out) (by omega) HLE.out).mono ?_
    rintro e w3 ⟨u, rfl, ho, hg⟩
    have HO3 := Lib.hid ho
    have HG3 := Lib.hid hg
    have HZ := Lib.hid HG2.out.size
    have HB3 := Lib.hid (grownN_trans HG2.out hg)
    clear ho hg
    go_wp2_with (at_builtin; go_loud (refine wpListG_append_one _ rfl _ _ 38 rfl w2.heap.size 4 i0 (.bool false) 1 Try.underlying38 hi hz0 hz1 hz2 rfl _ (L.drop cap) rfl HO3.out b #[.bool b] rfl rfl trivial HLD.out (by decide) HG3.out.size ?_); intro v4 w4 hown4 hgrow4 hnew4; have HO4 := Lib.hid hown4; have HG4 := Lib.hid (grown_new HB3.out hgrow4 (fun c hc => Nat.le_trans HZ.out (HO3.out.lt c hc).1)); clear hown4 hgrow4 hnew4)
    go_ret
    exact ⟨_, rfl, by rw [HD.out]; exact HO4.out.lower HZ.out, HG4.out⟩
  · have HS1 : Hid (SeesG encB w (.slice (a.map (fun x => x.add i)) (L.length - i) (cap - i)) (L.drop i)) := by
      have := HS.out
      rw [if_neg hci] at this
      exact this
    go_enter Try.func122, Try.ntmps122
    go_wp2_with fail
    refine (HM.out _).mono ?_
    rintro e w2 ⟨rfl, hg⟩
    have HG2 := Lib.hid hg
    clear hg
    go_wp2_with fail
    refine (copyB_any _ _ (L.drop i) 1 (HS1.out.grown HG2.out) (by omega) HLE.out).mono ?_
    rintro e w3 ⟨u, rfl, ho, hg⟩
    have HO3 := Lib.hid ho
    have HG3 := Lib.hid hg
    have HZ := Lib.hid HG2.out.size
    have HB3 := Lib.hid (grownN_trans HG2.out hg)
    clear ho hg
    go_wp2_with (at_builtin; go_loud (refine wpListG_append_one _ rfl _ _ 38 rfl w2.heap.size 4 i0 (.bool false) 1 Try.underlying38 hi hz0 hz1 hz2 rfl _ (L.drop i) rfl HO3.out b #[.bool b] rfl rfl trivial HLD.out (by decide) HG3.out.size ?_); intro v4 w4 hown4 hgrow4 hnew4; have HO4 := Lib.hid hown4; have HG4 := Lib.hid (grown_new HB3.out hgrow4 (fun c hc => Nat.le_trans HZ.out (HO3.out.lt c hc).1)); clear hown4 hgrow4 hnew4)
    go_ret
    exact ⟨_, rfl, by rw [HD.out]; exact HO4.out.lower HZ.out, HG4.out⟩
end Go.Proofs.Ytochohoihmfanaa.StI

namespace Go.Proofs.Ytochohoihmfanaa.RuleL
open Go.RowKit Kit Rw Rg Stm StormS StI

theorem sStormsG (w : World) (v : Value) (L : List Bool) (hv : SeesG encB w v L) :
    Calls Try.prog 119 #[v] w fun e w' => e = .returned (.int .i64 (storms L)) ∧ w.grownBy w' none :=
  (sStorms_any w v L hv).mono fun e w' h => ⟨h.1, by rw [← h.2]; exact World.grownBy.refl _ _⟩
theorem iStormsG (w : World) (v : Value) (L : List Bool) (hv : SeesG encB w v L) :
    Calls Try.prog 143 #[v] w fun e w' => e = .returned (.int .i64 (storms L)) ∧ w.grownBy w' none :=
  (iStorms_any w v L hv).mono fun e w' h => ⟨h.1, by rw [← h.2]; exact World.grownBy.refl _ _⟩

set_option maxHeartbeats 400000 in
theorem toRule_any (w : World) (m n : Int) :
    Calls Try.prog 31 #[.agg #[.int .i64 m, .int .i64 n]] w fun e w' => e = .returned (.agg #[.int .i64 m, .int .i64 n]) ∧ w.grownBy w' none := by
  have b1 := (box_new (w.alloc (.cells #[.int .i64 m, .int .i64 n] 37 (0, 0))) #[.int .i64 m, .int .i64 n] 40).grown (World.grownBy_alloc _ (.cells #[.int .i64 m, .int .i64 n] 40 (0, 0)) none)
  simp only [World.size_alloc] at b1
  have HG := Lib.hid (grownN_trans (grownN_trans (World.grownBy_alloc w (.cells #[.int .i64 m, .int .i64 n] 37 (0, 0)) none) (World.grownBy_alloc _ (.cells #[.int .i64 m, .int .i64 n] 40 (0, 0)) none)) (World.grownBy_alloc _ (.cells #[.int .i64 m, .int .i64 n] 40 (0, 0)) none))
  obtain ⟨c0, c1⟩ := two b1
  clear b1
  go_enter Try.func31, Try.ntmps31
  go_wp2
  refine bodyPost_ret (v := .agg #[.int .i64 m, .int .i64 n]) ?_ rfl ⟨rfl, HG.out⟩
  simp [results, Try.results31, go_sem, c0, c1]
end Go.Proofs.Ytochohoihmfanaa.RuleL
