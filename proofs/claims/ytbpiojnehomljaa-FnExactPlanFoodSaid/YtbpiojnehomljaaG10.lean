/- Contract of the model's Keeps. Contract of the model's AddDay. Contracts of the program's Keeps, MayStorm, copies with room and AddDay. Contracts of AddDay, of the worst weather's closure and of WorstDays. -/
import Derived.Test.YtbpiojnehomljaaStormS
import Derived.Test.YtbpiojnehomljaaG9
namespace Go.Proofs.Ytbpiojnehomljaa.StormS
open Go.RowKit Kit Rw Rg Stm Md

/-- 'v[:m]'. -/
theorem seesG_to {α : Type} {e : Enc α} {w : World} {a : Option Addr} {n cap m : Nat} {L : List α} (h : SeesG e w (.slice a n cap) L) (hm : m ≤ L.length) : SeesG e w (.slice a m cap) (L.take m) := by
  obtain ⟨a', c, e', h1, h2, h3, h4, h5⟩ := h
  injection e' with e1 e2 e3
  subst e1; subst e2; subst e3
  have hl : (L.take m).length = m := by rw [List.length_take, Nat.min_eq_left hm]
  refine ⟨_, _, by rw [hl], by omega, h2, h3, fun x hx => h4 x (List.mem_of_mem_take hx), ?_⟩
  rcases h5 with h5 | ⟨b, o, rfl, hc⟩
  · exact .inl (by rw [h5]; simp)
  · refine .inr ⟨b, o, rfl, fun j hj => ?_⟩
    rw [hl] at hj
    have hm2 : m * e.size ≤ L.length * e.size := Nat.mul_le_mul_right _ hm
    rw [hc j (by omega)]
    have h0 : flat e L = flat e (L.take m) ++ flat e (L.drop m) := by rw [← flat_app, List.take_append_drop]
    rw [h0, List.getElem?_append_left (by rw [flat_len, hl]; exact hj)]
theorem keeps_yes {m n : Int} {L : List Bool} (hr : isRule m n = true) (h : ∀ k, k < L.length → (late n (L.take (k + 1)) : Int) ≤ m) : keeps m n L = true := by
  unfold keeps
  rw [hr, Bool.true_and, List.all_eq_true]
  intro k hk
  exact decide_eq_true (h k (List.mem_range.1 hk))
theorem keeps_no {m n : Int} {L : List Bool} {k : Nat} (hk : k < L.length) (h : ¬ (late n (L.take (k + 1)) : Int) ≤ m) : keeps m n L = false := by
  cases hq : keeps m n L with
  | false => rfl
  | true =>
    unfold keeps at hq
    rw [Bool.and_eq_true, List.all_eq_true] at hq
    exact absurd (of_decide_eq_true (hq.2 k (List.mem_range.2 hk))) h
end Go.Proofs.Ytbpiojnehomljaa.StormS

namespace Go.Proofs.Ytbpiojnehomljaa.StormS
open Go.RowKit Kit Rw Rg Stm Md

theorem info_bool : (Try.prog.info? 4).map (fun i => (i.zero, i.size, i.bytes)) = some (some (.bool false), 1, 1) := by kernel_rfl
theorem from_block {a : Option Addr} {n cap i k m m' : Nat} {c : Nat} (h : (Value.slice (if cap = i then a else a.map (fun x => x.add k)) m m').ownBlock = some c) : (Value.slice a n cap).ownBlock = some c := by
  split at h
  · cases a with
    | none => simp [Value.ownBlock] at h
    | some x => simpa [Value.ownBlock] using h
  · cases a with
    | none => simp [Value.ownBlock] at h
    | some x =>
      simp only [Value.ownBlock, Option.map_some] at h ⊢
      rw [← h]
      simp only [Addr.add]
      split <;> rfl
end Go.Proofs.Ytbpiojnehomljaa.StormS

namespace Go.Proofs.Ytbpiojnehomljaa.StI
open Go.RowKit Kit Rw Rg Stm Md StormS

theorem sees_nil {α : Type} (e : Enc α) (w : World) : SeesG e w (.slice none 0 0) [] := ⟨none, 0, rfl, by simp, by unfold maxLen; omega, fun _ => rfl, by simp, .inl rfl⟩
set_option maxRecDepth 20000 in
set_option maxHeartbeats 1000000 in
theorem iMayStorm_any (w : World) (m n : Int) (hm : (Lit.int .i64 m).wf = true) (hn : (Lit.int .i64 n).wf = true) (v : Value) (L : List Bool) (hv : SeesG encB w v L) :
    Calls Try.prog 105 #[.agg #[.int .i64 m, .int .i64 n], v] w fun e w' => e = .returned (.bool (mayStorm m n L)) ∧ w.grownBy w' none := by
  have hl := hv.len
  have hgr := World.grownBy_alloc w (.cells #[.int .i64 m, .int .i64 n] 49 (0, 0)) none
  have HV := Lib.hid hv
  have HG := Lib.hid hgr
  have HB := Lib.hid (box_new w #[.int .i64 m, .int .i64 n] 49)
  obtain ⟨c0, c1⟩ := two HB.out
  clear hgr
  have hs := fun w => iIsRule_any w m n hm hn
  cases h : isRule m n
  · rw [h] at hs
    have HS := Lib.hid hs
    have HF : Hid (mayStorm m n L = false) := by show _ = _; unfold mayStorm; rw [h, Bool.false_and]
    clear hs h hm hn
    go_enter Try.func105, Try.ntmps105
    go_wp2_with fail
    refine (HS.out _).mono ?_
    rintro e w2 ⟨rfl, hg⟩
    have HG2 := Lib.hid (grownN_trans HG.out hg)
    clear hg
    go_wp2
    go_ret
    exact ⟨ret_bool HF.out.symm, HG2.out⟩
  · rw [h] at hs
    obtain ⟨M, N, rfl, rfl, hMN, hN⟩ := rule_nat h
    have HS := Lib.hid hs
    have HF : Hid (mayStorm (M : Int) (N : Int) L = decide (lastN (N - 1) L < M)) := mayStorm_may h
    have ha := fun w hv => after_any w (M : Int) N v L hm (by omega) hN hv
    have HA := Lib.hid ha
    clear hs h ha hm hn hv
    go_enter Try.func105, Try.ntmps105
    go_wp2_with fail
    refine (HS.out _).mono ?_
    rintro e w2 ⟨rfl, hg⟩
    have HG2 := Lib.hid (grownN_trans HG.out hg)
    obtain ⟨d0, d1⟩ := two (HB.out.grown hg)
    clear hg c0 c1
    go_wp2_with fail
    refine (HA.out _ (HV.out.grown HG2.out)).mono ?_
    rintro e w3 ⟨b, rfl, hW, hg⟩
    have HG3 := Lib.hid (grownN_trans HG2.out hg)
    have HW := Lib.hid hW
    clear hg hW d0 d1
    go_wp2_with fail
    refine (may_any _ _ b M N L HW.out).mono ?_
    rintro e w4 ⟨rfl, hg⟩
    have HG4 := Lib.hid (grownN_trans HG3.out hg)
    clear hg
    go_wp2
    go_ret
    exact ⟨ret_bool HF.out.symm, HG4.out⟩

set_option maxHeartbeats 1000000 in
theorem copyB_any (w : World) (v : Value) (X : List Bool) (r : Int) (hv : SeesG encB w v X) (h0 : 0 ≤ r) (hn : X.length + r ≤ 1000000000000) :
    Calls Try.prog 125 #[v, .int .i64 r] w fun e w' => ∃ u, e = .returned u ∧ OwnG encB 4 w' w.heap.size u X ∧ w.grownBy w' none := by
  have HV := Lib.hid hv
  obtain ⟨a, cap, rfl, _⟩ := hv
  obtain ⟨r, rfl⟩ : ∃ c : Nat, r = c := ⟨r.toNat, by omega⟩
  obtain ⟨i0, hi, hz0, hz1, hz2⟩ := info_parts StI.info_bool
  go_enter Try.func125, Try.ntmps125
  go_wp2_with (first
    | (at_make; refine wpList_make_own _ rfl _ _ 44 rfl w.heap.size 4 i0 (.bool false) 1 Try.underlying44 hi hz0 hz1 .i64 .i64 _ (X.length + r) rfl rfl (by simp) (by rw [hz2]; omega) (by unfold maxLen; omega) (Nat.le_refl _) ?_; intro w1 hown hgrow; have HS := Lib.hid (HV.out.grown hgrow); have HO : Hid (OwnG encB 4 w1 w.heap.size _ []) := ⟨hown, fun _ h => by cases h⟩; have HG := Lib.hid hgrow; clear hown hgrow)
    | (at_builtin; go_loud (refine wpListG_append_sees _ rfl _ _ 44 rfl w.heap.size 4 i0 (.bool false) 1 Try.underlying44 hi hz0 hz1 hz2 rfl _ [] rfl HO.out _ X rfl HS.out (by unfold maxLen; simp; omega) (by simp; omega) (by exact HG.out.size) ?_); intro v2 w2 hown2 hgrow2; rw [List.nil_append] at hown2; have HO2 := Lib.hid hown2; have HG2 := Lib.hid hgrow2; clear hown2 hgrow2))
  go_ret
  exact ⟨_, rfl, HO2.out, grown_new HG.out HG2.out (fun c hc => (HO.out.lt c hc).1)⟩
end Go.Proofs.Ytbpiojnehomljaa.StI

namespace Go.Proofs.Ytbpiojnehomljaa.StI
open Go.RowKit Kit Rw Rg Stm Md StormS

set_option maxHeartbeats 1000000 in
theorem clos_any (w : World) (base b g cap p : Nat) (m : Int) (n : Nat) (L : List Bool) (hW : Wy w base b g cap m n L) (hp : Box w p #[.pointer (some ⟨b, 0, none⟩)] 137) (hpb : p ≠ b) (hpg : p ≠ g) :
    Calls Try.prog 122 #[.pointer (some ⟨p, 0, none⟩)] w fun e w' => e = .returned (.bool (decide ((lastN (n - 1) L : Int) < m))) ∧
      Wy w' base b g cap m n (L ++ [decide ((lastN (n - 1) L : Int) < m)]) ∧ Box w' p #[.pointer (some ⟨b, 0, none⟩)] 137 ∧ Below base w w' := by
  have HW := Lib.hid hW
  have HP := Lib.hid hp
  have c0 := hp.cell 0
  have hbs : base ≤ w.heap.size := by obtain ⟨D, t, h1, h2, _⟩ := hW; have := h2.lt g rfl; omega
  have hsz := hp.lt
  obtain ⟨s, hs⟩ : ∃ s, s = decide ((lastN (n - 1) L : Int) < m) := ⟨_, rfl⟩
  have ha := may_any w base b m n L hW.any
  rw [← hs] at ha ⊢
  have HA := Lib.hid ha
  clear ha hs hW hp
  go_enter Try.func122, Try.ntmps122
  go_wp2_with fail
  refine HA.out.mono ?_
  rintro e w1 ⟨rfl, hg⟩
  have HW1 := Lib.hid (HW.out.grown hg)
  have HP1 := Lib.hid (HP.out.grown hg)
  have HB1 := Lib.hid (grown_below hg base hbs)
  have c1 := HP1.out.cell 0
  have hsz1 := HP1.out.lt
  clear hg c0
  go_wp2_with fail
  refine (pass_one _ base b g cap m n L s HW1.out).mono ?_
  rintro e w2 ⟨rfl, hw, hb, hk⟩
  have HW2 := Lib.hid hw
  have HB2 := Lib.hid hb
  have HP2 : Hid (Box w2 p #[.pointer (some ⟨b, 0, none⟩)] 137) := (hk p hsz1 hpb hpg).trans HP1.out
  clear hw hb hk c1
  go_wp2
  go_ret
  exact ⟨rfl, HW2.out, HP2.out, HB1.out.trans HB2.out⟩

set_option maxHeartbeats 1000000 in
theorem worstW_any (w : World) (m : Int) (n : Nat) (v : Value) (L : List Bool) (hm : (Lit.int .i64 m).wf = true) (h1 : 1 ≤ n) (h10 : n ≤ 10) (hv : SeesG encB w v L) :
    Calls Try.prog 96 #[.agg #[.int .i64 m, .int .i64 (n : Nat)], v] w fun e w' => ∃ b g cap p, e = .returned (.func (.func 122) #[] #[.pointer (some ⟨p, 0, none⟩)]) ∧
      Wy w' w.heap.size b g cap m n L ∧ Box w' p #[.pointer (some ⟨b, 0, none⟩)] 137 ∧ p ≠ b ∧ p ≠ g ∧ w.grownBy w' none := by
  have hgr := World.grownBy_alloc w (.cells #[.int .i64 m, .int .i64 (n : Nat)] 49 (0, 0)) none
  have HV := Lib.hid (hv.grown hgr)
  have HG := Lib.hid hgr
  obtain ⟨c0, c1⟩ := two (box_new w #[.int .i64 m, .int .i64 (n : Nat)] 49)
  have ha := fun w hv => after_any w m n v L hm h1 h10 hv
  have HA := Lib.hid ha
  clear hgr ha hm hv
  have hmf : ∀ (fn : Fn) (first cap : Array Value) (w : World), (Instr.makeFunc fn first cap).run Try.prog w = .ok (.func fn first cap) w := fun _ _ _ _ => rfl
  go_enter Try.func96, Try.ntmps96
  go_wp2_with fail
  refine (HA.out _ HV.out).mono ?_
  rintro e w2 ⟨b, rfl, hW, hg⟩
  obtain ⟨gg, cap, hW⟩ := hW.one
  have HG2 := Lib.hid (grownN_trans HG.out hg)
  have hga := World.grownBy_alloc w2 (.cells #[.pointer (some ⟨b, 0, none⟩)] 137 (0, 0)) none
  have HG3 := Lib.hid (grownN_trans HG2.out hga)
  have HW3 := Lib.hid (hW.grown hga)
  have HB3 := Lib.hid (box_new w2 #[.pointer (some ⟨b, 0, none⟩)] 137)
  have hbg : b < w2.heap.size ∧ gg < w2.heap.size := by
    obtain ⟨D, t, h1, h2, _⟩ := hW
    exact ⟨h1.lt, (h2.lt gg rfl).2⟩
  have HN := Lib.hid hbg
  have HZ := Lib.hid (World.size_alloc w (.cells #[.int .i64 m, .int .i64 (n : Nat)] 49 (0, 0)))
  clear hg hW hga c0 c1 hbg
  go_wp2
  go_ret
  have hN := HN.out
  refine ⟨b, gg, cap, w2.heap.size, rfl, ?_, HB3.out, by omega, by omega, HG3.out⟩
  obtain ⟨D, t, q1, q2, q3, q4, q5, q6⟩ := HW3.out
  have hz := HZ.out
  exact ⟨D, t, q1, q2.lower (by omega), q3, q4, by omega, q6⟩

theorem worst_int {m n : Nat} {L : List Bool} {k : Nat} (hk : k ≤ 200) : (worst m n L k : Int) ≤ 4010 := by
  have := worst_le m n L k; omega

set_option maxRecDepth 20000 in
set_option maxHeartbeats 2000000 in
theorem iWorst_any (w : World) (m n k : Int) (hm : (Lit.int .i64 m).wf = true) (hn : (Lit.int .i64 n).wf = true) (v : Value) (L : List Bool) (hv : SeesG encB w v L) :
    Calls Try.prog 61 #[.agg #[.int .i64 m, .int .i64 n], v, .int .i64 k] w fun e w' => e = .returned (.int .i64 (worstOf m n L k)) ∧ w.grownBy w' none := by
  have hl := hv.len
  have hgr := World.grownBy_alloc w (.cells #[.int .i64 m, .int .i64 n] 49 (0, 0)) none
  have HV := Lib.hid hv
  have HG := Lib.hid hgr
  have HB := Lib.hid (box_new w #[.int .i64 m, .int .i64 n] 49)
  obtain ⟨c0, c1⟩ := two HB.out
  clear hgr
  have hs := fun w => iIsRule_any w m n hm hn
  obtain ⟨a, cap, rfl, _⟩ := hv
  cases h : isRule m n
  · rw [h] at hs
    have HS := Lib.hid hs
    have HF : Hid (worstOf m n L k = -1) := by show _ = _; unfold worstOf; rw [if_neg (by rw [h]; simp)]
    clear hs h hm hn
    go_enter Try.func61, Try.ntmps61
    go_wp2_with fail
    refine (HS.out _).mono ?_
    rintro e w2 ⟨rfl, hg⟩
    have HG2 := Lib.hid (grownN_trans HG.out hg)
    clear hg
    go_wp2
    go_ret
    exact ⟨ret_i64 HF.out.symm, HG2.out⟩
  · rw [h] at hs
    obtain ⟨M, N, rfl, rfl, hMN, hN⟩ := rule_nat h
    have HS := Lib.hid hs
    have hr := fun w => inRange_any k 0 200 w
    by_cases hk : 0 ≤ k ∧ k ≤ 200
    · have hd := decide_eq_true hk
      rw [hd] at hr
      have HR := Lib.hid hr
      by_cases h400 : L.length ≤ 400
      · obtain ⟨K, rfl⟩ : ∃ c : Nat, k = c := ⟨k.toNat, by omega⟩
        have HF : Hid (worstOf (M : Int) (N : Int) L (K : Int) = (worst M N L K : Int)) := by
          show _ = _
          unfold worstOf
          rw [if_pos ⟨h, hk.1, hk.2, h400⟩]
          simp
        have ha := fun w hv => worstW_any w (M : Int) N (.slice a L.length cap) L hm (by omega) hN hv
        have HA := Lib.hid ha
        clear hs h ha hm hn hr hd
        go_enter Try.func61, Try.ntmps61
        go_wp2_with fail
        refine (HS.out _).mono ?_
        rintro e w2 ⟨rfl, hg⟩
        have HG2 := Lib.hid (grownN_trans HG.out hg)
        obtain ⟨d0, d1⟩ := two (HB.out.grown hg)
        clear hg c0 c1
        go_wp2_with fail
        refine (HR.out _).mono ?_
        rintro e w3 ⟨rfl, rfl⟩
        go_wp2_with fail
        refine (HA.out _ (HV.out.grown HG2.out)).mono ?_
        rintro e w3 ⟨b, g, cap2, p, rfl, hW, hp, hpb, hpg, hg⟩
        have HG3 := Lib.hid (grownN_trans HG2.out hg)
        have HW := Lib.hid hW
        have HP := Lib.hid hp
        have HN := Lib.hid (And.intro hpb hpg)
        have HZ := Lib.hid HG2.out.size
        clear hg hW hp hpb hpg d0 d1
        have hbase : w2.heap.size ≤ w3.heap.size := by obtain ⟨D, t, h1, h2, _⟩ := HW.out; have := h2.lt g rfl; omega
        go_wp2
        go_loopw [8, 26] (fun d i wr => ∃ j x : Nat, ∃ L2 : List Bool, j ≤ K ∧ i = .int .i64 j ∧ d = .int .i64 x ∧ x ≤ 4010 ∧ Hid (x + worst M N L2 (K - j) = worst M N L K) ∧ Hid (Wy wr w2.heap.size b g cap2 M N L2) ∧ Hid (Box wr p #[.pointer (some ⟨b, 0, none⟩)] 137) ∧ Hid (w.grownBy wr none)) (fun _ i _ => K - (intOf i).toNat)
        case atStart => exact ⟨0, 0, L, Nat.zero_le _, rfl, rfl, by omega, by show _ = _; simp, HW, HP, HG3⟩
        case round =>
          obtain ⟨j, x, L2, hj, rfl, rfl, hx, HE, HWj, HPj, HGj⟩ := hrel
          have hb1 : wr.heap.size ≥ w2.heap.size := by obtain ⟨D, t, h1, h2, _⟩ := HWj.out; have := h2.lt g rfl; omega
          by_cases hlt : j < K
          · go_wp2
            go_loopw [8] (fun d wr => ∃ y : Nat, ∃ L3 : List Bool, d = .int .i64 y ∧ y ≤ 4011 ∧ Hid (y + worst M N L3 (K - j) = worst M N L K + 1) ∧ Hid (Wy wr w2.heap.size b g cap2 M N L3) ∧ Hid (Box wr p #[.pointer (some ⟨b, 0, none⟩)] 137) ∧ Hid (w.grownBy wr none)) (fun d _ => 5000 - (intOf d).toNat)
            case atStart => exact ⟨x + 1, L2, by go_num, by omega, by have := HE.out; show _ = _; omega, HWj, HPj, HGj⟩
            case round =>
              rename_i wr2
              obtain ⟨y, L3, rfl, hy, HE3, HW3, HP3, HG3'⟩ := hrel
              have hc := clos_any _ w2.heap.size b g cap2 p M N L3 HW3.out HP3.out HN.out.1 HN.out.2
              by_cases hq : (lastN (N - 1) L3 : Int) < M
              · have hd := decide_eq_true hq
                have hm : may M N L3 = true := by unfold may; exact decide_eq_true (by omega)
                have hw := worst_storm (L := L3) (k := K - j) hMN hN (by omega) hm
                have hi := worst_int (m := M) (n := N) (L := L) (k := K) (by omega)
                have he := HE3.out
                have hy2 : y ≤ 4010 := by omega
                have HE4 : Hid (y + 1 + worst M N (L3 ++ [true]) (K - j) = worst M N L K + 1) := by show _ = _; omega
                rw [hd] at hc
                have HC := Lib.hid hc
                clear hc hd hq hm hw hi he
                go_wp2_with (go_at_call 122; refine HC.out.mono ?_; rintro e w5 ⟨rfl, h5, h6, h7⟩; have HW5 := Lib.hid h5; have HP5 := Lib.hid h6; have HB5 := Lib.hid h7; clear h5 h6 h7)
                go_roundw
                case rel => exact ⟨y + 1, L3 ++ [true], by go_num, by omega, HE4, HW5, HP5, below_grown ((grown_below HG3'.out _ (Nat.le_refl _)).trans (HB5.out.mono HZ.out))⟩
                case measure => simp [intOf]; omega
              · have hd := decide_eq_false hq
                have hm : may M N L3 = false := by unfold may; exact decide_eq_false (by omega)
                have hw := worst_calm (L := L3) (k := K - j) hMN hN (by omega) hm
                have hi := worst_int (m := M) (n := N) (L := L) (k := K) (by omega)
                have he := HE3.out
                have hy2 : y ≤ 4010 := by omega
                have HE4 : Hid (y + worst M N (L3 ++ [false]) (K - (j + 1)) = worst M N L K) := by show _ = _; rw [show K - (j + 1) = K - j - 1 by omega]; omega
                rw [hd] at hc
                have HC := Lib.hid hc
                clear hc hd hq hm hw hi he
                go_wp2_with (go_at_call 122; refine HC.out.mono ?_; rintro e w5 ⟨rfl, h5, h6, h7⟩; have HW5 := Lib.hid h5; have HP5 := Lib.hid h6; have HB5 := Lib.hid h7; clear h5 h6 h7)
                go_roundw
                case rel => exact ⟨j + 1, y, L3 ++ [false], by omega, by go_num, rfl, hy2, HE4, HW5, HP5, below_grown ((grown_below HG3'.out _ (Nat.le_refl _)).trans (HB5.out.mono HZ.out))⟩
                case measure => simp [intOf]; omega
          · have : j = K := by omega
            subst this
            have he := HE.out
            rw [Nat.sub_self, worst_zero, Nat.add_zero] at he
            have HX := Lib.hid he
            clear he
            go_wp2
            go_ret
            exact ⟨ret_i64 (by rw [HF.out, HX.out]), HGj.out⟩
      · have HF : Hid (worstOf (M : Int) (N : Int) L k = -1) := by show _ = _; unfold worstOf; rw [if_neg (by omega)]
        clear hs h hm hn hr hd
        go_enter Try.func61, Try.ntmps61
        go_wp2_with fail
        refine (HS.out _).mono ?_
        rintro e w2 ⟨rfl, hg⟩
        have HG2 := Lib.hid (grownN_trans HG.out hg)
        clear hg
        go_wp2_with fail
        refine (HR.out _).mono ?_
        rintro e w3 ⟨rfl, rfl⟩
        go_wp2
        go_ret
        exact ⟨ret_i64 HF.out.symm, HG2.out⟩
    · have hd := decide_eq_false hk
      rw [hd] at hr
      have HR := Lib.hid hr
      have HF : Hid (worstOf (M : Int) (N : Int) L k = -1) := by show _ = _; unfold worstOf; rw [if_neg (by omega)]
      clear hs h hm hn hr hd hk
      go_enter Try.func61, Try.ntmps61
      go_wp2_with fail
      refine (HS.out _).mono ?_
      rintro e w2 ⟨rfl, hg⟩
      have HG2 := Lib.hid (grownN_trans HG.out hg)
      clear hg
      go_wp2_with fail
      refine (HR.out _).mono ?_
      rintro e w3 ⟨rfl, rfl⟩
      go_wp2
      go_ret
      exact ⟨ret_i64 HF.out.symm, HG2.out⟩
end Go.Proofs.Ytbpiojnehomljaa.StI
