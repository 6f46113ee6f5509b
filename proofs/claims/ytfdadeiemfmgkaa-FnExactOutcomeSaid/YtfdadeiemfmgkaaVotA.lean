/- Contracts of a vote that is added, of the program and of its model. -/
import Derived.Test.YtfdadeiemfmgkaaVotJ
import Derived.Test.YtfdadeiemfmgkaaTwo
import Derived.Lib.SliceRun
namespace Go.Proofs.Ytfdadeiemfmgkaa.VotA
open Go.RowKit Kit Rw Rg Crw Vot Tw

abbrev whos (V : List V2) : List Int := V.map (·.1)
theorem whos_len (V : List V2) : (whos V).length = V.length := by simp
theorem whos_get {V : List V2} {j : Nat} (h : j < V.length) : (whos V).getD j 0 = (V.getD j (0, 0)).1 := by simp [h]
/-- The votes with one more, or with one in another's place. -/
def addV (V : List V2) (x : V2) : List V2 := if 0 ≤ Wat.place (whos V) x.1 0 then V.set (Wat.place (whos V) x.1 0).toNat x else V ++ [x]
def ok (L : List Mem) (V : List V2) (x : V2) : Bool := areVotes L (addV V x)
def res (L : List Mem) (V : List V2) (x : V2) : List V2 := if ok L V x = true then addV V x else V
theorem addV_len (V : List V2) (x : V2) : (addV V x).length ≤ V.length + 1 := by
  unfold addV; split <;> simp
theorem res_len (L : List Mem) (V : List V2) (x : V2) : (res L V x).length ≤ V.length + 1 := by
  unfold res; split
  · exact addV_len V x
  · omega
theorem ret_t {u : Value} {a b : Bool} (h : a = b) : Ending.returned (.tuple #[u, .bool a]) = .returned (.tuple #[u, .bool b]) := by rw [h]
theorem info_vote : (Try.prog.info? 49).map (fun i => (i.zero, i.size, i.bytes)) = some (some (.agg #[.int .i64 0, .int .i64 0]), 2, 16) := by kernel_rfl

set_option maxRecDepth 20000 in
set_option maxHeartbeats 400000 in
theorem clo_any (w : World) (b : Nat) (who x0 x1 : Int) (hb : w.cell? ⟨b, 0, none⟩ = some (.int .i64 who)) :
    Calls Try.prog 92 #[.agg #[.int .i64 x0, .int .i64 x1], .pointer (some ⟨b, 0, none⟩)] w fun e w' => e = .returned (.bool (x0 == who)) ∧ w.grownBy w' none := by
  have hg := World.grownBy_alloc w (.cells #[.int .i64 x0, .int .i64 x1] 49 (0, 0)) (none : Option Nat)
  have hc := hg.cell hb (by simp)
  have HG := Lib.hid hg
  clear hb hg
  go_enter Try.func92, Try.ntmps92
  go_wp2
  go_ret
  exact ⟨rfl, HG.out⟩

set_option maxRecDepth 20000 in
set_option maxHeartbeats 1000000 in
theorem indexF_any (w : World) (v : Value) (b : Nat) (who : Int) (V : List V2) (hv : SeesG encP w v V) (hb : w.cell? ⟨b, 0, none⟩ = some (.int .i64 who)) :
    Calls Try.prog 91 #[v, .func (.func 92) #[] #[.pointer (some ⟨b, 0, none⟩)]] w fun e w' => e = .returned (.int .i64 (Wat.place (whos V) who 0)) ∧ w.grownBy w' none := by
  have hl := hv.len
  have HV := Lib.hid hv
  have HBC := Lib.hid hb
  obtain ⟨a, cap, rfl, _⟩ := hv
  clear hb
  go_enter Try.func91, Try.ntmps91
  go_wp2
  go_loopw [8] (fun i wr => ∃ j : Nat, j ≤ V.length ∧ i = .int .i64 j ∧ Hid (∀ m, m < j → (whos V).getD m 0 ≠ who) ∧ Hid (w.grownBy wr none)) (fun i _ => V.length - (intOf i).toNat)
  case atStart => exact ⟨0, Nat.zero_le _, rfl, fun m hm => absurd hm (Nat.not_lt_zero _), World.grownBy.refl _ _⟩
  case round =>
    rename_i _ wr
    obtain ⟨j, hj, rfl, HE, HG⟩ := hrel
    by_cases hlt : j < V.length
    · obtain ⟨ab, o, rfl, _, _⟩ := HV.out.at_row hlt
      obtain ⟨x, hx⟩ : ∃ x, V.getD j (0, 0) = x := ⟨_, rfl⟩
      obtain ⟨d0, d1⟩ := atP_in HV.out HG.out hlt hx
      have HX := Lib.hid hx
      have HCL := Lib.hid (fun x0 x1 => clo_any wr b who x0 x1 (HG.out.cell HBC.out (by simp)))
      clear hx
      obtain ⟨x0, x1⟩ := x
      dsimp only at d0 d1
      have HWG : Hid ((whos V).getD j 0 = x0) := by show _ = _; rw [whos_get hlt, HX.out]
      by_cases he : x0 = who
      · have HR : Hid (Wat.place (whos V) who 0 = (j : Int)) := by show _ = _; rw [Wat.place_hit (j := j) (by rw [whos_len]; exact hlt) (by rw [HWG.out, he]) HE.out, Nat.zero_add]
        have heb : (x0 == who) = true := by simpa using he
        have HC := Lib.hid (HCL.out x0 x1)
        rw [heb] at HC
        clear he heb
        go_wp2_with (go_at_call 92; refine HC.out.mono ?_; rintro e w3 ⟨rfl, hg⟩; have HG3 := Lib.hid (grownN_trans HG.out hg); clear hg)
        go_ret
        exact ⟨ret_i64 HR.out.symm, HG3.out⟩
      · have HE2 : Hid (∀ m, m < j + 1 → (whos V).getD m 0 ≠ who) := fun m hm => by
          by_cases h : m = j
          · subst h; rw [HWG.out]; exact he
          · exact HE.out m (by omega)
        have heb : (x0 == who) = false := by simpa using he
        have HC := Lib.hid (HCL.out x0 x1)
        rw [heb] at HC
        clear he heb
        go_wp2_with (go_at_call 92; refine HC.out.mono ?_; rintro e w3 ⟨rfl, hg⟩; have HG3 := Lib.hid (grownN_trans HG.out hg); clear hg)
        go_roundw
        case rel => exact ⟨j + 1, by omega, by go_num, HE2, HG3⟩
        case measure => simp [intOf]; omega
    · have hjn : V.length = j := by omega
      have HR : Hid (Wat.place (whos V) who 0 = -1) := by show _ = _; exact Wat.place_miss (fun m hm => HE.out m (by rw [whos_len] at hm; omega))
      go_wp2
      go_ret
      exact ⟨ret_i64 HR.out.symm, HG.out⟩

set_option maxRecDepth 20000 in
set_option maxHeartbeats 400000 in
theorem place_any (w : World) (v : Value) (who : Int) (V : List V2) (hv : SeesG encP w v V) :
    Calls Try.prog 76 #[v, .int .i64 who] w fun e w' => e = .returned (.int .i64 (Wat.place (whos V) who 0)) ∧ w.grownBy w' none := by
  have hg := World.grownBy_alloc w (.cells #[.int .i64 who] 3 (0, 0)) (none : Option Nat)
  have HI := Lib.hid (indexF_any _ v w.heap.size who V (hv.grown hg) ((box_new w #[.int .i64 who] 3).cell 0))
  have HG := Lib.hid hg
  clear hv hg
  go_enter Try.func76, Try.ntmps76
  go_wp2_with fail
  refine HI.out.mono ?_
  rintro e w2 ⟨rfl, hg⟩
  have HG2 := Lib.hid (grownN_trans HG.out hg)
  clear hg
  go_wp2
  go_ret
  exact ⟨rfl, HG2.out⟩

set_option maxRecDepth 20000 in
set_option maxHeartbeats 1000000 in
theorem room_any (w : World) (v : Value) (r : Int) (X : List V2) (hv : SeesG encP w v X) (hn : X.length ≤ 1000000000) (hr : 0 ≤ r ∧ r ≤ 1000000) :
    Calls Try.prog 77 #[v, .int .i64 r] w fun e w' => ∃ u, e = .returned u ∧ OwnG encP 49 w' w.heap.size u X ∧ w.grownBy w' none := by
  have HV := Lib.hid hv
  obtain ⟨a, cap, rfl, hlc, hcm, hnil, hwf, hcell⟩ := hv
  obtain ⟨r, rfl⟩ : ∃ c : Nat, r = c := ⟨r.toNat, by omega⟩
  clear hwf hcell hnil
  obtain ⟨i0, hi, hz0, hz1, hz2⟩ := info_parts info_vote
  go_enter Try.func77, Try.ntmps77
  go_wp2_with (first
    | (at_make; refine wpList_make_own _ rfl _ _ 25 rfl w.heap.size 49 i0 (.agg #[.int .i64 0, .int .i64 0]) 2 Try.underlying25 hi hz0 hz1 .i64 .i64 _ (X.length + r) rfl rfl (by simp) (by rw [hz2]; omega) (by unfold maxLen; omega) (Nat.le_refl _) ?_; intro w1 hown hgrow; have HS := Lib.hid (HV.out.grown hgrow); have HO : Hid (OwnG encP 49 w1 w.heap.size (.slice (some ⟨w.heap.size, 0, none⟩) 0 (X.length + r)) []) := Lib.hid ⟨hown, by simp⟩; have HG := Lib.hid hgrow; clear hown hgrow)
    | (at_builtin; go_loud (refine wpListG_append_sees _ rfl _ _ 25 rfl w.heap.size 49 i0 (.agg #[.int .i64 0, .int .i64 0]) 16 Try.underlying25 hi hz0 hz1 hz2 rfl _ [] rfl HO.out _ X rfl HS.out (by unfold maxLen; simp; omega) (by simp; omega) (by exact HG.out.size) ?_); intro v2 w2 hown2 hgrow2; rw [List.nil_append] at hown2; have HO2 := Lib.hid hown2; have HG2 := Lib.hid hgrow2; clear hown2 hgrow2))
  go_ret
  exact ⟨_, rfl, HO2.out, grown_new HG.out HG2.out (fun c hc => (HO.out.lt c hc).1)⟩

set_option maxRecDepth 20000 in
set_option maxHeartbeats 1000000 in
theorem clone_any (w : World) (v : Value) (X : List V2) (hv : SeesG encP w v X) (hn : X.length ≤ 1000000000) :
    Calls Try.prog 78 #[v] w fun e w' => ∃ u, e = .returned u ∧ OwnG encP 49 w' w.heap.size u X ∧ w.grownBy w' none := by
  have hg0 := World.grownBy_alloc w (.cells #[] 49 (0, 0)) none
  have HV := Lib.hid (hv.grown hg0)
  have HW : Hid (OwnG encP 49 (w.alloc (.cells #[] 49 (0, 0))) w.heap.size (.slice (some ⟨w.heap.size, 0, none⟩) 0 0) []) := ownG_empty w
  have HG := Lib.hid hg0
  clear hg0
  obtain ⟨a, cap, rfl, h1, h2, h3, _, _⟩ := hv
  obtain ⟨i0, hi, hz0, hz1, hz2⟩ := info_parts info_vote
  have q : ∀ (w : World) (a : Option Addr) (n c n' c' : Nat), (binOp .eql 25 (.slice a n c) (.slice none n' c')).run Try.prog w = .ok (.bool a.isNone) w := fun w a n c n' c' => Lib.run_eql_slice_nil w _ _ a n c n' c' Try.underlying25
  cases a with
  | none =>
    have hc := h3 rfl
    have hL : X = [] := List.eq_nil_of_length_eq_zero (by omega)
    subst hL
    subst hc
    go_enter Try.func78, Try.ntmps78
    go_wp2
    go_ret
    exact ⟨_, rfl, ownG_nil, World.grownBy.refl _ _⟩
  | some ad =>
    clear h1 h2 h3
    go_enter Try.func78, Try.ntmps78
    go_wp2_with (at_builtin; go_loud (refine wpListG_append_sees _ rfl _ _ 25 rfl w.heap.size 49 i0 (.agg #[.int .i64 0, .int .i64 0]) 16 Try.underlying25 hi hz0 hz1 hz2 rfl _ [] rfl HW.out _ X rfl HV.out (by unfold maxLen; simp; omega) (by simp; omega) HG.out.size ?_); intro v3 w3 hown3 hgrow3; rw [List.nil_append] at hown3; have HO3 := Lib.hid hown3; have HG3 := Lib.hid (grown_new HG.out hgrow3 (fun c hc => (HW.out.lt c hc).1)); clear hown3 hgrow3)
    go_ret
    exact ⟨_, rfl, HO3.out, HG3.out⟩

set_option maxRecDepth 20000 in
set_option maxHeartbeats 2000000 in
theorem iAdd_any (w : World) (lv v : Value) (L : List Mem) (V : List V2) (x0 x1 : Int) (h0 : (Lit.int .i64 x0).wf = true) (h1 : (Lit.int .i64 x1).wf = true) (hl : SeesG encM w lv L) (hv : SeesG encP w v V) (hn : V.length ≤ 100000000) :
    Calls Try.prog 41 #[lv, v, .agg #[.int .i64 x0, .int .i64 x1]] w fun e w' => ∃ u, e = .returned (.tuple #[u, .bool (ok L V (x0, x1))]) ∧ OwnG encP 49 w' w.heap.size u (res L V (x0, x1)) ∧ w.grownBy w' none := by
  have hg := World.grownBy_alloc w (.cells #[.int .i64 x0, .int .i64 x1] 49 (0, 0)) (none : Option Nat)
  have HB := Lib.hid (box_new w #[.int .i64 x0, .int .i64 x1] 49)
  have HL := Lib.hid hl
  have HV := Lib.hid hv
  have HG := Lib.hid hg
  have HRM := Lib.hid (room_any _ v 1 V (hv.grown hg) (by omega) (by omega))
  obtain ⟨i0, hi, hz0, hz1, hz2⟩ := info_parts info_vote
  obtain ⟨c0, c1⟩ := two HB.out
  clear hl hv hg
  go_enter Try.func41, Try.ntmps41
  go_wp2_with fail
  refine HRM.out.mono ?_
  rintro e w2 ⟨u, rfl, ho, hg⟩
  have HO2 := Lib.hid ho
  have HS2 := Lib.hid hg.size
  have HG2 := Lib.hid (grownN_trans HG.out hg)
  have HB2 := Lib.hid (HB.out.grown hg)
  have HWS : Hid (w.heap.size < (w.alloc (.cells #[.int .i64 x0, .int .i64 x1] 49 (0, 0))).heap.size) := by show _ < _; simp
  generalize (w.alloc (.cells #[.int .i64 x0, .int .i64 x1] 49 (0, 0))) = wb at *
  have HPL := Lib.hid (place_any w2 v x0 V (HV.out.grown HG2.out))
  obtain ⟨c0, c1⟩ := two HB2.out
  clear ho hg
  go_wp2_with fail
  refine HPL.out.mono ?_
  rintro e w3 ⟨rfl, hg⟩
  have HO3 := Lib.hid (HO2.out.grown hg)
  have HS3 := Lib.hid (Nat.le_trans HS2.out hg.size)
  have HG3 := Lib.hid (grownN_trans HG2.out hg)
  have HB3 := Lib.hid (HB2.out.grown hg)
  obtain ⟨c0, c1⟩ := two HB3.out
  clear hg HO2
  obtain ⟨p, hp⟩ : ∃ p, p = Wat.place (whos V) x0 0 := ⟨_, rfl⟩
  rw [← hp]
  have hcl := fun w' hg => clone_any w' v V (HV.out.grown hg) (by omega)
  have HCL := Lib.hid hcl
  have hcases := Wat.place_of (whos V) x0 0
  simp only [← hp, Nat.zero_add] at hcases
  clear hcl
  by_cases hp0 : 0 ≤ p
  · obtain ⟨k, rfl⟩ : ∃ k : Nat, p = k := ⟨p.toNat, by omega⟩
    have hk : k < V.length := by
      rcases hcases with ⟨h, _⟩ | ⟨j, hj, _, h⟩
      · omega
      · rw [whos_len] at hj; omega
    have HA : Hid (addV V (x0, x1) = V.set k (x0, x1)) := by show _ = _; unfold addV; dsimp only; rw [← hp, if_pos hp0]; rfl
    have ho3 := HO3.out
    rcases ho3.1.2 with ⟨rfl, hn0⟩ | ⟨g, cap, cur, rfl, hb, hgg, hnc, hcm, hcs, ht⟩
    · omega
    · obtain ⟨z0, z1⟩ := ho3.cellP hk
      obtain ⟨z, hz⟩ : ∃ z, z = V.getD k (0, 0) := ⟨_, rfl⟩
      rw [← hz] at z0 z1
      have f0 := ho3.free (k * 2)
      have f1 := ho3.free (k * 2 + 1)
      have hput := ho3.putP rfl hk (x0, x1) ⟨h0, h1⟩
      have HBK : Hid (w.heap.size < g) := by have h1 := HWS.out; show _ < _; omega
      have HP := Lib.hid hput
      have HLEN : Hid ((V.set k (x0, x1)).length = V.length) := by show _ = _; simp
      have hkI : (k : Int) < (V.length : Int) := by omega
      clear hp hcases hz hput ho3 hgg hcm hcs ht hnc hb
      go_wp2_with fail
      generalize ((w3.setCell ⟨g, k * 2, none⟩ (.int .i64 x0)).setCell ⟨g, k * 2 + 1, none⟩ (.int .i64 x1)) = w4 at *
      have HG4 := Lib.hid (grown_new HG3.out HP.out.2 (fun c h => by injection h with h; have := HBK.out; omega))
      have hsee := HP.out.1.sees
      have HVT := Lib.hid (VotI.iVotes_any w4 lv _ L _ (HL.out.grown HG4.out) hsee)
      rw [← HA.out] at HVT
      clear hsee
      refine HVT.out.mono ?_
      rintro e w5 ⟨rfl, hg⟩
      have HG5 := Lib.hid (grownN_trans HG4.out hg)
      have HO5 := Lib.hid (HP.out.1.grown hg)
      clear hg
      cases hok : areVotes L (addV V (x0, x1))
      · have HR : Hid (ok L V (x0, x1) = false ∧ res L V (x0, x1) = V) := ⟨hok, by unfold res; rw [if_neg (by unfold ok; rw [hok]; simp)]⟩
        have HC5 := Lib.hid (HCL.out w5 HG5.out)
        clear hok
        go_wp2_with fail
        refine HC5.out.mono ?_
        rintro e w6 ⟨u6, rfl, ho, hg⟩
        have HO6 := Lib.hid (ho.lower HG5.out.size)
        have HG6 := Lib.hid (grownN_trans HG5.out hg)
        clear ho hg
        go_wp2
        go_ret2
        exact ⟨_, ret_t HR.out.1.symm, by rw [HR.out.2]; exact HO6.out, HG6.out⟩
      · have HR : Hid (ok L V (x0, x1) = true ∧ res L V (x0, x1) = V.set k (x0, x1)) := ⟨hok, by unfold res; rw [if_pos (show ok L V (x0, x1) = true from hok), HA.out]⟩
        clear hok
        go_wp2
        go_ret2
        exact ⟨_, ret_t HR.out.1.symm, by rw [HR.out.2]; have := HO5.out.lower (Nat.le_of_lt HWS.out); exact this, HG5.out⟩
  · have HA : Hid (addV V (x0, x1) = V ++ [(x0, x1)]) := by show _ = _; unfold addV; dsimp only; rw [← hp, if_neg hp0]
    have HLT : Hid (wb.heap.size ≤ w3.heap.size) := HS3.out
    clear hp hcases
    go_wp2_with (at_builtin; go_loud (refine wpListG_append_one (e := encP) _ rfl _ _ 25 rfl wb.heap.size 49 i0 (.agg #[.int .i64 0, .int .i64 0]) 16 Try.underlying25 hi hz0 hz1 hz2 rfl _ V rfl HO3.out (x0, x1) #[.int .i64 x0, .int .i64 x1] rfl rfl ⟨h0, h1⟩ (by omega) (by decide) HLT.out ?_); intro v4 w4 hown hgrow hloc; have HO4 := Lib.hid hown; have HG4 := Lib.hid (grown_new HG3.out hgrow (fun c hc => by have h1 := (HO3.out.lt c hc).1; have h2 := HWS.out; omega)); clear hown hgrow hloc; rw [← HA.out] at HO4; have HVT := Lib.hid (VotI.iVotes_any w4 lv _ L _ (HL.out.grown HG4.out) HO4.out.sees))
    refine HVT.out.mono ?_
    rintro e w5 ⟨rfl, hg⟩
    have HG5 := Lib.hid (grownN_trans HG4.out hg)
    have HO5 := Lib.hid (HO4.out.grown hg)
    clear hg
    cases hok : areVotes L (addV V (x0, x1))
    · have HR : Hid (ok L V (x0, x1) = false ∧ res L V (x0, x1) = V) := ⟨hok, by unfold res; rw [if_neg (by unfold ok; rw [hok]; simp)]⟩
      have HC5 := Lib.hid (HCL.out w5 HG5.out)
      clear hok
      go_wp2_with fail
      refine HC5.out.mono ?_
      rintro e w6 ⟨u6, rfl, ho, hg⟩
      have HO6 := Lib.hid (ho.lower HG5.out.size)
      have HG6 := Lib.hid (grownN_trans HG5.out hg)
      clear ho hg
      go_wp2
      go_ret2
      exact ⟨_, ret_t HR.out.1.symm, by rw [HR.out.2]; exact HO6.out, HG6.out⟩
    · have HR : Hid (ok L V (x0, x1) = true ∧ res L V (x0, x1) = addV V (x0, x1)) := ⟨hok, by unfold res; rw [if_pos (show ok L V (x0, x1) = true from hok)]⟩
      clear hok
      go_wp2
      go_ret2
      exact ⟨_, ret_t HR.out.1.symm, by rw [HR.out.2]; exact HO5.out.lower (Nat.le_of_lt HWS.out), HG5.out⟩
end Go.Proofs.Ytfdadeiemfmgkaa.VotA
