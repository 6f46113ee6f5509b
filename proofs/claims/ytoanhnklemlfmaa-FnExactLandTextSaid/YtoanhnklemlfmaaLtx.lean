/- Contracts of a land's text, of the program and of its model. -/
import Derived.Test.YtoanhnklemlfmaaTxt
import Derived.Test.YtoanhnklemlfmaaLandI
import Derived.Test.YtoanhnklemlfmaaLandS
import Derived.Deep.QuietTactic
import Derived.BigQuiet
namespace Go.Proofs.Ytoanhnklemlfmaa.Ltx
open Go.RowKit Kit Rw Rg Ld Txt Bld

set_option maxHeartbeats 1000000 in
set_option maxRecDepth 100000 in
/-- One byte more. -/
theorem writeB_any (w : World) (b : Nat) (t : ByteArray) (c : UInt8) (n : Int) (hc : n = (c.toNat : Int)) (h : Bd w b (cod t)) (hl : t.size ≤ 1000000) :
    Calls Try.prog 13 #[.pointer (some ⟨b, 0, none⟩), .int .u8 n] w fun e w' => e = .returned .nilIface ∧ Bd w' b (cod (t ++ ⟨#[c]⟩)) ∧ Below b w w' := by
  obtain ⟨i0, hi, hz0, hz1, hz2⟩ := info_parts Bld.info_u8
  have HC := Lib.hid (check_any w b _ h)
  have HLT := Lib.hid h.lt
  have HCD : Hid (cod (t ++ ⟨#[c]⟩) = cod t ++ [n]) := by show _ = _; rw [cod_app, hc]; rfl
  have HWF : Hid ((Lit.int .u8 n).wf = true) := u8_mk (by rw [hc]; have := c.toNat_lt; omega)
  clear h hc
  go_enter Try.func13, Try.ntmps13
  go_wp2_with fail
  refine HC.out.mono ?_
  rintro e w1 ⟨rfl, ⟨v, hb1, ho1⟩, hg1⟩
  obtain ⟨va, vn, vc, rfl, HN⟩ := ho1.sees.shape
  have hvn : vn ≤ 1000000 := by rw [← HN.out, cod_len]; exact hl
  have c1 : w1.cell? ⟨b, 1, none⟩ = some (.slice va vn vc) := hb1.cell 1
  have HB1 := Lib.hid hb1
  have HO1 := Lib.hid ho1
  have HG1 := Lib.hid (grown_below' hg1 HLT.out)
  have HLN : Hid ((cod t).length ≤ 1000000) := by show _ ≤ _; rw [cod_len]; exact hl
  clear hb1 ho1 hg1 HC
  go_wp2_with (at_builtin; go_loud (refine wpList_append_one _ rfl _ _ 35 rfl (b + 1) 5 i0 (.int .u8 0) 1 Try.underlying35 hi hz0 hz1 hz2 rfl .u8 (.slice va vn vc) (cod t) rfl HO1.out n rfl HWF.out (by have := HLN.out; omega) (by decide) HB1.out.lt ?_); intro u w2 ho2 hg2; obtain ⟨ua, un, uc, rfl, HUN⟩ := ho2.sees.shape; have hne : (Value.slice va vn vc).ownBlock ≠ some b := (fun e => by have := HO1.out.1.lt _ e; omega); have HB2 := Lib.hid (HB1.out.kept hg2 hne); have HB3 := Lib.hid (set2_1 (u := .slice ua un uc) HB2.out); have HO2 := Lib.hid ho2; have HG2 : Hid (Below b w w2) := HG1.out.trans ((Below.refl b w1).grown hg2 (Nat.le_of_lt HB1.out.lt) (fun k hk => by have := HO1.out.1.lt _ hk; omega)); have HO3 := Lib.hid (HO2.out.kept (grown_set w2 b 1 (.slice ua un uc)) (Bld.own_off HO2.out)); have HG3 : Hid (Below b w (w2.setCell ⟨b, 1, none⟩ (.slice ua un uc))) := HG2.out.trans (grown_below' (grown_set w2 b 1 (.slice ua un uc)) HB2.out.lt); have d1 := HB2.out.cell 1; have f1 := HB2.out.free 1; clear ho2 hg2 c1)
  go_ret
  exact ⟨rfl, ⟨_, _, .inr rfl, HB3.out, by rw [HCD.out]; exact HO3.out⟩, HG3.out⟩

def kb (k : Int) : ByteArray := if k = 0 then ⟨#[46]⟩ else if k = 1 then ⟨#[105]⟩ else ⟨#[35]⟩
theorem kb_size (k : Int) : (kb k).size = 1 := by
  unfold kb
  split
  · rfl
  · split <;> rfl
def landT (W : Int) (X : List Int) : Nat → ByteArray
  | 0 => ⟨#[]⟩
  | j + 1 => (if 0 < j ∧ (j : Int) % W = 0 then landT W X j ++ ⟨#[47]⟩ else landT W X j) ++ kb (X.getD j 0)
theorem land_yes {W : Int} {X : List Int} {j : Nat} (h0 : 0 < j) (h : (j : Int) % W = 0) : landT W X (j + 1) = landT W X j ++ ⟨#[47]⟩ ++ kb (X.getD j 0) := by
  unfold landT; rw [if_pos ⟨h0, h⟩]; cases j <;> rfl
theorem land_no {W : Int} {X : List Int} {j : Nat} (h : ¬ (j : Int) % W = 0) : landT W X (j + 1) = landT W X j ++ kb (X.getD j 0) := by
  show (if _ then _ else _) ++ _ = _
  rw [if_neg (fun e => h e.2)]
theorem land_0 (W : Int) (X : List Int) : landT W X 1 = landT W X 0 ++ kb (X.getD 0 0) := by
  show (if _ then _ else _) ++ _ = _
  rw [if_neg (fun e => absurd e.1 (Nat.lt_irrefl 0))]
theorem land_size (W : Int) (X : List Int) : ∀ j, (landT W X j).size ≤ 2 * j
  | 0 => by simp [landT, ByteArray.size]
  | j + 1 => by
    have ih := land_size W X j
    show ((if _ then _ else _) ++ _ : ByteArray).size ≤ _
    rw [size_app, kb_size]
    split
    · rw [size_app, show (⟨#[47]⟩ : ByteArray).size = 1 from rfl]; omega
    · omega
noncomputable def full (W H : Int) (X : List Int) : ByteArray := if isLand W H X = true then landT W X X.length else ⟨#[]⟩
theorem full_no {W H : Int} {X : List Int} (h : isLand W H X = false) : full W H X = ⟨#[]⟩ := if_neg (by rw [h]; simp)
theorem full_yes {W H : Int} {X : List Int} (h : isLand W H X = true) : full W H X = landT W X X.length := if_pos h
theorem slice_kb {k : Int} (h0 : 0 ≤ k) (h1 : k ≤ 2) (w : World) : (Instr.slice 9 (.string ⟨#[46, 105, 35]⟩) (some (.int .i64 k)) (some (.int .i64 (k + 1))) none).run Try.prog w = .ok (.string (kb k)) w := by
  have h := run_slice_string (P := Try.prog) w 9 ⟨#[46, 105, 35]⟩ .i64 .i64 k (k + 1) Try.underlying9 h0 (by omega) (by show k + 1 ≤ ((3 : Nat) : Int); omega)
  rw [h]
  obtain rfl | rfl | rfl : k = 0 ∨ k = 1 ∨ k = 2 := by omega
  all_goals rfl
theorem bounds {W H : Int} {X : List Int} (h : isLand W H X = true) : (1 ≤ W ∧ W ≤ 8) ∧ X.length ≤ 64 ∧ ∀ k ∈ X, 0 ≤ k ∧ k ≤ 2 := by
  obtain ⟨hW, hH, hLen, hk⟩ := isLand_of h
  have hA := area hW hH
  rw [← hLen] at hA
  exact ⟨hW, by omega, hk⟩
theorem get_bd {X : List Int} {j : Nat} (h : ∀ k ∈ X, 0 ≤ k ∧ k ≤ 2) (hj : j < X.length) : 0 ≤ X.getD j 0 ∧ X.getD j 0 ≤ 2 := h _ (by rw [List.getD_eq_getElem?_getD, List.getElem?_eq_getElem hj]; exact List.getElem_mem hj)
-- WALKS

set_option maxRecDepth 20000 in
set_option maxHeartbeats 4000000 in
theorem iLandT_any (w : World) (W H : Int) (v : Value) (X : List Int) (hv : Sees .i64 w v X) :
    Calls Try.prog 7 #[.agg #[.int .i64 W, .int .i64 H, v]] w fun e w' => e = .returned (.string (full W H X)) ∧ w.grownBy w' none := by
  obtain ⟨va, vn, vc, rfl, HVN⟩ := hv.shape
  have hgr := World.grownBy_alloc w (.cells #[.int .i64 W, .int .i64 H, .slice va vn vc] 27 (0, 0)) none
  have HG := Lib.hid hgr
  have HV := Lib.hid (hv.grown hgr)
  have HB := Lib.hid (box_new w #[.int .i64 W, .int .i64 H, .slice va vn vc] 27)
  have HS1 : Hid ((w.alloc (.cells #[.int .i64 W, .int .i64 H, .slice va vn vc] 27 (0, 0))).heap.size = w.heap.size + 1) := World.size_alloc _ _
  obtain ⟨c0, c1, c2⟩ := HB.out.three
  have hs := LandI.isLand_any _ W H _ X (hv.grown hgr)
  clear hgr hv
  cases hc : isLand W H X
  · rw [hc] at hs
    have HS := Lib.hid hs
    have HR : Hid (full W H X = ⟨#[]⟩) := full_no hc
    clear hs hc
    go_enter Try.func7, Try.ntmps7
    go_wp2_with fail
    refine HS.out.mono ?_
    rintro e w2 ⟨rfl, hg⟩
    have HG2 := Lib.hid (grownN_trans HG.out hg)
    clear hg
    go_wp2
    go_ret
    exact ⟨ret_s HR.out.symm, HG2.out⟩
  · rw [hc] at hs
    have HS := Lib.hid hs
    have HR : Hid (full W H X = landT W X X.length) := full_yes hc
    obtain ⟨⟨hW1, hW8⟩, hXL, hK⟩ := bounds hc
    have HK := Lib.hid hK
    have hvn : vn ≤ 64 := by rw [← HVN.out]; exact hXL
    have hne : ¬ (W = 0) := by omega
    have hne2 : (W == 0) = false := by simpa using hne
    clear hs hc hK hXL
    go_enter Try.func7, Try.ntmps7
    go_wp2_with fail
    generalize w.alloc (.cells #[.int .i64 W, .int .i64 H, .slice va vn vc] 27 (0, 0)) = W1 at *
    refine HS.out.mono ?_
    rintro e w2 ⟨rfl, hg⟩
    have HG2 := Lib.hid (grownN_trans HG.out hg)
    have HV2 := Lib.hid (HV.out.grown hg)
    have hgb := World.grownBy_alloc w2 (.cells #[.pointer none, .slice none 0 0] 37 (0, 0)) none
    have HB2 := Lib.hid (HB.out.grown hg)
    have HBB := Lib.hid ((HB.out.grown hg).grown hgb)
    have HBD := Lib.hid (Bd.new w2)
    have HGB := Lib.hid hgb
    have HLT2 : Hid (w.heap.size < w2.heap.size) := HB2.out.lt
    clear hg hgb c0 c1 c2
    obtain ⟨c0, c1, c2⟩ := HBB.out.three
    go_wp2
    generalize w2.alloc (.cells #[.pointer none, .slice none 0 0] 37 (0, 0)) = W3 at *
    clear c0 c1 c2
    go_loopw [12] (fun i wr => ∃ j : Nat, j ≤ vn ∧ i = .int .i64 j ∧ Hid (Bd wr w2.heap.size (cod (landT W X j))) ∧ Hid (w2.grownBy wr none)) (fun i _ => vn - (intOf i).toNat)
    case atStart => exact ⟨0, Nat.zero_le _, rfl, HBD, HGB⟩
    case round =>
      rename_i _ wr
      obtain ⟨j, hj, rfl, HBj, HGj⟩ := hrel
      obtain ⟨c0, c1, c2⟩ := (HB2.out.grown HGj.out).three
      by_cases hlt : j < vn
      · have hjl : j < X.length := by rw [HVN.out]; exact hlt
        obtain ⟨b, o, rfl, _⟩ := HV2.out.at_row hjl
        obtain ⟨k, hk⟩ : ∃ k, k = X.getD j 0 := ⟨_, rfl⟩
        have hkb := get_bd HK.out hjl
        have HKD := Lib.hid hk
        have d0 := (HV2.out.grown HGj.out).at' hjl
        rw [← hk] at d0 hkb
        have hz := land_size W X j
        have HZ : Hid ((landT W X j).size ≤ 128) := by show _ ≤ _; omega
        have HLT := Lib.hid hlt
        clear hk hz hjl
        have hkk : k = 0 ∨ k = 1 ∨ k = 2 := by omega
        clear hkb
        rcases Nat.eq_zero_or_pos j with rfl | h0
        · have HN : Hid (landT W X 1 = landT W X 0 ++ kb k) := by show _ = _; rw [land_0, HKD.out]
          rw [Nat.add_zero] at d0
          obtain rfl | rfl | rfl := hkk
          · go_wp2_with fail
            refine (writeB_any _ w2.heap.size _ 46 46 (by decide) HBj.out (by have := HZ.out; omega)).mono ?_
            rintro e w6 ⟨rfl, h5, h6⟩
            have HG6 := Lib.hid (below_grown ((grown_below HGj.out _ (Nat.le_refl _)).trans h6))
            have HB6 : Hid (Bd w6 w2.heap.size (cod (landT W X 1))) := by show Bd _ _ _; rw [HN.out]; exact h5
            clear h5 h6
            go_wp2
            go_roundw
            case rel => exact ⟨1, by omega, by go_num, HB6, HG6⟩
            case measure => simp [intOf]; omega
          · go_wp2_with fail
            refine (writeB_any _ w2.heap.size _ 105 105 (by decide) HBj.out (by have := HZ.out; omega)).mono ?_
            rintro e w6 ⟨rfl, h5, h6⟩
            have HG6 := Lib.hid (below_grown ((grown_below HGj.out _ (Nat.le_refl _)).trans h6))
            have HB6 : Hid (Bd w6 w2.heap.size (cod (landT W X 1))) := by show Bd _ _ _; rw [HN.out]; exact h5
            clear h5 h6
            go_wp2
            go_roundw
            case rel => exact ⟨1, by omega, by go_num, HB6, HG6⟩
            case measure => simp [intOf]; omega
          · go_wp2_with fail
            refine (writeB_any _ w2.heap.size _ 35 35 (by decide) HBj.out (by have := HZ.out; omega)).mono ?_
            rintro e w6 ⟨rfl, h5, h6⟩
            have HG6 := Lib.hid (below_grown ((grown_below HGj.out _ (Nat.le_refl _)).trans h6))
            have HB6 : Hid (Bd w6 w2.heap.size (cod (landT W X 1))) := by show Bd _ _ _; rw [HN.out]; exact h5
            clear h5 h6
            go_wp2
            go_roundw
            case rel => exact ⟨1, by omega, by go_num, HB6, HG6⟩
            case measure => simp [intOf]; omega
        · have h0I : (0 : Int) < (j : Int) := by omega
          have t1 : (j : Int).tmod W = (j : Int) % W := Int.tmod_eq_emod_of_nonneg (by omega)
          by_cases hm : (j : Int) % W = 0
          · have HN : Hid (landT W X (j + 1) = landT W X j ++ ⟨#[47]⟩ ++ kb k) := by show _ = _; rw [land_yes h0 hm, HKD.out]
            rw [hm] at t1
            obtain rfl | rfl | rfl := hkk
            · go_wp2_with fail
              refine (writeB_any _ w2.heap.size (landT W X j) 47 47 (by decide) HBj.out (by have := HZ.out; omega)).mono ?_
              rintro e w5 ⟨rfl, h5, h6⟩
              have HB5 := Lib.hid h5
              have HG5 := Lib.hid (below_grown ((grown_below HGj.out _ (Nat.le_refl _)).trans h6))
              clear h5 h6
              go_wp2_with fail
              refine (writeB_any _ w2.heap.size _ 46 46 (by decide) HB5.out (by rw [size_app, show (⟨#[47]⟩ : ByteArray).size = 1 from rfl]; have := HZ.out; omega)).mono ?_
              rintro e w6 ⟨rfl, h5, h6⟩
              have HG6 := Lib.hid (below_grown ((grown_below HG5.out _ (Nat.le_refl _)).trans h6))
              have HB6 : Hid (Bd w6 w2.heap.size (cod (landT W X (j + 1)))) := by show Bd _ _ _; rw [HN.out]; exact h5
              clear h5 h6
              go_wp2
              go_roundw
              case rel => exact ⟨j + 1, by omega, by go_num, HB6, HG6⟩
              case measure => simp [intOf]; omega
            · go_wp2_with fail
              refine (writeB_any _ w2.heap.size (landT W X j) 47 47 (by decide) HBj.out (by have := HZ.out; omega)).mono ?_
              rintro e w5 ⟨rfl, h5, h6⟩
              have HB5 := Lib.hid h5
              have HG5 := Lib.hid (below_grown ((grown_below HGj.out _ (Nat.le_refl _)).trans h6))
              clear h5 h6
              go_wp2_with fail
              refine (writeB_any _ w2.heap.size _ 105 105 (by decide) HB5.out (by rw [size_app, show (⟨#[47]⟩ : ByteArray).size = 1 from rfl]; have := HZ.out; omega)).mono ?_
              rintro e w6 ⟨rfl, h5, h6⟩
              have HG6 := Lib.hid (below_grown ((grown_below HG5.out _ (Nat.le_refl _)).trans h6))
              have HB6 : Hid (Bd w6 w2.heap.size (cod (landT W X (j + 1)))) := by show Bd _ _ _; rw [HN.out]; exact h5
              clear h5 h6
              go_wp2
              go_roundw
              case rel => exact ⟨j + 1, by omega, by go_num, HB6, HG6⟩
              case measure => simp [intOf]; omega
            · go_wp2_with fail
              refine (writeB_any _ w2.heap.size (landT W X j) 47 47 (by decide) HBj.out (by have := HZ.out; omega)).mono ?_
              rintro e w5 ⟨rfl, h5, h6⟩
              have HB5 := Lib.hid h5
              have HG5 := Lib.hid (below_grown ((grown_below HGj.out _ (Nat.le_refl _)).trans h6))
              clear h5 h6
              go_wp2_with fail
              refine (writeB_any _ w2.heap.size _ 35 35 (by decide) HB5.out (by rw [size_app, show (⟨#[47]⟩ : ByteArray).size = 1 from rfl]; have := HZ.out; omega)).mono ?_
              rintro e w6 ⟨rfl, h5, h6⟩
              have HG6 := Lib.hid (below_grown ((grown_below HG5.out _ (Nat.le_refl _)).trans h6))
              have HB6 : Hid (Bd w6 w2.heap.size (cod (landT W X (j + 1)))) := by show Bd _ _ _; rw [HN.out]; exact h5
              clear h5 h6
              go_wp2
              go_roundw
              case rel => exact ⟨j + 1, by omega, by go_num, HB6, HG6⟩
              case measure => simp [intOf]; omega
          · have HN : Hid (landT W X (j + 1) = landT W X j ++ kb k) := by show _ = _; rw [land_no hm, HKD.out]
            have hm2 : ((j : Int) % W == 0) = false := by simpa using hm
            obtain ⟨m, hmm⟩ : ∃ m, (j : Int) % W = m := ⟨_, rfl⟩
            rw [hmm] at t1 hm2
            clear hm hmm
            obtain rfl | rfl | rfl := hkk
            · go_wp2_with fail
              refine (writeB_any _ w2.heap.size _ 46 46 (by decide) HBj.out (by have := HZ.out; omega)).mono ?_
              rintro e w6 ⟨rfl, h5, h6⟩
              have HG6 := Lib.hid (below_grown ((grown_below HGj.out _ (Nat.le_refl _)).trans h6))
              have HB6 : Hid (Bd w6 w2.heap.size (cod (landT W X (j + 1)))) := by show Bd _ _ _; rw [HN.out]; exact h5
              clear h5 h6
              go_wp2
              go_roundw
              case rel => exact ⟨j + 1, by omega, by go_num, HB6, HG6⟩
              case measure => simp [intOf]; omega
            · go_wp2_with fail
              refine (writeB_any _ w2.heap.size _ 105 105 (by decide) HBj.out (by have := HZ.out; omega)).mono ?_
              rintro e w6 ⟨rfl, h5, h6⟩
              have HG6 := Lib.hid (below_grown ((grown_below HGj.out _ (Nat.le_refl _)).trans h6))
              have HB6 : Hid (Bd w6 w2.heap.size (cod (landT W X (j + 1)))) := by show Bd _ _ _; rw [HN.out]; exact h5
              clear h5 h6
              go_wp2
              go_roundw
              case rel => exact ⟨j + 1, by omega, by go_num, HB6, HG6⟩
              case measure => simp [intOf]; omega
            · go_wp2_with fail
              refine (writeB_any _ w2.heap.size _ 35 35 (by decide) HBj.out (by have := HZ.out; omega)).mono ?_
              rintro e w6 ⟨rfl, h5, h6⟩
              have HG6 := Lib.hid (below_grown ((grown_below HGj.out _ (Nat.le_refl _)).trans h6))
              have HB6 : Hid (Bd w6 w2.heap.size (cod (landT W X (j + 1)))) := by show Bd _ _ _; rw [HN.out]; exact h5
              clear h5 h6
              go_wp2
              go_roundw
              case rel => exact ⟨j + 1, by omega, by go_num, HB6, HG6⟩
              case measure => simp [intOf]; omega
      · have hju : vn = j := by omega
        subst hju
        have HT : Hid (landT W X vn = full W H X) := by show _ = _; rw [HR.out, HVN.out]
        go_wp2_with fail
        refine (string_any _ w2.heap.size _ HBj.out).mono ?_
        rintro e w5 ⟨rfl, hb⟩
        have HBL := Lib.hid (grownN_trans HG2.out (below_grown ((grown_below HGj.out _ (Nat.le_refl _)).trans hb)))
        clear hb
        go_wp2
        go_ret
        exact ⟨ret_s HT.out, HBL.out⟩

set_option maxRecDepth 20000 in
set_option maxHeartbeats 4000000 in
theorem sLandT_any (w : World) (W H : Int) (v : Value) (X : List Int) (hv : Sees .i64 w v X) :
    Calls Try.prog 5 #[.agg #[.int .i64 W, .int .i64 H, v]] w fun e w' => e = .returned (.string (full W H X)) ∧ w.grownBy w' none := by
  obtain ⟨va, vn, vc, rfl, HVN⟩ := hv.shape
  have hvl := hv.len
  rw [HVN.out] at hvl
  have hgr := World.grownBy_alloc w (.cells #[.int .i64 W, .int .i64 H, .slice va vn vc] 27 (0, 0)) none
  have HG := Lib.hid hgr
  have HV := Lib.hid (hv.grown hgr)
  have HB := Lib.hid (box_new w #[.int .i64 W, .int .i64 H, .slice va vn vc] 27)
  obtain ⟨c0, c1, c2⟩ := HB.out.three
  have hland := fun w' hx => LandS.sIsLand_any w' W H (.slice va vn vc) X hx
  clear hgr hv
  cases hc : isLand W H X
  · rw [hc] at hland
    have HS := Lib.hid hland
    have HR : Hid (full W H X = ⟨#[]⟩) := full_no hc
    clear hland hc
    go_enter Try.func5, Try.ntmps5
    go_wp2
    generalize w.alloc (.cells #[.int .i64 W, .int .i64 H, .slice va vn vc] 27 (0, 0)) = W2 at *
    refine wp_loop_rounds 1 ?_
    rw [rounds_succ]
    by_cases h0 : 0 < vn
    · go_wp2_with fail
      refine (HS.out _ HV.out).mono ?_
      rintro e w3 ⟨rfl, hg⟩
      have HG3 := Lib.hid (grownN_trans HG.out hg)
      clear hg
      go_wp2
      go_ret
      exact ⟨ret_s HR.out.symm, HG3.out⟩
    · have : vn = 0 := by omega
      subst this
      go_wp2
      go_ret
      exact ⟨ret_s HR.out.symm, HG.out⟩
  · rw [hc] at hland
    have HS := Lib.hid hland
    have HR : Hid (full W H X = landT W X X.length) := full_yes hc
    obtain ⟨⟨hW1, hW8⟩, hXL, hK⟩ := bounds hc
    have HK := Lib.hid hK
    have hvn : vn ≤ 64 := by rw [← HVN.out]; exact hXL
    have hne : ¬ (W = 0) := by omega
    have hne2 : (W == 0) = false := by simpa using hne
    clear hland hc hK hXL hvl
    go_enter Try.func5, Try.ntmps5
    go_wp2
    generalize w.alloc (.cells #[.int .i64 W, .int .i64 H, .slice va vn vc] 27 (0, 0)) = W1 at *
    clear c0 c1 c2
    go_loopw [3, 4] (fun s i wr => ∃ j : Nat, ∃ t : ByteArray, j ≤ vn ∧ i = .int .i64 j ∧ s = .string t ∧ Hid (t = landT W X j) ∧ Hid (W1.grownBy wr none)) (fun _ i _ => vn - (intOf i).toNat)
    case atStart => exact ⟨0, ⟨#[]⟩, Nat.zero_le _, rfl, rfl, rfl, World.grownBy.refl _ _⟩
    case round =>
      rename_i _ _ wr
      obtain ⟨j, t, hj, rfl, rfl, HTD, HGj⟩ := hrel
      obtain ⟨c0, c1, c2⟩ := (HB.out.grown HGj.out).three
      by_cases hlt : j < vn
      · have hjl : j < X.length := by rw [HVN.out]; exact hlt
        have hjv : (j : Int) < (vn : Int) := by omega
        have hj0 : (0 : Int) ≤ (j : Int) := by omega
        obtain ⟨b, o, rfl, _⟩ := HV.out.at_row hjl
        obtain ⟨k, hk⟩ : ∃ k, k = X.getD j 0 := ⟨_, rfl⟩
        have hkb := get_bd HK.out hjl
        have HKD := Lib.hid hk
        have HDD : Hid (∀ W', W1.grownBy W' none → W'.cell? ⟨b, o + j, none⟩ = some (.int .i64 k)) := fun W' hg => by
          have d0 := (HV.out.grown hg).at' hjl
          rw [← hk] at d0; exact d0
        rw [← hk] at hkb
        have hsl := slice_kb hkb.1 hkb.2
        have hwk : IntKind.i64.wrap (k + 1) = k + 1 := IntWalk.i64_in _ (by omega)
        have hz : t.size ≤ 128 := by rw [HTD.out]; have := land_size W X j; omega
        have HZ := Lib.hid hz
        obtain ⟨q, hq⟩ : ∃ q, q = kb k := ⟨_, rfl⟩
        rw [← hq] at hsl
        have hqs : q.size = 1 := by rw [hq]; exact kb_size k
        have HQS := Lib.hid hqs
        have HQD := Lib.hid hq
        clear hk hz hjl hkb hq hqs
        go_wp2_with fail
        refine (HS.out _ (HV.out.grown HGj.out)).mono ?_
        rintro e w3 ⟨rfl, hg⟩
        have HG3 := Lib.hid (grownN_trans HGj.out hg)
        clear hg c0 c1 c2
        obtain ⟨c0, c1, c2⟩ := (HB.out.grown HG3.out).three
        have d0 := HDD.out _ HG3.out
        rcases Nat.eq_zero_or_pos j with rfl | h0
        · have HN : Hid (landT W X 1 = t ++ q) := by show _ = _; rw [land_0, HTD.out, HQD.out, HKD.out]
          rw [Nat.add_zero] at d0
          have hs1 : ¬ (9223372036854775807 < t.size + q.size) := by have := HZ.out; have := HQS.out; omega
          go_wp2
          go_quiet (fail)
          go_wp2
          go_roundw
          case rel => exact ⟨1, _, by omega, by go_num, rfl, HN.out.symm, grown_drewN HG3.out _⟩
          case measure => simp [intOf]; omega
        · have h0I : (0 : Int) < (j : Int) := by omega
          have t1 : (j : Int).tmod W = (j : Int) % W := Int.tmod_eq_emod_of_nonneg (by omega)
          by_cases hm : (j : Int) % W = 0
          · have HN : Hid (landT W X (j + 1) = t ++ ⟨#[47]⟩ ++ q) := by show _ = _; rw [land_yes h0 hm, HTD.out, HQD.out, HKD.out]
            rw [hm] at t1
            have hs0 : ¬ (9223372036854775807 < t.size + 1) := by have := HZ.out; omega
            have hs1 : ¬ (9223372036854775807 < (t ++ ⟨#[47]⟩).size + q.size) := by rw [size_app, show (⟨#[47]⟩ : ByteArray).size = 1 from rfl]; have := HZ.out; have := HQS.out; omega
            have hs2 : ¬ (9223372036854775807 < t.size + 1 + q.size) := by have := HZ.out; have := HQS.out; omega
            go_wp2
            go_quiet (fail)
            go_wp2
            go_roundw
            case rel => exact ⟨j + 1, _, by omega, by go_num, rfl, HN.out.symm, grown_drewN HG3.out _⟩
            case measure => simp [intOf]; omega
          · have HN : Hid (landT W X (j + 1) = t ++ q) := by show _ = _; rw [land_no hm, HTD.out, HQD.out, HKD.out]
            have hm2 : ((j : Int) % W == 0) = false := by simpa using hm
            obtain ⟨m, hmm⟩ : ∃ m, (j : Int) % W = m := ⟨_, rfl⟩
            rw [hmm] at t1 hm2
            have hs1 : ¬ (9223372036854775807 < t.size + q.size) := by have := HZ.out; have := HQS.out; omega
            clear hm hmm
            go_wp2
            go_quiet (fail)
            go_wp2
            go_roundw
            case rel => exact ⟨j + 1, _, by omega, by go_num, rfl, HN.out.symm, grown_drewN HG3.out _⟩
            case measure => simp [intOf]; omega
      · have hju : vn = j := by omega
        subst hju
        have HT : Hid (t = full W H X) := by show _ = _; rw [HR.out, HVN.out, HTD.out]
        go_wp2
        go_ret
        exact ⟨ret_s HT.out, grownN_trans HG.out HGj.out⟩
end Go.Proofs.Ytoanhnklemlfmaa.Ltx
