/- Contracts of how a load is shared, and whether it can be carried, of the program and of its model. -/
import Derived.Test.YtochohoihmfanaaCrI
import Derived.Test.YtochohoihmfanaaCrS
import Derived.Test.YtochohoihmfanaaPh
import Derived.Test.YtochohoihmfanaaLandI
import Derived.OwnWalk
import Derived.Deep.RegionHeld3
namespace Go.Proofs.Ytochohoihmfanaa.Shr
open Go.RowKit Kit Rw Rg Crw Mn

theorem info_int : (Try.prog.info? 3).map (fun i => (i.zero, i.size, i.bytes)) = some (some (.int .i64 0), 1, 8) := by kernel_rfl
def leftT (L : List Mem) (n : Int) : Nat → Int
  | 0 => n
  | j + 1 => leftT L n j - least (carries (L.getD j dM)) (leftT L n j)
def loadJ (L : List Mem) (n : Int) (j : Nat) : Int := least (carries (L.getD j dM)) (leftT L n j)
theorem leftT_next (L : List Mem) (n : Int) (j : Nat) : leftT L n (j + 1) = leftT L n j - loadJ L n j := rfl
def loads (L : List Mem) (n : Int) : Nat → List Int
  | 0 => []
  | j + 1 => loads L n j ++ [loadJ L n j]
theorem loads_len (L : List Mem) (n : Int) : ∀ j, (loads L n j).length = j
  | 0 => rfl
  | j + 1 => by simp [loads, loads_len L n j]
theorem left_bd {L : List Mem} {n : Int} (hc : areCrew L = true) (hn : 0 ≤ n) : ∀ j, j ≤ L.length → 0 ≤ leftT L n j ∧ leftT L n j ≤ n
  | 0, _ => ⟨hn, Int.le_refl _⟩
  | j + 1, hj => by
    have h1 := left_bd hc hn j (by omega)
    have h2 := carries_at hc (show j < L.length by omega)
    rw [leftT_next]; unfold loadJ least; split <;> omega
theorem load_bd {L : List Mem} {n : Int} (hc : areCrew L = true) (hn : 0 ≤ n) {j : Nat} (hj : j < L.length) : 0 ≤ loadJ L n j ∧ loadJ L n j ≤ 100 := by
  have h1 := left_bd hc hn j (by omega)
  have h2 := carries_at hc hj
  unfold loadJ least; split <;> omega
theorem load_ill {L : List Mem} {n : Int} (hc : areCrew L = true) (hn : 0 ≤ n) {j : Nat} (hj : j ≤ L.length) (h : (L.getD j dM).ill = true) : loadJ L n j = 0 := by
  have h1 := left_bd hc hn j hj
  unfold loadJ carries least; rw [if_pos h]; split <;> omega
theorem load_well {L : List Mem} {n : Int} {j : Nat} (h : (L.getD j dM).ill = false) : loadJ L n j = least (L.getD j dM).str (leftT L n j) := by
  unfold loadJ carries; rw [if_neg (by rw [h]; simp)]
def can (L : List Mem) (n : Int) : Prop := areCrew L = true ∧ 0 ≤ n ∧ n ≤ capOf L
instance (L : List Mem) (n : Int) : Decidable (can L n) := by unfold can; infer_instance
def share (L : List Mem) (n : Int) : List Int := if can L n then loads L n L.length else []
theorem share_len (L : List Mem) (n : Int) : (share L n).length ≤ L.length := by
  unfold share; split
  · rw [loads_len]; exact Nat.le_refl _
  · simp
theorem share_yes {L : List Mem} {n : Int} (h : can L n) : share L n = loads L n L.length := if_pos h
theorem share_no {L : List Mem} {n : Int} (h : ¬ can L n) : share L n = [] := if_neg h
theorem cap_bd (L : List Mem) : 0 ≤ capOf L ∧ capOf L ≤ 800 := by
  unfold capOf; split
  · next h => exact sum_small h (fun j hj => carries_at h hj) (Nat.le_refl _)
  · omega

set_option maxRecDepth 20000 in
set_option maxHeartbeats 2000000 in
theorem sShare_any (w : World) (v : Value) (L : List Mem) (n : Int) (hv : SeesG encM w v L) :
    Calls Try.prog 23 #[v, .int .i64 n] w fun e w' => ∃ u, e = .returned u ∧ Rw.Own .i64 3 w' w.heap.size u (share L n) ∧ w.grownBy w' none := by
  obtain ⟨va, vn, vc, rfl, HVN⟩ := hv.shape
  have HV := Lib.hid hv
  have hO0 : Rw.Own .i64 3 (w.alloc (.cells #[] 3 (0, 0))) w.heap.size (.slice (some ⟨w.heap.size, 0, none⟩) 0 0) [] := own_empty w
  have HO0 := Lib.hid hO0
  have HG0 := Lib.hid (World.grownBy_alloc w (.cells #[] 3 (0, 0)) none)
  obtain ⟨i0, hi, hz0, hz1, hz2⟩ := info_parts info_int
  clear hv hO0
  cases hc : areCrew L
  · have HR : Hid (share L n = []) := share_no (fun h => by rw [h.1] at hc; cases hc)
    have HCR := Lib.hid (show ∀ w' hv, _ from fun w' hv => CrS.sAreCrew_any w' (.slice va vn vc) L hv)
    rw [hc] at HCR
    clear hc
    go_enter Try.func23, Try.ntmps23
    go_wp2_with fail
    generalize w.alloc (.cells #[] 3 (0, 0)) = W0 at *
    refine (HCR.out _ (HV.out.grown HG0.out)).mono ?_
    rintro e w2 ⟨rfl, hg⟩
    have HG2 := Lib.hid (grownN_trans HG0.out hg)
    have HO2 := Lib.hid (HO0.out.grown hg)
    clear hg
    go_wp2
    go_ret
    exact ⟨_, rfl, by rw [HR.out]; exact HO2.out, HG2.out⟩
  · have HC := Lib.hid hc
    have HCR := Lib.hid (show ∀ w' hv, _ from fun w' hv => CrS.sAreCrew_any w' (.slice va vn vc) L hv)
    rw [hc] at HCR
    clear hc
    by_cases hn : 0 ≤ n ∧ n ≤ capOf L
    · have HR : Hid (share L n = loads L n L.length) := share_yes ⟨HC.out, hn⟩
      have hcb := cap_bd L
      have hn0 : 0 ≤ n ∧ n ≤ 800 := by omega
      have HN0 := Lib.hid hn0
      have HN := Lib.hid hn
      have hl8 := crew_len HC.out
      have hvn : vn ≤ 8 := by rw [← HVN.out]; exact hl8.2
      have HVL := Lib.hid hl8
      clear hcb hn hl8
      go_enter Try.func23, Try.ntmps23
      go_wp2_with fail
      generalize w.alloc (.cells #[] 3 (0, 0)) = W0 at *
      refine (HCR.out _ (HV.out.grown HG0.out)).mono ?_
      rintro e w2 ⟨rfl, hg⟩
      have HG2 := Lib.hid (grownN_trans HG0.out hg)
      have HO2 := Lib.hid (HO0.out.grown hg)
      clear hg
      go_wp2_with fail
      refine (CrS.sCapOf_any _ _ L (HV.out.grown HG2.out)).mono ?_
      rintro e w3 ⟨rfl, hg⟩
      have HG3 := Lib.hid (grownN_trans HG2.out hg)
      have HO3 := Lib.hid (HO2.out.grown hg)
      clear hg
      go_wp2_with fail
      refine (Md.l1In_yes _ HN.out).mono ?_
      rintro e w4 ⟨rfl, rfl⟩
      go_wp2
      go_loopw [1, 5, 6] (fun q u i wr => ∃ j : Nat, j ≤ vn ∧ i = .int .i64 j ∧ q = .int .i64 (leftT L n j) ∧ Hid (Rw.Own .i64 3 wr w.heap.size u (loads L n j)) ∧ Hid (w.grownBy wr none)) (fun _ _ i _ => vn - (intOf i).toNat)
      case atStart => exact ⟨0, Nat.zero_le _, rfl, rfl, HO3, HG3⟩
      case round =>
        obtain ⟨j, hj, rfl, rfl, HO, HG⟩ := hrel
        have hjL : j ≤ L.length := by rw [HVN.out]; exact hj
        have hlb := left_bd HC.out HN0.out.1 j hjL
        by_cases hlt : j < vn
        · have hjl : j < L.length := by rw [HVN.out]; exact hlt
          have hld := load_bd HC.out HN0.out.1 hjl
          have hill := fun h => load_ill (n := n) HC.out HN0.out.1 hjL h
          have hwel := fun h => load_well (L := L) (n := n) (j := j) h
          obtain ⟨b, o, rfl, _, _⟩ := HV.out.at_row hjl
          obtain ⟨x, hx⟩ : ∃ x, L.getD j zM = x := ⟨_, rfl⟩
          obtain ⟨d0, d1, d2, d3⟩ := atM_in HV.out HG.out hjl hx
          rw [show L.getD j dM = x from hx] at hill hwel
          obtain ⟨q, hq⟩ : ∃ q, q = leftT L n j := ⟨_, rfl⟩
          obtain ⟨z, hz⟩ : ∃ z, z = loadJ L n j := ⟨_, rfl⟩
          have HNL : Hid (leftT L n (j + 1) = q - z) := by show _ = _; rw [leftT_next, ← hq, ← hz]
          have HNZ : Hid (loads L n (j + 1) = loads L n j ++ [z]) := by show _ = _; rw [hz]; rfl
          rw [← hz] at hill hld
          rw [← hz, ← hq] at hwel
          rw [← hq] at hlb ⊢
          have HLB := Lib.hid (And.intro hlb hld)
          have hll := loads_len L n j
          have HLL := Lib.hid hll
          clear hx hq hz hll hjl
          obtain ⟨xi, xs, xn, xb⟩ := x
          dsimp only at d0 d1 d2 d3 hill hwel
          cases xb
          · have HW := Lib.hid (hwel rfl)
            clear hill hwel
            go_wp2_with fail
            refine (Ph.sMin2 xs q _).mono ?_
            rintro e w5 ⟨rfl, hg⟩
            rw [← HW.out]
            have HO5 := Lib.hid (HO.out.grown hg)
            have HG5 := Lib.hid (grownN_trans HG.out hg)
            clear hg d0 d1 d2 d3
            have hqz : IntKind.i64.wrap (q - z) = q - z := IntWalk.i64_in _ (by omega)
            go_wp2_with (at_builtin; go_loud (refine wpList_append_one _ rfl _ _ 24 rfl w.heap.size 3 i0 (.int .i64 0) 8 Try.underlying24 hi hz0 hz1 hz2 rfl .i64 _ (loads L n j) rfl HO5.out z rfl (i64_mk (by omega)) (by have := HLL.out; omega) (by decide) HG5.out.size ?_); intro v4 w4 hown4 hgrow4; have HO6 := Lib.hid hown4; have HG6 := Lib.hid (grown_new HG5.out hgrow4 (fun c hc => (HO5.out.lt c hc).1)); clear hown4 hgrow4)
            go_roundw
            case rel => exact ⟨j + 1, by omega, by go_num, by rw [HNL.out], by rw [HNZ.out]; exact HO6, HG6⟩
            case measure => simp [intOf]; omega
          · have HW := Lib.hid (hill rfl)
            clear hill hwel
            have hqz : IntKind.i64.wrap q = q := IntWalk.i64_in _ (by omega)
            go_wp2_with (at_builtin; go_loud (refine wpList_append_one _ rfl _ _ 24 rfl w.heap.size 3 i0 (.int .i64 0) 8 Try.underlying24 hi hz0 hz1 hz2 rfl .i64 _ (loads L n j) rfl HO.out 0 rfl (i64_mk (by omega)) (by have := HLL.out; omega) (by decide) HG.out.size ?_); intro v4 w4 hown4 hgrow4; have HO6 := Lib.hid hown4; have HG6 := Lib.hid (grown_new HG.out hgrow4 (fun c hc => (HO.out.lt c hc).1)); clear hown4 hgrow4)
            go_roundw
            case rel => exact ⟨j + 1, by omega, by go_num, by rw [HNL.out, HW.out, Int.sub_zero], by rw [HNZ.out, HW.out]; exact HO6, HG6⟩
            case measure => simp [intOf]; omega
        · have hju : vn = j := by omega
          subst hju
          go_wp2
          go_ret
          exact ⟨_, rfl, by rw [HR.out, HVN.out]; exact HO.out, HG.out⟩
    · have HR : Hid (share L n = []) := share_no (fun h => hn h.2)
      have HN := Lib.hid hn
      clear hn
      go_enter Try.func23, Try.ntmps23
      go_wp2_with fail
      generalize w.alloc (.cells #[] 3 (0, 0)) = W0 at *
      refine (HCR.out _ (HV.out.grown HG0.out)).mono ?_
      rintro e w2 ⟨rfl, hg⟩
      have HG2 := Lib.hid (grownN_trans HG0.out hg)
      have HO2 := Lib.hid (HO0.out.grown hg)
      clear hg
      go_wp2_with fail
      refine (CrS.sCapOf_any _ _ L (HV.out.grown HG2.out)).mono ?_
      rintro e w3 ⟨rfl, hg⟩
      have HG3 := Lib.hid (grownN_trans HG2.out hg)
      have HO3 := Lib.hid (HO2.out.grown hg)
      clear hg
      go_wp2_with fail
      refine (Md.l1In_no _ HN.out).mono ?_
      rintro e w4 ⟨rfl, rfl⟩
      go_wp2
      go_ret
      exact ⟨_, rfl, by rw [HR.out]; exact HO3.out, HG3.out⟩
end Go.Proofs.Ytochohoihmfanaa.Shr
