/- How food is shared: the model's contract. -/
import Derived.Test.YtochohoihmfanaaShf
import Derived.Test.YtochohoihmfanaaApp
namespace Go.Proofs.Ytochohoihmfanaa.Shf
open Go.RowKit Kit Rw Rg Crw App

set_option maxRecDepth 20000 in
set_option maxHeartbeats 4000000 in
theorem sFood_any (w : World) (v : Value) (L : List Mem) (n : Int) (hv : SeesG encM w v L) :
    Calls Try.prog 15 #[v, .int .i64 n] w fun e w' => ∃ u, e = .returned u ∧ Rw.Own .i64 3 w' w.heap.size u (food L n) ∧ w.grownBy w' none := by
  obtain ⟨va, vn, vc, rfl, HVN⟩ := hv.shape
  have HV := Lib.hid hv
  have HO0 : Hid (OwnG encI 3 (w.alloc (.cells #[] 3 (0, 0))) w.heap.size (.slice (some ⟨w.heap.size, 0, none⟩) 0 0) []) := ownG_empty w
  have HG0 := Lib.hid (World.grownBy_alloc w (.cells #[] 3 (0, 0)) none)
  obtain ⟨i0, hi, hz0, hz1, hz2⟩ := info_parts info_int
  clear hv
  cases hc : areCrew L
  · have HR : Hid (food L n = []) := food_no (fun h => by rw [h.1] at hc; cases hc)
    have HCR := Lib.hid (show ∀ w' hv, _ from fun w' hv => CrS.sAreCrew_any w' (.slice va vn vc) L hv)
    rw [hc] at HCR
    clear hc
    go_enter Try.func15, Try.ntmps15
    go_wp2_with fail
    generalize w.alloc (.cells #[] 3 (0, 0)) = W0 at *
    refine (HCR.out _ (HV.out.grown HG0.out)).mono ?_
    rintro e w2 ⟨rfl, hg⟩
    have HG2 := Lib.hid (grownN_trans HG0.out hg)
    have HO2 := Lib.hid (HO0.out.grown hg)
    clear hg
    go_wp2
    go_ret
    exact ⟨_, rfl, by rw [HR.out]; exact ownI HO2.out, HG2.out⟩
  · have HC := Lib.hid hc
    have HCR := Lib.hid (show ∀ w' hv, _ from fun w' hv => CrS.sAreCrew_any w' (.slice va vn vc) L hv)
    rw [hc] at HCR
    clear hc
    by_cases hn : 0 ≤ n ∧ n ≤ 10000
    · have HR : Hid (food L n = lst L n (lefT L n L.length).toNat L.length) := food_yes ⟨HC.out, hn⟩
      have HN := Lib.hid hn
      have hl8 := crew_len HC.out
      have hvn : vn ≤ 8 := by rw [← HVN.out]; exact hl8.2
      have HND := Lib.hid (show ∀ w' hv, _ from fun w' hv => CrS.sNeedOf_any w' (.slice va vn vc) L hv)
      clear hl8
      go_enter Try.func15, Try.ntmps15
      go_wp2_with fail
      generalize w.alloc (.cells #[] 3 (0, 0)) = W0 at *
      refine (HCR.out _ (HV.out.grown HG0.out)).mono ?_
      rintro e w2 ⟨rfl, hg⟩
      have HG2 := Lib.hid (grownN_trans HG0.out hg)
      have HO2 := Lib.hid (HO0.out.grown hg)
      clear hg
      go_wp2_with fail
      refine (Md.l1In_yes _ HN.out).mono ?_
      rintro e w4 ⟨rfl, rfl⟩
      go_wp2
      go_loopw [5, 6, 7] (fun u q i wr => ∃ j : Nat, j ≤ vn ∧ i = .int .i64 j ∧ q = .int .i64 (lefT L n j) ∧ Hid (OwnG encI 3 wr w.heap.size u (lst L n 0 j)) ∧ Hid (w.grownBy wr none)) (fun _ _ i _ => vn - (intOf i).toNat)
      case atStart => exact ⟨0, Nat.zero_le _, rfl, rfl, HO2, HG2⟩
      case round =>
        rename_i wr
        obtain ⟨j, hj, rfl, rfl, HO, HG⟩ := hrel
        have hjL : j ≤ L.length := by rw [HVN.out]; exact hj
        by_cases hlt : j < vn
        · have hjl : j < L.length := by rw [HVN.out]; exact hlt
          have hsb := sh_bd HC.out HN.out hjl
          have hls := lef_small HC.out HN.out j hjL
          have hnp := needOf_pos HC.out
          obtain ⟨b, o, rfl, _, _⟩ := HV.out.at_row hjl
          obtain ⟨x, hx⟩ : ∃ x, L.getD j zM = x := ⟨_, rfl⟩
          have hd2 := fun W hg => (atM_in (wr := W) HV.out hg hjl hx).2.2.1
          have hpe : shJ L n j = n * x.need / needOf L := by rw [← hx]; rfl
          have hpp : n * (L.getD j dM).need = n * x.need := by rw [← hx]; rfl
          rw [hpp] at hsb
          obtain ⟨N, hN⟩ : ∃ N, N = needOf L := ⟨_, rfl⟩
          rw [← hN] at HND hnp hpe hsb
          obtain ⟨z, hz⟩ : ∃ z, z = shJ L n j := ⟨_, rfl⟩
          obtain ⟨q, hq⟩ : ∃ q, q = lefT L n j := ⟨_, rfl⟩
          have HNL : Hid (lefT L n (j + 1) = q - z) := by show _ = _; rw [lefT_next, ← hq, ← hz]
          have HNZ : Hid (lst L n 0 (j + 1) = lst L n 0 j ++ [z]) := by show _ = _; rw [lst_next, if_neg (by omega), hz]
          rw [← hz] at hpe hsb
          rw [← hq] at hls ⊢
          obtain ⟨xi, xs, xn, xb⟩ := x
          dsimp only at hd2 hpe hsb
          obtain ⟨p, hp⟩ : ∃ p, p = n * xn := ⟨_, rfl⟩
          rw [← hp] at hpe hsb
          have hmul : IntKind.i64.wrap (n * xn) = p := by rw [← hp]; exact IntWalk.i64_in _ (by omega)
          have hdiv : p.tdiv N = z := by rw [hpe]; exact Int.tdiv_eq_ediv_of_nonneg (by omega)
          have hzw : IntKind.i64.wrap z = z := IntWalk.i64_in _ (by omega)
          have hqz : IntKind.i64.wrap (q - z) = q - z := IntWalk.i64_in _ (by omega)
          have hN0 : (N == 0) = false := by simp; omega
          have hN1 : ¬ N = 0 := by omega
          have hNm : (N == -1) = false := by simp; omega
          have hjI0 : (0 : Int) ≤ (j : Int) := by omega
          have hjI1 : (j : Int) < (vn : Int) := by omega
          have HD := Lib.hid (fun W (hg : wr.grownBy W none) => hd2 W (grownN_trans HG.out hg))
          have HD0 := Lib.hid hd2
          have HGD := Lib.hid (grown_drew (World.grownBy.refl wr none))
          have HVW := Lib.hid (fun W (hg : wr.grownBy W none) => HV.out.grown (grownN_trans HG.out hg))
          have HZ := Lib.hid (i64_mk (n := z) (by omega))
          have HLL := Lib.hid (lst_len L n 0 j)
          have HS := Lib.hid HG.out.size
          have HBJ : Hid (j ≤ 8) := by show j ≤ 8; omega
          clear hx hd2 hpe hpp hp hz hq hN hsb hls hnp hjl hjL
          go_wp2_with fail
          go_region_held_law (fun w' => w'.cell? ⟨b, o + j * 4 + 2, none⟩ = some (.int .i64 xn)) (first | exact HD.out _ HGD.out | exact HD.out _ HG5.out | exact HD.out _ (grownN_trans HG5.out (World.grownBy_alloc _ _ _)) | exact HD0.out _ HW6.out) (first | (go_at_call 55; refine (HND.out _ (HVW.out _ HGD.out)).mono ?_; rintro e w5 ⟨rfl, hg5⟩; have HG5 := Lib.hid (grownN_trans HGD.out hg5); clear hg5) | (refine stepG_append (e := encI) _ (by rfl) _ _ _ (by rfl) w.heap.size 3 i0 (.int .i64 0) 8 Try.underlying24 hi hz0 hz1 hz2 (by rfl) _ (lst L n 0 j) (by rfl) ((HO.out.grown HG5.out).grown (World.grownBy_alloc _ _ _)) _ [z] (by rfl) (seesG_one _ z #[.int .i64 z] rfl HZ.out) (by rw [HLL.out]; have := HBJ.out; unfold maxLen; simp; omega) (by rw [HLL.out]; have := HBJ.out; simp; omega) w (grownN_trans HG.out (grownN_trans HG5.out (World.grownBy_alloc _ _ _))) rfl ?_; intro v6 w6 ho6 hg6 hw6; have HO6 := Lib.hid ho6; have HW6 : Hid (w.grownBy w6 none) := hw6; clear ho6 hg6 hw6))
          rw [← HNZ.out] at HO6
          obtain ⟨g, cap, rfl⟩ := own_at HO6.out (by rw [lst_len]; omega)
          have hcz : w6.cell? ⟨g, j, none⟩ = some (.int .i64 z) := by
            have := HO6.out.cellAt (j := j) (by rw [lst_len]; omega) (i := 0) (by decide)
            have h0 : (lst L n 0 (j + 1)).getD j encI.dflt = z := by rw [HNZ.out]; simp [HLL.out]
            rw [h0] at this
            simpa [encI] using this
          have HLE : Hid ((lst L n 0 (j + 1)).length = j + 1) := lst_len L n 0 (j + 1)
          have hjI2 : (j : Int) < ((j + 1 : Nat) : Int) := by omega
          rw [HLE.out]
          rw [HLE.out] at HO6
          go_wp2
          go_roundw
          case rel => exact ⟨j + 1, by omega, by go_num, by rw [HNL.out], HO6, HW6⟩
          case measure => simp [intOf]; omega
        · have hju : vn = j := by omega
          subst hju
          have hlb := left_bd HC.out HN.out
          have hl1 := (crew_len HC.out).1
          rw [HVN.out] at hlb hl1
          obtain ⟨m, hm⟩ : ∃ m : Nat, lefT L n vn = m := ⟨(lefT L n vn).toNat, by omega⟩
          rw [hm]
          rw [hm] at hlb
          have HRR : Hid (food L n = lst L n m vn) := by show _ = _; rw [HR.out, HVN.out, hm, Int.toNat_natCast]
          obtain ⟨g, cap, rfl⟩ := own_at HO.out (by rw [lst_len]; omega)
          have HLE : Hid ((lst L n 0 vn).length = vn) := lst_len L n 0 vn
          rw [HLE.out]
          rw [HLE.out] at HO
          have hmv : m < vn := by omega
          clear hm hlb hl1
          go_wp2
          go_loopw [8] (fun i wz => ∃ k : Nat, k ≤ m ∧ i = .int .i64 k ∧ Hid (OwnG encI 3 wz w.heap.size (.slice (some ⟨g, 0, none⟩) vn cap) (lst L n k vn)) ∧ Hid (w.grownBy wz none)) (fun i _ => m - (intOf i).toNat)
          case atStart => exact ⟨0, Nat.zero_le _, rfl, HO, HG⟩
          case round =>
            obtain ⟨k, hk, rfl, HOk, HGk⟩ := hrel
            by_cases hlk : k < m
            · have hkv : k < vn := by omega
              have hsb := sh_bd HC.out HN.out (j := k) (by rw [HVN.out]; exact hkv)
              have hcz := HOk.out.cellAt (j := k) (by rw [lst_len]; exact hkv) (i := 0) (by decide)
              rw [show (lst L n k vn).getD k encI.dflt = shJ L n k by have := lst_at L n (k := k) (m := vn) hkv; rw [if_neg (by omega)] at this; exact this] at hcz
              simp [encI] at hcz
              have hfr := HOk.out.free k
              have hST := flip_set HOk.out (lst_len L n k vn) (j := k) (by rw [lst_len]; exact hkv) (x := shJ L n k + 1) (i64_mk (by omega))
              rw [lst_put L n hkv] at hST
              obtain ⟨z, hz⟩ : ∃ z, z = shJ L n k := ⟨_, rfl⟩
              rw [← hz] at hcz hST hsb
              have hzw : IntKind.i64.wrap (z + 1) = z + 1 := IntWalk.i64_in _ (by omega)
              have hkI0 : (0 : Int) ≤ (k : Int) := by omega
              have hkI1 : (k : Int) < (vn : Int) := by omega
              have hkI2 : (k : Int) < (m : Int) := by omega
              have HST := Lib.hid hST
              clear hz hST hsb
              go_wp2
              go_roundw
              case rel => exact ⟨k + 1, by omega, by go_num, HST.out.1, grown_new HGk.out HST.out.2 (fun c e => by injection e with e; exact e ▸ (HOk.out.lt g rfl).1)⟩
              case measure => simp [intOf]; omega
            · have hkm : m = k := by omega
              subst hkm
              go_wp2
              go_ret
              exact ⟨_, rfl, by rw [HRR.out]; exact ownI HOk.out, HGk.out⟩
    · have HR : Hid (food L n = []) := food_no (fun h => hn h.2)
      have HN := Lib.hid hn
      clear hn
      go_enter Try.func15, Try.ntmps15
      go_wp2_with fail
      generalize w.alloc (.cells #[] 3 (0, 0)) = W0 at *
      refine (HCR.out _ (HV.out.grown HG0.out)).mono ?_
      rintro e w2 ⟨rfl, hg⟩
      have HG2 := Lib.hid (grownN_trans HG0.out hg)
      have HO2 := Lib.hid (HO0.out.grown hg)
      clear hg
      go_wp2_with fail
      refine (Md.l1In_no _ HN.out).mono ?_
      rintro e w4 ⟨rfl, rfl⟩
      go_wp2
      go_ret
      exact ⟨_, rfl, by rw [HR.out]; exact ownI HO2.out, HG2.out⟩
end Go.Proofs.Ytochohoihmfanaa.Shf
