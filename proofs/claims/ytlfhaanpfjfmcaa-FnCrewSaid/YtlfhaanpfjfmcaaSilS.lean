/- Contracts of SetIll of the program and of its model. -/
import Derived.Test.YtlfhaanpfjfmcaaSilF
import Derived.Test.YtlfhaanpfjfmcaaCrS
import Derived.Test.YtlfhaanpfjfmcaaCrI
import Derived.Test.YtlfhaanpfjfmcaaClone
namespace Go.Proofs.Ytlfhaanpfjfmcaa.Sil
open Go.RowKit Kit Rw Rg Crw Mp CrS CrI Cln Go.Maps

theorem ret_t {u : Value} {a b : Bool} (h : a = b) : Ending.returned (.tuple #[u, .bool a]) = .returned (.tuple #[u, .bool b]) := by rw [h]

set_option maxRecDepth 20000 in
set_option maxHeartbeats 2000000 in
theorem places_any (w : World) (v : Value) (L : List Mem) (hv : SeesG encM w v L) (hn : L.length ≤ 1000) :
    Calls Try.prog 40 #[v] w fun e w' => ∃ B, e = .returned (.map (some B)) ∧ IsM w' B L.length (placeTo L L.length) ∧ w.heap.size ≤ B ∧ w.grownBy w' none := by
  have hl := hv.len
  have HOK := Lib.hid hv.ok
  have HV := Lib.hid hv
  obtain ⟨a, cap, rfl, _⟩ := hv
  have hmm := fun (w : World) (k : IntKind) (n : Int) => run_make_hint Try.underlying53 w k n
  have HM := Lib.hid (isM_made w)
  have HG0 := Lib.hid (World.grownBy_alloc w (.map #[] 0) (none : Option Nat))
  go_enter Try.func40, Try.ntmps40
  go_wp2
  go_loopw [11] (fun i wr => ∃ j : Nat, j ≤ L.length ∧ i = .int .i64 j ∧ Hid (IsM wr w.heap.size j (placeTo L j)) ∧ Hid (w.grownBy wr none)) (fun i _ => L.length - (intOf i).toNat)
  case atStart => exact ⟨0, Nat.zero_le _, rfl, HM, HG0⟩
  case round =>
    rename_i wr
    obtain ⟨j, hj, rfl, HM1, HG⟩ := hrel
    clear HM HG0
    by_cases hlt : j < L.length
    · obtain ⟨b, o, rfl, _, _⟩ := HV.out.at_row hlt
      obtain ⟨x, hx⟩ : ∃ x, L.getD j zM = x := ⟨_, rfl⟩
      obtain ⟨d0, d1, d2, d3⟩ := atM_in HV.out HG.out hlt hx
      have hok : (Lit.int .i64 x.id).wf = true := by rw [← hx]; exact (HOK.out _ (memG hlt)).1
      have HX := Lib.hid hx
      have HOX := Lib.hid hok
      clear hx hok
      obtain ⟨xi, xs, xn, xb⟩ := x
      dsimp only at d0 d1 d2 d3
      have hA := World.grownBy_alloc wr (.cells #[.int .i64 xi, .int .i64 xs, .int .i64 xn, .bool xb] 51 (0, 0)) (none : Option Nat)
      have HG1 := Lib.hid (grownN_trans HG.out hA)
      have HM2 := Lib.hid (HM1.out.grown hA)
      have HLT := Lib.hid HM1.out.lt
      clear hA HM1
      go_wp2_with (at_mapUpdate; go_loud (refine wpM_store _ rfl _ _ _ 53 rfl Try.underlying53 w.heap.size j _ rfl HM2.out (by omega) xi HOX.out rfl (j : Int) (i64_mk (by omega)) rfl ?_); intro w3 hm3 hg3; have HM3 := Lib.hid hm3; have HG3 := Lib.hid (grown_new HG1.out hg3 (fun c hc => by injection hc with hc; omega)); clear hm3 hg3)
      go_roundw
      case rel =>
        have hm := HM3.out
        have e : upd (placeTo L j) xi j = placeTo L (j + 1) := by
          show _ = upd (placeTo L j) (L.getD j dM).id j
          rw [show dM = zM from rfl, HX.out]
        rw [e] at hm
        exact ⟨j + 1, by omega, by go_num, hm, HG3⟩
      case measure => simp [intOf]; omega
    · have : j = L.length := by omega
      subst this
      go_wp2
      go_ret
      exact ⟨_, rfl, HM1.out, Nat.le_refl _, HG.out⟩

set_option maxRecDepth 20000 in
set_option maxHeartbeats 2000000 in
theorem iSetIll_any (w : World) (v : Value) (L : List Mem) (id : Int) (ill : Bool) (hid : (Lit.int .i64 id).wf = true) (hv : SeesG encM w v L) (hn : L.length ≤ 1000000000) :
    Calls Try.prog 12 #[v, .int .i64 id, .bool ill] w fun e w' => ∃ u, e = .returned (.tuple #[u, .bool (setOk L id)]) ∧ OwnG encM 51 w' w.heap.size u (setIll L id ill) ∧ w.grownBy w' none := by
  have HI := Lib.hid hid
  have HC := Lib.hid (cloneM_any w v L hv hn)
  clear hid hv
  go_enter Try.func12, Try.ntmps12
  go_wp2_with fail
  refine HC.out.mono ?_
  rintro e w1 ⟨u, rfl, ho, hg⟩
  have HO := Lib.hid ho
  have HG := Lib.hid hg
  clear ho hg HC
  have hA := fun w hv => iAreCrew_any w u L hv
  cases hc : areCrew L
  · simp only [hc] at hA
    have HA := Lib.hid hA
    have HS : Hid (setIll L id ill = L) := by show _ = _; unfold setIll; rw [hc]; rfl
    have HK : Hid (setOk L id = false) := by show _ = _; unfold setOk; rw [hc]; rfl
    clear hA hc
    go_wp2_with fail
    refine (HA.out _ HO.out.sees).mono ?_
    rintro e w2 ⟨rfl, hg⟩
    have HO2 := Lib.hid (HO.out.grown hg)
    have HG2 := Lib.hid (grownN_trans HG.out hg)
    clear hg
    go_wp2
    go_ret2
    exact ⟨_, ret_t HK.out.symm, by rw [HS.out]; exact HO2.out, HG2.out⟩
  · have hlen := crew_len hc
    have HCR := Lib.hid hc
    simp only [hc] at hA
    have HA := Lib.hid hA
    have HSE : Hid (setIll L id ill = L.map (setOne id ill)) := by show _ = _; unfold setIll; rw [if_pos hc]
    have HKE : Hid (setOk L id = hasId L id) := by show _ = _; unfold setOk; rw [hc]; rfl
    clear hA hc
    go_wp2_with fail
    refine (HA.out _ HO.out.sees).mono ?_
    rintro e w2 ⟨rfl, hg⟩
    have HO2 := Lib.hid (HO.out.grown hg)
    have HG2 := Lib.hid (grownN_trans HG.out hg)
    clear hg HO HG HA
    go_wp2_with fail
    refine (places_any _ u L HO2.out.sees (by omega)).mono ?_
    rintro e w3 ⟨B, rfl, hm, hB, hg⟩
    have HO3 := Lib.hid (HO2.out.grown hg)
    have HG3 := Lib.hid (grownN_trans HG2.out hg)
    have HM := Lib.hid hm
    clear hg hm HO2 HG2
    cases hh : hasId L id
    · have hpl := place_out (id := id) (Nat.le_refl L.length) (by rw [anyTo_all]; exact hh)
      have HR : Hid (setIll L id ill = L) := by show _ = _; rw [HSE.out]; exact ill_none hh
      have HK : Hid (setOk L id = false) := by show _ = _; rw [HKE.out]; exact hh
      have h0 : (placeTo L L.length id).isSome = false := by rw [hpl]; rfl
      clear hpl hh
      go_wp2_with (at_lookup; go_loud (refine wpM_lookup_ok _ rfl _ _ 53 rfl Try.underlying53 B L.length _ rfl HM.out id HI.out rfl ?_); intro hwf; rw [h0])
      go_ret2
      exact ⟨_, ret_t HK.out.symm, by rw [HR.out]; exact HO3.out, HG3.out⟩
    · obtain ⟨p, hp, he⟩ := has_at hh
      have hpl : placeTo L L.length id = some (p : Int) := by rw [← he]; exact place_in (crew_up HCR.out) hp (Nat.le_refl _)
      have HR : Hid (setIll L id ill = L.set p { L.getD p dM with ill := ill }) := by show _ = _; rw [HSE.out]; exact ill_set HCR.out hp he
      have HK : Hid (setOk L id = true) := by show _ = _; rw [HKE.out]; exact hh
      have h0 : (placeTo L L.length id).isSome = true := by rw [hpl]; rfl
      have h1 : (placeTo L L.length id).getD 0 = (p : Int) := by rw [hpl]; rfl
      clear hpl hh he
      obtain ⟨ua, un, uc, hu, HUN⟩ := HO3.out.sees.shape
      subst hu
      obtain ⟨g, o, rfl, _, _⟩ := HO3.out.sees.at_row hp
      have ho0 : o = 0 := by
        rcases HO3.out.1.2 with ⟨h, _⟩ | ⟨g', c', cur, h, _⟩
        · cases h
        · injection h with h; injection h with h; injection h
      subst ho0
      have hpu : p < un := by rw [← HUN.out]; exact hp
      obtain ⟨z0, z1, z2, z3⟩ := HO3.out.cellM hp
      have f3 := HO3.out.free (p * 4 + 3)
      have HP := Lib.hid (HO3.out.putIll (a := ill) HUN.out hp (show L.getD p zM = L.getD p dM from rfl))
      have hgb := (HO3.out.lt g rfl).1
      go_wp2_with (at_lookup; go_loud (refine wpM_lookup_ok _ rfl _ _ 53 rfl Try.underlying53 B L.length _ rfl HM.out id HI.out rfl ?_); intro hwf; clear hwf; rw [h0, h1])
      go_ret2
      exact ⟨_, ret_t HK.out.symm, by rw [HR.out]; exact HP.out.1, grown_new HG3.out HP.out.2 (fun c hc => by injection hc with hc; omega)⟩

theorem info_mem : (Try.prog.info? 51).map (fun i => (i.zero, i.size, i.bytes)) = some (some (.agg #[.int .i64 0, .int .i64 0, .int .i64 0, .bool false]), 4, 32) := by kernel_rfl
set_option maxRecDepth 20000 in
set_option maxHeartbeats 2000000 in
theorem sSetIll_any (w : World) (v : Value) (L : List Mem) (id : Int) (ill : Bool) (hv : SeesG encM w v L) (hn : L.length ≤ 1000000000) :
    Calls Try.prog 27 #[v, .int .i64 id, .bool ill] w fun e w' => ∃ u, e = .returned (.tuple #[u, .bool (setOk L id)]) ∧ OwnG encM 51 w' w.heap.size u (setIll L id ill) ∧ w.grownBy w' none := by
  have hg0 := World.grownBy_alloc w (.cells #[] 51 (0, 0)) none
  have HV0 := Lib.hid hv
  have HV := Lib.hid (hv.grown hg0)
  have HW : Hid (OwnG encM 51 (w.alloc (.cells #[] 51 (0, 0))) w.heap.size (.slice (some ⟨w.heap.size, 0, none⟩) 0 0) []) := ownG_empty w
  have HG := Lib.hid hg0
  have HA := Lib.hid (fun w hv => sAreCrew_any w v L hv)
  clear hv hg0
  obtain ⟨i0, hi, hz0, hz1, hz2⟩ := info_parts info_mem
  go_enter Try.func27, Try.ntmps27
  go_wp2_with (at_builtin; go_loud (refine wpListG_append_sees _ rfl _ _ 24 rfl w.heap.size 51 i0 (.agg #[.int .i64 0, .int .i64 0, .int .i64 0, .bool false]) 32 Try.underlying24 hi hz0 hz1 hz2 rfl _ [] rfl HW.out _ L rfl HV.out (by unfold maxLen; simp; omega) (by simp; omega) HG.out.size ?_); intro v3 w3 hown3 hgrow3; rw [List.nil_append] at hown3; have HO3 := Lib.hid hown3; have HG3 := Lib.hid (grown_new HG.out hgrow3 (fun c hc => (HW.out.lt c hc).1)); clear hown3 hgrow3)
  clear HV HW HG
  obtain ⟨ua, un, uc, hu, HUN⟩ := HO3.out.sees.shape
  subst hu
  cases hc : areCrew L
  · have hA := HA.out
    simp only [hc] at hA
    have HA2 := Lib.hid hA
    have HS : Hid (setIll L id ill = L) := by show _ = _; unfold setIll; rw [hc]; rfl
    have HK : Hid (setOk L id = false) := by show _ = _; unfold setOk; rw [hc]; rfl
    clear hA hc HA
    go_loopw [9, 10] (fun s i wr => s = .bool false ∧ i = .int .i64 0 ∧ Hid (OwnG encM 51 wr w.heap.size (.slice ua un uc) L) ∧ Hid (w.grownBy wr none)) (fun _ _ _ => 0)
    case atStart => exact ⟨rfl, rfl, HO3, HG3⟩
    case round =>
      obtain ⟨rfl, rfl, HO, HG⟩ := hrel
      by_cases h0 : 0 < un
      · go_wp2_with (go_at_call 22; refine (HA2.out _ (HV0.out.grown HG.out)).mono ?_; rintro e w4 ⟨rfl, hg⟩; have HO4 := Lib.hid (HO.out.grown hg); have HG4 := Lib.hid (grownN_trans HG.out hg); clear hg)
        go_ret2
        exact ⟨_, ret_t HK.out.symm, by rw [HS.out]; exact HO4.out, HG4.out⟩
      · go_wp2
        go_ret2
        exact ⟨_, ret_t HK.out.symm, by rw [HS.out]; exact HO.out, HG.out⟩
  · have hA := HA.out
    simp only [hc] at hA
    have HA2 := Lib.hid hA
    have HSE : Hid (setIll L id ill = L.map (setOne id ill)) := by show _ = _; unfold setIll; rw [if_pos hc]
    have HKE : Hid (setOk L id = anyTo L id L.length) := by show _ = _; unfold setOk; rw [hc, anyTo_all]; rfl
    have hlen := crew_len hc
    clear hA hc HA
    obtain ⟨X, hX⟩ : ∃ X, X = L.map (setOne id ill) := ⟨_, rfl⟩
    have hXl : X.length = L.length := by rw [hX]; simp
    have HXL := Lib.hid hXl
    have HX := Lib.hid hX
    have hun := HUN.out
    clear hX hXl
    have HO4 : Hid (OwnG encM 51 w3 w.heap.size (.slice ua un uc) (X.take 0 ++ L.drop 0)) := by show OwnG _ _ _ _ _ _; simpa using HO3.out
    clear HO3
    go_loopw [9, 10] (fun s i wr => ∃ j : Nat, j ≤ un ∧ i = .int .i64 j ∧ s = .bool (anyTo L id j) ∧ Hid (OwnG encM 51 wr w.heap.size (.slice ua un uc) (X.take j ++ L.drop j)) ∧ Hid (w.grownBy wr none)) (fun _ i _ => un - (intOf i).toNat)
    case atStart => exact ⟨0, Nat.zero_le _, rfl, by rw [anyTo_zero], HO4, HG3⟩
    case round =>
      rename_i wr
      obtain ⟨j, hj, rfl, rfl, HO, HG⟩ := hrel
      clear HO4 HG3
      by_cases hlt : j < un
      · have hjL : j < L.length := by omega
        have hlj : j < (X.take j ++ L.drop j).length := by rw [spliceG_len HXL.out (by rw [HXL.out]; omega), HXL.out]; exact hjL
        obtain ⟨g, o, rfl, _, _⟩ := HO.out.sees.at_row hlj
        have ho0 : o = 0 := by
          rcases HO.out.1.2 with ⟨h, _⟩ | ⟨g', c', cur, h, _⟩
          · cases h
          · injection h with h; injection h with h; injection h
        subst ho0
        obtain ⟨x, hx⟩ : ∃ x, L.getD j zM = x := ⟨_, rfl⟩
        have hgx : (X.take j ++ L.drop j).getD j zM = x := by rw [spliceG_get HXL.out (by rw [HXL.out]; exact hjL)]; exact hx
        have hgb := (HO.out.lt g rfl).1
        have hln : (X.take j ++ L.drop j).length = un := by rw [spliceG_len HXL.out (by rw [HXL.out]; omega), HXL.out]; exact HUN.out
        have hxi : X.getD j zM = setOne id ill x := by rw [HX.out, ← hx]; exact ill_at hjL
        have HXI := Lib.hid hxi
        have han := anyTo_next (id := id) hjL
        rw [show dM = zM from rfl, hx] at han
        have HAN := Lib.hid han
        have HHX := Lib.hid hx
        have HGX := Lib.hid hgx
        have HLN := Lib.hid hln
        have HLJ := Lib.hid hlj
        clear hx hgx hxi han hln hlj
        obtain ⟨xi, xs, xn, xb⟩ := x
        go_wp2_with fail
        refine (HA2.out _ (HV0.out.grown HG.out)).mono ?_
        rintro e w4 ⟨rfl, hg⟩
        have HO4 := Lib.hid (HO.out.grown hg)
        have HG4 := Lib.hid (grownN_trans HG.out hg)
        obtain ⟨z0, z1, z2, z3⟩ := HO4.out.cellM HLJ.out
        rw [show (⟨0, 0, 0, false⟩ : Mem) = zM from rfl, HGX.out] at z0 z1 z2 z3
        dsimp only at z0 z1 z2 z3
        have f3 := HO4.out.free (j * 4 + 3)
        have HP := Lib.hid (HO4.out.putIll (a := ill) HLN.out HLJ.out HGX.out)
        clear hg HO HG
        by_cases he : xi = id
        · have HS : Hid (OwnG encM 51 (w4.setCell ⟨g, j * 4 + 3, none⟩ (.bool ill)) w.heap.size (.slice (some ⟨g, 0, none⟩) un uc) (X.take (j + 1) ++ L.drop (j + 1)) ∧ w4.grownBy (w4.setCell ⟨g, j * 4 + 3, none⟩ (.bool ill)) (some g)) := by
            have hp := HP.out
            have e2 : (⟨xi, xs, xn, ill⟩ : Mem) = X.getD j zM := by rw [HXI.out]; unfold setOne; rw [if_pos he]
            dsimp only at hp
            rw [e2, spliceG_set HXL.out (by rw [HXL.out]; exact hjL)] at hp
            exact hp
          have HAT : Hid (anyTo L id (j + 1) = true) := by show _ = _; rw [HAN.out]; simp [he]
          clear HP
          subst he
          go_wp2
          go_roundw
          case rel => exact ⟨j + 1, by omega, by go_num, by rw [HAT.out], HS.out.1, grown_new HG4.out HS.out.2 (fun c hc => by injection hc with hc; omega)⟩
          case measure => simp [intOf]; omega
        · have HS : Hid (OwnG encM 51 w4 w.heap.size (.slice (some ⟨g, 0, none⟩) un uc) (X.take (j + 1) ++ L.drop (j + 1))) := by
            have hp := HO4.out
            rw [spliceG_keep (d := zM) HXL.out (by rw [HXL.out]; exact hjL) (by rw [HXI.out, HHX.out]; unfold setOne; rw [if_neg he])] at hp
            exact hp
          have HAT : Hid (anyTo L id (j + 1) = anyTo L id j) := by show _ = _; rw [HAN.out]; simp [he]
          clear HP
          go_wp2
          go_roundw
          case rel => exact ⟨j + 1, by omega, by go_num, by rw [HAT.out], HS, HG4⟩
          case measure => simp [intOf]; omega
      · have : j = un := by omega
        subst this
        have HR : Hid (OwnG encM 51 wr w.heap.size (.slice ua j uc) (setIll L id ill)) := by
          have ho := HO.out
          rw [List.take_of_length_le (by rw [HXL.out, HUN.out]; exact Nat.le_refl _), List.drop_of_length_le (by rw [HUN.out]; exact Nat.le_refl _), List.append_nil, HX.out, ← HSE.out] at ho
          exact ho
        have HK : Hid (setOk L id = anyTo L id j) := by show _ = _; rw [HKE.out, HUN.out]
        go_wp2
        go_ret2
        exact ⟨_, ret_t HK.out.symm, HR.out, HG.out⟩
end Go.Proofs.Ytlfhaanpfjfmcaa.Sil
