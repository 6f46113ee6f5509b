/- Encrypt and Decrypt of the model. -/
import Derived.Test.YtklbeeloppiknaaCip
import Derived.Test.YtklbeeloppiknaaStep
import Derived.IntWalk
namespace Go.Proofs.Ytklbeeloppiknaa.Cip
open Go.RowKit Kit Rw Hs Md

set_option maxHeartbeats 1000000 in
theorem sEnc_any (w : World) (k : Int) (v : Value) (X : List Int) (hk : (Lit.int .i64 k).wf = true) (hv : Sees .u8 w v X) (hX : X.length ≤ 100000000000) :
    Calls Try.prog 28 #[.int .i64 k, v] w fun e w' => ∃ u, e = .returned u ∧ Own .u8 5 w' w.heap.size u (cip 1 k X) ∧ w.grownBy w' none := by
  have HW := Lib.hid hv.wf
  have HK := Lib.hid hk
  obtain ⟨a, cap, rfl, hlc, hcm, hnil, hwf, hcell⟩ := hv
  have HC := Lib.hid hcell
  clear hwf hcell hnil hk
  obtain ⟨i0, hi, hz0, hz1, hz2⟩ := info_parts LawsB.info_u8
  have HO := Lib.hid (own_empty (k := .u8) (E := 5) w)
  have HG0 := Lib.hid (World.grownBy_alloc w (.cells #[] 5 (0, 0)) none)
  go_enter Try.func28, Try.ntmps28
  go_wp2
  go_loopw [5, 6] (fun u i wr => ∃ j : Nat, j ≤ X.length ∧ i = .int .i64 j ∧ Hid (Own .u8 5 wr w.heap.size u ((cip 1 k X).take j)) ∧ Hid (w.grownBy wr none))
    (fun _ i _ => X.length - (intOf i).toNat)
  case atStart => exact ⟨0, Nat.zero_le _, rfl, by simpa using HO, HG0⟩
  case round =>
    obtain ⟨j, hj, rfl, HO1, HG⟩ := hrel
    by_cases hlt : j < X.length
    · rcases HC.out with hX' | ⟨b, o, rfl, hc⟩
      · simp [hX'] at hlt
      obtain ⟨x, hx⟩ : ∃ x, x = X.getD j 0 := ⟨_, rfl⟩
      have hcj : wr.cell? ⟨b, o + j, none⟩ = some (.int .u8 x) := by
        rw [hx]
        exact HG.out.cell (hc j hlt) (by simp)
      have HCB : Hid (b < w.heap.size) := World.block_lt_of_cell? w _ (hc j hlt)
      have hb := u8_of (HW.out _ (mem_getD hlt))
      rw [← hx] at hb
      have HN := Lib.hid (cip_next (s := 1) (k := k) hlt)
      have hsh := sh_in k j
      have hl : ((cip 1 k X).take j).length ≤ 100000000000 := by rw [List.length_take, cip_len]; omega
      obtain ⟨hb0, hb1'⟩ := hb
      obtain ⟨hs0, hs1⟩ := hsh
      have HX := Lib.hid hx
      have hkk : ∀ W : World, Sees .i64 (W.alloc (.cells #[.int .i64 (j : Int)] 3 (0, 0))) (.slice (some ⟨W.heap.size, 0, none⟩) 1 1) [(j : Int)] := fun W => sees_one W _ (i64_mk (by omega))
      have HKK := Lib.hid hkk
      clear hx hc hkk
      have hwx : IntKind.i64.wrap x = x := IntWalk.i64_in _ (by omega)
      have HKW : Hid (Sees .i64 (wr.alloc (.cells #[.int .i64 (j : Int)] 3 (0, 0))).drew (.slice (some ⟨wr.heap.size, 0, none⟩) 1 1) [(j : Int)]) := (HKK.out wr).grown (grown_drew (World.grownBy.refl _ _))
      have HGW : Hid (wr.grownBy (wr.alloc (.cells #[.int .i64 (j : Int)] 3 (0, 0))).drew none) := grown_drew (World.grownBy_alloc _ _ none)
      have hin := kh_in k [(j : Int)]
      have ht1 : (kh k [(j : Int)]).tmod 256 = sh k j := by rw [Int.tmod_eq_emod_of_nonneg hin.1]; rfl
      have hw2 : IntKind.i64.wrap (x + sh k j) = x + sh k j := IntWalk.i64_in _ (by omega)
      have ht2 : (x + sh k j).tmod 256 = (x + sh k j) % 256 := Int.tmod_eq_emod_of_nonneg (by omega)
      have hw3 : IntKind.u8.wrap ((x + sh k j) % 256) = (x + sh k j) % 256 := by rw [IntKind.wrap_u8]; omega
      clear hin
      have hbw : b < w.heap.size := by
        have := HCB.out
        exact this
      have HCW := Lib.hid (HGW.out.cell hcj (by simp))
      have hnb : Value.ownBlock u5 ≠ some b := by
        intro e; have := HO1.out.lt b e; omega
      have HNB := Lib.hid hnb
      clear hnb
      go_wp2_with fail
      go_region_held3 (fun w' => w'.cell? ⟨b, o + j, none⟩ = some (.int .u8 x))
        (first | go_keep | (exact hg3.cell (by assumption) (by simp)) | (exact hgrow4.cell ((World.grownBy_alloc _ _ none).cell (hg3.cell HCW.out (by simp)) (by simp)) (fun e => HNB.out e.symm)))
        (first
          | (go_at_call 19; refine (sKeyed_any _ k _ [(j : Int)] HK.out HKW.out (by simp)).mono ?_; rintro e w3 ⟨rfl, hg3⟩)
          | (refine step_append_one _ (by rfl) _ _ _ (by rfl) w.heap.size 5 i0 (.int .u8 0) 1 Try.underlying22 hi hz0 hz1 hz2 rfl .u8 u5 ((cip 1 k X).take j) (by rfl) (((HO1.out.grown HGW.out).grown hg3).grown (World.grownBy_alloc _ _ none)) ((x + sh k j) % 256) w3.heap.size (by rfl) (cell_of_one (heap_alloc_new _ _)) (u8_mk (by omega)) (by omega) (by decide) (by have h1 := HG.out.size; have h2 := HGW.out.size; have h3 := hg3.size; simp only [World.size_alloc]; omega) ?_; intro v4 w4 hown4 hgrow4))
      have HO4 := Lib.hid hown4
      have HG4 := Lib.hid (grown_new (grownN_trans HG.out (grownN_trans HGW.out (grownN_trans hg3 (World.grownBy_alloc _ _ none)))) hgrow4 (fun c hc => (HO1.out.lt c hc).1))
      clear hown4 hgrow4 hg3
      clear hwx ht1 hw2 ht2 hw3
      go_wp2
      go_roundw
      case rel =>
        refine ⟨j + 1, by omega, by go_num, ?_, HG4⟩
        rw [← HN.out, ← HX.out, show x + 1 * sh k j = x + sh k j by omega]; exact HO4
      case measure => simp [intOf]; omega
    · have : j = X.length := by omega
      subst this
      go_wp2
      go_ret
      exact ⟨_, rfl, by have := HO1.out; rwa [List.take_of_length_le (by rw [cip_len]; omega)] at this, HG.out⟩

set_option maxHeartbeats 1000000 in
theorem sDec_any (w : World) (k : Int) (v : Value) (X : List Int) (hk : (Lit.int .i64 k).wf = true) (hv : Sees .u8 w v X) (hX : X.length ≤ 100000000000) :
    Calls Try.prog 30 #[.int .i64 k, v] w fun e w' => ∃ u, e = .returned u ∧ Own .u8 5 w' w.heap.size u (cip (-1) k X) ∧ w.grownBy w' none := by
  have HW := Lib.hid hv.wf
  have HK := Lib.hid hk
  obtain ⟨a, cap, rfl, hlc, hcm, hnil, hwf, hcell⟩ := hv
  have HC := Lib.hid hcell
  clear hwf hcell hnil hk
  obtain ⟨i0, hi, hz0, hz1, hz2⟩ := info_parts LawsB.info_u8
  have HO := Lib.hid (own_empty (k := .u8) (E := 5) w)
  have HG0 := Lib.hid (World.grownBy_alloc w (.cells #[] 5 (0, 0)) none)
  go_enter Try.func30, Try.ntmps30
  go_wp2
  go_loopw [5, 6] (fun u i wr => ∃ j : Nat, j ≤ X.length ∧ i = .int .i64 j ∧ Hid (Own .u8 5 wr w.heap.size u ((cip (-1) k X).take j)) ∧ Hid (w.grownBy wr none))
    (fun _ i _ => X.length - (intOf i).toNat)
  case atStart => exact ⟨0, Nat.zero_le _, rfl, by simpa using HO, HG0⟩
  case round =>
    obtain ⟨j, hj, rfl, HO1, HG⟩ := hrel
    by_cases hlt : j < X.length
    · rcases HC.out with hX' | ⟨b, o, rfl, hc⟩
      · simp [hX'] at hlt
      obtain ⟨x, hx⟩ : ∃ x, x = X.getD j 0 := ⟨_, rfl⟩
      have hcj : wr.cell? ⟨b, o + j, none⟩ = some (.int .u8 x) := by
        rw [hx]
        exact HG.out.cell (hc j hlt) (by simp)
      have HCB : Hid (b < w.heap.size) := World.block_lt_of_cell? w _ (hc j hlt)
      have hb := u8_of (HW.out _ (mem_getD hlt))
      rw [← hx] at hb
      have HN := Lib.hid (cip_next (s := -1) (k := k) hlt)
      have hsh := sh_in k j
      have hl : ((cip (-1) k X).take j).length ≤ 100000000000 := by rw [List.length_take, cip_len]; omega
      obtain ⟨hb0, hb1'⟩ := hb
      obtain ⟨hs0, hs1⟩ := hsh
      have HX := Lib.hid hx
      have hkk : ∀ W : World, Sees .i64 (W.alloc (.cells #[.int .i64 (j : Int)] 3 (0, 0))) (.slice (some ⟨W.heap.size, 0, none⟩) 1 1) [(j : Int)] := fun W => sees_one W _ (i64_mk (by omega))
      have HKK := Lib.hid hkk
      clear hx hc hkk
      have hwx : IntKind.i64.wrap x = x := IntWalk.i64_in _ (by omega)
      have HKW : Hid (Sees .i64 (wr.alloc (.cells #[.int .i64 (j : Int)] 3 (0, 0))).drew (.slice (some ⟨wr.heap.size, 0, none⟩) 1 1) [(j : Int)]) := (HKK.out wr).grown (grown_drew (World.grownBy.refl _ _))
      have HGW : Hid (wr.grownBy (wr.alloc (.cells #[.int .i64 (j : Int)] 3 (0, 0))).drew none) := grown_drew (World.grownBy_alloc _ _ none)
      have hin := kh_in k [(j : Int)]
      have ht1 : (kh k [(j : Int)]).tmod 256 = sh k j := by rw [Int.tmod_eq_emod_of_nonneg hin.1]; rfl
      have hw2 : IntKind.i64.wrap (x - sh k j) = x - sh k j := IntWalk.i64_in _ (by omega)
      have hw3 : IntKind.u8.wrap ((x - sh k j) % 256) = (x - sh k j) % 256 := by rw [IntKind.wrap_u8]; omega
      clear hin
      have hbw : b < w.heap.size := by
        have := HCB.out
        exact this
      have HCW := Lib.hid (HGW.out.cell hcj (by simp))
      have hnb : Value.ownBlock u5 ≠ some b := by
        intro e; have := HO1.out.lt b e; omega
      have HNB := Lib.hid hnb
      clear hnb
      go_wp2_with fail
      go_region_held3 (fun w' => w'.cell? ⟨b, o + j, none⟩ = some (.int .u8 x))
        (first | go_keep | (exact hg3.cell (by assumption) (by simp)) | (exact hgrow4.cell ((World.grownBy_alloc _ _ none).cell (hg3.cell HCW.out (by simp)) (by simp)) (fun e => HNB.out e.symm)))
        (first
          | (go_at_call 19; refine (sKeyed_any _ k _ [(j : Int)] HK.out HKW.out (by simp)).mono ?_; rintro e w3 ⟨rfl, hg3⟩)
          | (go_at_call 38; refine (sMod_any (x - sh k j) 256 _ (by omega) (by omega)).mono ?_; rintro e w' ⟨rfl, rfl⟩)
          | (refine step_append_one _ (by rfl) _ _ _ (by rfl) w.heap.size 5 i0 (.int .u8 0) 1 Try.underlying22 hi hz0 hz1 hz2 rfl .u8 u5 ((cip (-1) k X).take j) (by rfl) (((HO1.out.grown HGW.out).grown hg3).grown (World.grownBy_alloc _ _ none)) ((x - sh k j) % 256) w3.heap.size (by rfl) (cell_of_one (heap_alloc_new _ _)) (u8_mk (by omega)) (by omega) (by decide) (by have h1 := HG.out.size; have h2 := HGW.out.size; have h3 := hg3.size; simp only [World.size_alloc]; omega) ?_; intro v4 w4 hown4 hgrow4))
      have HO4 := Lib.hid hown4
      have HG4 := Lib.hid (grown_new (grownN_trans HG.out (grownN_trans HGW.out (grownN_trans hg3 (World.grownBy_alloc _ _ none)))) hgrow4 (fun c hc => (HO1.out.lt c hc).1))
      clear hown4 hgrow4 hg3
      clear hwx ht1 hw2 hw3
      go_wp2
      go_roundw
      case rel =>
        refine ⟨j + 1, by omega, by go_num, ?_, HG4⟩
        rw [← HN.out, ← HX.out, show x + -1 * sh k j = x - sh k j by omega]; exact HO4
      case measure => simp [intOf]; omega
    · have : j = X.length := by omega
      subst this
      go_wp2
      go_ret
      exact ⟨_, rfl, by have := HO1.out; rwa [List.take_of_length_le (by rw [cip_len]; omega)] at this, HG.out⟩
end Go.Proofs.Ytklbeeloppiknaa.Cip
