/- Contracts of the cells to which a party may go, of the program and of its model. -/
import Derived.Test.YtonalkamfgpokaaGreatG51
namespace Go.Proofs.YtonalkamfgpokaaGreat.Day
open Go.RowKit Kit Rw Rg Four PartyL Pc Pd Pe Stm Crw Hom HomS Ld

theorem info_int : (Tryz.prog.info? 3).map (fun i => (i.zero, i.size, i.bytes)) = some (some (.int .i64 0), 1, 8) := by kernel_rfl
def choTo (N : List Int) (p : Int → Bool) : Nat → List Int
  | 0 => []
  | j + 1 => if p (N.getD j 0) = true then choTo N p j ++ [N.getD j 0] else choTo N p j
theorem choTo_len (N : List Int) (p : Int → Bool) : ∀ j, (choTo N p j).length ≤ j
  | 0 => Nat.le_refl _
  | j + 1 => by have := choTo_len N p j; unfold choTo; split <;> simp <;> omega
theorem choTo_yes {N : List Int} {p : Int → Bool} {j : Nat} (h : p (N.getD j 0) = true) : choTo N p (j + 1) = choTo N p j ++ [N.getD j 0] := if_pos h
theorem choTo_no {N : List Int} {p : Int → Bool} {j : Nat} (h : p (N.getD j 0) = false) : choTo N p (j + 1) = choTo N p j := if_neg (by rw [h]; simp)
noncomputable def cho (W H : Int) (X : List Int) (base m rn : Int) (D : List (Int × Int)) (n f : Int) (L : List Mem) (P : List Bool) : List Int :=
  choTo (nearOf W H X n) (fun x => mayGo W H X base m rn D n f L P x) (nearOf W H X n).length
theorem cho_len (W H : Int) (X : List Int) (base m rn : Int) (D : List (Int × Int)) (n f : Int) (L : List Mem) (P : List Bool) : (cho W H X base m rn D n f L P).length ≤ (nearOf W H X n).length := choTo_len _ _ _

structure SC (w wr : World) (W H m rn n f : Int) (xv cv pv u nv : Value) (N M : List Int) : Prop where
  h0 : H0 w wr w.heap.size W H m rn n f xv cv pv
  own : Rw.Own .i64 3 wr (w.heap.size + 1 + 1 + 1) u M
  sees : Sees .i64 wr nv N
  lt : ∀ c, nv.ownBlock = some c → c < wr.heap.size
  ap : ∀ c, u.ownBlock = some c → nv.ownBlock ≠ some c
section
variable {w wr wy : World} {W H m rn n f : Int} {xv cv pv u u' nv : Value} {N M M' : List Int}
theorem SC.on (h : SC w wr W H m rn n f xv cv pv u nv N M) (hg : wr.grownBy wy none) : SC w wy W H m rn n f xv cv pv u nv N M :=
  ⟨h.h0.on hg, h.own.grown hg, h.sees.grown hg, fun c e => Nat.lt_of_lt_of_le (h.lt c e) hg.size, h.ap⟩
theorem SC.more (h : SC w wr W H m rn n f xv cv pv u nv N M) (ho : Rw.Own .i64 3 wy (w.heap.size + 1 + 1 + 1) u' M') (hg : wr.grownBy wy u.ownBlock) (hl : u'.ownBlock = u.ownBlock ∨ ∃ c, u'.ownBlock = some c ∧ wr.heap.size ≤ c) : SC w wy W H m rn n f xv cv pv u' nv N M' := by
  have hb := h.own.lt
  refine ⟨⟨h.h0.land.kept hg ?_, h.h0.rule.kept hg ?_, h.h0.party.kept hg ?_, grown_new h.h0.grown hg (fun c hc => by have := hb c hc; omega), rfl⟩, ho, h.sees.kept hg ?_, fun c e => Nat.lt_of_lt_of_le (h.lt c e) hg.size, ?_⟩
  · intro e; have := hb _ e; omega
  · intro e; have := hb _ e; omega
  · intro e; have := hb _ e; omega
  · cases hu : u.ownBlock with
    | none => rw [hu] at hg; exact ne_none nv
    | some c => exact .inr (h.ap c hu)
  · intro c hc
    rcases hl with hl | ⟨g, hg', hle⟩
    · exact h.ap c (by rw [← hl]; exact hc)
    · intro e
      have h1 := h.lt c e
      rw [hg'] at hc
      injection hc with hc
      omega
end

set_option maxRecDepth 20000 in
set_option maxHeartbeats 4000000 in
theorem iCho_any (w : World) (W H base m rn n f : Int) (xv dv cv pv : Value) (X : List Int) (D : List (Int × Int)) (L : List Mem) (P : List Bool) (hm : (Lit.int .i64 m).wf = true) (hrn : (Lit.int .i64 rn).wf = true) (hf : (Lit.int .i64 f).wf = true)
    (hx : Sees .i64 w xv X) (hd : SeesG encP w dv D) (hc : SeesG encM w cv L) (hp : SeesG encB w pv P) (hL : L.length ≤ 1000000000) (hP : P.length ≤ 100000000) :
    Calls Tryz.prog 79 #[.agg #[.int .i64 W, .int .i64 H, xv], .int .i64 base, .agg #[.int .i64 m, .int .i64 rn], dv, .agg #[.int .i64 n, .int .i64 f, cv, pv]] w fun e w' => ∃ u, e = .returned u ∧ Rw.Own .i64 3 w' w.heap.size u (cho W H X base m rn D n f L P) ∧ w.grownBy w' none := by
  obtain ⟨xa, xn, xc, rfl, HXN⟩ := hx.shape
  obtain ⟨da, dn, dc, rfl, HDN⟩ := hd.shape
  obtain ⟨ca, cn, cc, rfl, HCN⟩ := hc.shape
  obtain ⟨pa, pn, pc, rfl, HPN⟩ := hp.shape
  have hb0 := H0.start (w := w) (W := W) (H := H) (m := m) (rn := rn) (n := n) (f := f) (xv := .slice xa xn xc) (cv := .slice ca cn cc) (pv := .slice pa pn pc)
  have g3 := World.grownBy_alloc (((w.alloc (.cells #[.int .i64 W, .int .i64 H, .slice xa xn xc] 37 (0, 0))).alloc (.cells #[.int .i64 m, .int .i64 rn] 38 (0, 0))).alloc (.cells #[.int .i64 n, .int .i64 f, .slice ca cn cc, .slice pa pn pc] 42 (0, 0))) (.cells #[] 3 (0, 0)) (none : Option Nat)
  have o3 : Rw.Own .i64 3 ((((w.alloc (.cells #[.int .i64 W, .int .i64 H, .slice xa xn xc] 37 (0, 0))).alloc (.cells #[.int .i64 m, .int .i64 rn] 38 (0, 0))).alloc (.cells #[.int .i64 n, .int .i64 f, .slice ca cn cc, .slice pa pn pc] 42 (0, 0))).alloc (.cells #[] 3 (0, 0))) (w.heap.size + 1 + 1 + 1) (.slice (some ⟨w.heap.size + 1 + 1 + 1, 0, none⟩) 0 0) [] := by
    have := own_empty (k := .i64) (E := 3) (((w.alloc (.cells #[.int .i64 W, .int .i64 H, .slice xa xn xc] 37 (0, 0))).alloc (.cells #[.int .i64 m, .int .i64 rn] 38 (0, 0))).alloc (.cells #[.int .i64 n, .int .i64 f, .slice ca cn cc, .slice pa pn pc] 42 (0, 0)))
    simpa using this
  have HB0 := Lib.hid (hb0.on g3)
  have HO3 := Lib.hid o3
  have HX := Lib.hid (hx.grown HB0.out.grown)
  have HD := Lib.hid (hd.grown HB0.out.grown)
  have HC := Lib.hid (hc.grown HB0.out.grown)
  have HP := Lib.hid (hp.grown HB0.out.grown)
  have hgo := fun w' x hx hd hc hp => iGo_any w' W H base m rn n f x (.slice xa xn xc) (.slice da dn dc) (.slice ca cn cc) (.slice pa pn pc) X D L P hm hrn hf hx hd hc hp hL hP
  have HX9 := Lib.hid hx
  have HD9 := Lib.hid hd
  have HC9 := Lib.hid hc
  have HP9 := Lib.hid hp
  obtain ⟨p, hpE⟩ : ∃ p : Int → Bool, p = fun x => mayGo W H X base m rn D n f L P x := ⟨_, rfl⟩
  have hpx : ∀ x, mayGo W H X base m rn D n f L P x = p x := fun x => by rw [hpE]
  have hcho : cho W H X base m rn D n f L P = choTo (nearOf W H X n) p (nearOf W H X n).length := by rw [hpE]; rfl
  obtain ⟨i0, hi, hz0, hz1, hz2⟩ := info_parts info_int
  have HCHO := Lib.hid hcho
  have HPX := Lib.hid hpx
  have HGO := Lib.hid hgo
  obtain ⟨⟨a0, a1, a2⟩, ⟨b0, b1⟩, c0, c1, c2, c3⟩ := HB0.out.cells
  clear hx hd hc hp hm hrn hf hL hP hb0 g3 o3 hgo hpE hpx hcho
  go_enter Tryz.func79, Tryz.ntmps79
  go_wp2_with fail
  generalize (((w.alloc (.cells #[.int .i64 W, .int .i64 H, .slice xa xn xc] 37 (0, 0))).alloc (.cells #[.int .i64 m, .int .i64 rn] 38 (0, 0))).alloc (.cells #[.int .i64 n, .int .i64 f, .slice ca cn cc, .slice pa pn pc] 42 (0, 0))).alloc (.cells #[] 3 (0, 0)) = W0 at *
  refine (LandI.near_any W0 W H n _ X HX.out).mono ?_
  rintro e w2 ⟨nv, rfl, ho, hg⟩
  obtain ⟨N, hN⟩ : ∃ N, N = nearOf W H X n := ⟨_, rfl⟩
  rw [← hN] at ho HCHO
  have hnl := nearOf_len W H X n
  rw [← hN] at hnl
  have HNL := Lib.hid hnl
  obtain ⟨ua, un, uc, hu', HUN⟩ := ho.sees.shape
  subst hu'
  have hun : un ≤ 1000000000 := by rw [← HUN.out]; omega
  have HWF := Lib.hid ho.sees.wf
  have hs0 : SC w w2 W H m rn n f (.slice xa xn xc) (.slice ca cn cc) (.slice pa pn pc) (.slice (some ⟨w.heap.size + 1 + 1 + 1, 0, none⟩) 0 0) (.slice ua un uc) N [] :=
    ⟨HB0.out.on hg, HO3.out.grown hg, ho.sees, fun c e => (ho.lt c e).2, fun c e => by have h1 := HO3.out.lt c e; intro e2; have h2 := ho.lt c e2; omega⟩
  have HS0 := Lib.hid hs0
  clear hg ho hN hnl hs0 a0 a1 a2 b0 b1 c0 c1 c2 c3
  go_wp2
  go_loopw [11, 20] (fun u i wr => ∃ j : Nat, j ≤ un ∧ i = .int .i64 j ∧ Hid (SC w wr W H m rn n f (.slice xa xn xc) (.slice ca cn cc) (.slice pa pn pc) u (.slice ua un uc) N (choTo N p j))) (fun _ i _ => un - (intOf i).toNat)
  case atStart => exact ⟨0, Nat.zero_le _, rfl, HS0⟩
  case round =>
    rename_i u _ wr
    obtain ⟨j, hj, rfl, HS⟩ := hrel
    by_cases hlt : j < un
    · have hjN : j < N.length := by rw [HUN.out]; exact hlt
      have hjI : (j : Int) < (un : Int) := by omega
      have hj0 : (0 : Int) ≤ (j : Int) := by omega
      obtain ⟨x, hx⟩ : ∃ x, x = N.getD j 0 := ⟨_, rfl⟩
      obtain ⟨b, o, rfl, hcj⟩ := HS.out.sees.at_row (j := j) hjN
      rw [← hx] at hcj
      have HXW : Hid ((Lit.int .i64 x).wf = true) := HWF.out x (by rw [hx, show N.getD j 0 = N[j] by simp [hjN]]; exact List.getElem_mem hjN)
      have hlen : (choTo N p j).length ≤ 1000000000 := Nat.le_trans (choTo_len N p j) (by omega)
      have HLEN := Lib.hid hlen
      obtain ⟨z, hz⟩ : ∃ z, z = p x := ⟨_, rfl⟩
      have HZ := Lib.hid hz
      have HY : Hid (z = true → choTo N p (j + 1) = choTo N p j ++ [x]) := fun h => by rw [choTo_yes (by rw [← hx, ← hz]; exact h), hx]
      have HNO : Hid (z = false → choTo N p (j + 1) = choTo N p j) := fun h => choTo_no (by rw [← hx, ← hz]; exact h)
      have HGW := Lib.hid HS.out.h0.grown
      obtain ⟨⟨a0, a1, a2⟩, ⟨b0, b1⟩, c0, c1, c2, c3⟩ := HS.out.h0.cells
      clear hx hjN hlen hz
      go_wp2_with fail
      refine (HGO.out _ x (HX9.out.grown HGW.out) (HD9.out.grown HGW.out) (HC9.out.grown HGW.out) (HP9.out.grown HGW.out)).mono ?_
      rintro e w5 ⟨rfl, hg⟩
      rw [HPX.out, ← HZ.out]
      have HS5 := Lib.hid (HS.out.on hg)
      clear hg HS hcj a0 a1 a2 b0 b1 c0 c1 c2 c3
      cases z
      · have HNX := Lib.hid (HNO.out rfl)
        go_wp2
        go_roundw
        case rel => exact ⟨j + 1, by omega, by go_num, by rw [HNX.out]; exact HS5⟩
        case measure => simp [intOf]; omega
      · have HNX := Lib.hid (HY.out rfl)
        go_wp2_with (at_builtin; go_loud (refine wpList_append_one_at _ rfl _ _ 22 rfl (w.heap.size + 1 + 1 + 1) 3 i0 (.int .i64 0) 8 Tryz.underlying22 hi hz0 hz1 hz2 rfl .i64 _ (choTo N p j) rfl HS5.out.own x rfl HXW.out (by have := HLEN.out; omega) (by decide) HS5.out.h0.party.lt ?_); intro v4 w4 hown4 hgrow4 hpl4; have HS6 := Lib.hid (HS5.out.more hown4 hgrow4 hpl4); clear hown4 hgrow4 hpl4)
        go_roundw
        case rel => exact ⟨j + 1, by omega, by go_num, by rw [HNX.out]; exact HS6⟩
        case measure => simp [intOf]; omega
    · have hju : un = j := by omega
      subst hju
      have HR : Hid (cho W H X base m rn D n f L P = choTo N p un) := by show _ = _; rw [HCHO.out, HUN.out]
      go_wp2
      go_ret
      exact ⟨_, rfl, by rw [HR.out]; exact HS.out.own.lower (by omega), HS.out.h0.grown⟩

set_option maxRecDepth 20000 in
set_option maxHeartbeats 4000000 in
theorem sCho_any (w : World) (W H base m rn n f : Int) (xv dv cv pv : Value) (X : List Int) (D : List (Int × Int)) (L : List Mem) (P : List Bool) (hm : (Lit.int .i64 m).wf = true) (hrn : (Lit.int .i64 rn).wf = true) (hf : (Lit.int .i64 f).wf = true)
    (hx : Sees .i64 w xv X) (hd : SeesG encP w dv D) (hc : SeesG encM w cv L) (hp : SeesG encB w pv P) (hL : L.length ≤ 1000000000) (hP : P.length ≤ 100000000) :
    Calls Tryz.prog 74 #[.agg #[.int .i64 W, .int .i64 H, xv], .int .i64 base, .agg #[.int .i64 m, .int .i64 rn], dv, .agg #[.int .i64 n, .int .i64 f, cv, pv]] w fun e w' => ∃ u, e = .returned u ∧ Rw.Own .i64 3 w' w.heap.size u (cho W H X base m rn D n f L P) ∧ w.grownBy w' none := by
  obtain ⟨xa, xn, xc, rfl, HXN⟩ := hx.shape
  obtain ⟨da, dn, dc, rfl, HDN⟩ := hd.shape
  obtain ⟨ca, cn, cc, rfl, HCN⟩ := hc.shape
  obtain ⟨pa, pn, pc, rfl, HPN⟩ := hp.shape
  have hb0 := H0.start (w := w) (W := W) (H := H) (m := m) (rn := rn) (n := n) (f := f) (xv := .slice xa xn xc) (cv := .slice ca cn cc) (pv := .slice pa pn pc)
  have g3 := World.grownBy_alloc (((w.alloc (.cells #[.int .i64 W, .int .i64 H, .slice xa xn xc] 37 (0, 0))).alloc (.cells #[.int .i64 m, .int .i64 rn] 38 (0, 0))).alloc (.cells #[.int .i64 n, .int .i64 f, .slice ca cn cc, .slice pa pn pc] 42 (0, 0))) (.cells #[] 3 (0, 0)) (none : Option Nat)
  have o3 : Rw.Own .i64 3 ((((w.alloc (.cells #[.int .i64 W, .int .i64 H, .slice xa xn xc] 37 (0, 0))).alloc (.cells #[.int .i64 m, .int .i64 rn] 38 (0, 0))).alloc (.cells #[.int .i64 n, .int .i64 f, .slice ca cn cc, .slice pa pn pc] 42 (0, 0))).alloc (.cells #[] 3 (0, 0))) (w.heap.size + 1 + 1 + 1) (.slice (some ⟨w.heap.size + 1 + 1 + 1, 0, none⟩) 0 0) [] := by
    have := own_empty (k := .i64) (E := 3) (((w.alloc (.cells #[.int .i64 W, .int .i64 H, .slice xa xn xc] 37 (0, 0))).alloc (.cells #[.int .i64 m, .int .i64 rn] 38 (0, 0))).alloc (.cells #[.int .i64 n, .int .i64 f, .slice ca cn cc, .slice pa pn pc] 42 (0, 0)))
    simpa using this
  have HB0 := Lib.hid (hb0.on g3)
  have HO3 := Lib.hid o3
  have HX := Lib.hid (hx.grown HB0.out.grown)
  have HD := Lib.hid (hd.grown HB0.out.grown)
  have HC := Lib.hid (hc.grown HB0.out.grown)
  have HP := Lib.hid (hp.grown HB0.out.grown)
  have hgo := fun w' x hx hd hc hp => sGo_any w' W H base m rn n f x (.slice xa xn xc) (.slice da dn dc) (.slice ca cn cc) (.slice pa pn pc) X D L P hm hrn hf hx hd hc hp hL hP
  have HX9 := Lib.hid hx
  have HD9 := Lib.hid hd
  have HC9 := Lib.hid hc
  have HP9 := Lib.hid hp
  obtain ⟨p, hpE⟩ : ∃ p : Int → Bool, p = fun x => mayGo W H X base m rn D n f L P x := ⟨_, rfl⟩
  have hpx : ∀ x, mayGo W H X base m rn D n f L P x = p x := fun x => by rw [hpE]
  have hcho : cho W H X base m rn D n f L P = choTo (nearOf W H X n) p (nearOf W H X n).length := by rw [hpE]; rfl
  obtain ⟨i0, hi, hz0, hz1, hz2⟩ := info_parts info_int
  have HCHO := Lib.hid hcho
  have HPX := Lib.hid hpx
  have HGO := Lib.hid hgo
  obtain ⟨⟨a0, a1, a2⟩, ⟨b0, b1⟩, c0, c1, c2, c3⟩ := HB0.out.cells
  clear hx hd hc hp hm hrn hf hL hP hb0 g3 o3 hgo hpE hpx hcho
  go_enter Tryz.func74, Tryz.ntmps74
  go_wp2_with fail
  generalize (((w.alloc (.cells #[.int .i64 W, .int .i64 H, .slice xa xn xc] 37 (0, 0))).alloc (.cells #[.int .i64 m, .int .i64 rn] 38 (0, 0))).alloc (.cells #[.int .i64 n, .int .i64 f, .slice ca cn cc, .slice pa pn pc] 42 (0, 0))).alloc (.cells #[] 3 (0, 0)) = W0 at *
  refine (LandS.sNear_any W0 W H n _ X HX.out).mono ?_
  rintro e w2 ⟨nv, rfl, ho, hg⟩
  obtain ⟨N, hN⟩ : ∃ N, N = nearOf W H X n := ⟨_, rfl⟩
  rw [← hN] at ho HCHO
  have hnl := nearOf_len W H X n
  rw [← hN] at hnl
  have HNL := Lib.hid hnl
  obtain ⟨ua, un, uc, hu', HUN⟩ := ho.sees.shape
  subst hu'
  have hun : un ≤ 1000000000 := by rw [← HUN.out]; omega
  have HWF := Lib.hid ho.sees.wf
  have hs0 : SC w w2 W H m rn n f (.slice xa xn xc) (.slice ca cn cc) (.slice pa pn pc) (.slice (some ⟨w.heap.size + 1 + 1 + 1, 0, none⟩) 0 0) (.slice ua un uc) N [] :=
    ⟨HB0.out.on hg, HO3.out.grown hg, ho.sees, fun c e => (ho.lt c e).2, fun c e => by have h1 := HO3.out.lt c e; intro e2; have h2 := ho.lt c e2; omega⟩
  have HS0 := Lib.hid hs0
  clear hg ho hN hnl hs0 a0 a1 a2 b0 b1 c0 c1 c2 c3
  go_wp2
  go_loopw [11, 13] (fun u i wr => ∃ j : Nat, j ≤ un ∧ i = .int .i64 j ∧ Hid (SC w wr W H m rn n f (.slice xa xn xc) (.slice ca cn cc) (.slice pa pn pc) u (.slice ua un uc) N (choTo N p j))) (fun _ i _ => un - (intOf i).toNat)
  case atStart => exact ⟨0, Nat.zero_le _, rfl, HS0⟩
  case round =>
    rename_i u _ wr
    obtain ⟨j, hj, rfl, HS⟩ := hrel
    by_cases hlt : j < un
    · have hjN : j < N.length := by rw [HUN.out]; exact hlt
      have hjI : (j : Int) < (un : Int) := by omega
      have hj0 : (0 : Int) ≤ (j : Int) := by omega
      obtain ⟨x, hx⟩ : ∃ x, x = N.getD j 0 := ⟨_, rfl⟩
      obtain ⟨b, o, rfl, hcj⟩ := HS.out.sees.at_row (j := j) hjN
      rw [← hx] at hcj
      have HXW : Hid ((Lit.int .i64 x).wf = true) := HWF.out x (by rw [hx, show N.getD j 0 = N[j] by simp [hjN]]; exact List.getElem_mem hjN)
      have hlen : (choTo N p j).length ≤ 1000000000 := Nat.le_trans (choTo_len N p j) (by omega)
      have HLEN := Lib.hid hlen
      obtain ⟨z, hz⟩ : ∃ z, z = p x := ⟨_, rfl⟩
      have HZ := Lib.hid hz
      have HY : Hid (z = true → choTo N p (j + 1) = choTo N p j ++ [x]) := fun h => by rw [choTo_yes (by rw [← hx, ← hz]; exact h), hx]
      have HNO : Hid (z = false → choTo N p (j + 1) = choTo N p j) := fun h => choTo_no (by rw [← hx, ← hz]; exact h)
      have HGW := Lib.hid HS.out.h0.grown
      obtain ⟨⟨a0, a1, a2⟩, ⟨b0, b1⟩, c0, c1, c2, c3⟩ := HS.out.h0.cells
      clear hx hjN hlen hz
      have HSD := Lib.hid (HS.out.on (grown_drew (World.grownBy.refl wr none)))
      have hcD := (grown_drew (World.grownBy.refl wr none)).cell hcj (by simp)
      have HCJ := Lib.hid hcj
      clear hcj a0 a1 a2 b0 b1 c0 c1 c2 c3
      go_wp2_with fail
      refine wp_region_held_drew (S := fun w' => ((w'.cell? ⟨w.heap.size, 0, none⟩ = some (.int .i64 W) ∧ w'.cell? ⟨w.heap.size, 1, none⟩ = some (.int .i64 H) ∧ w'.cell? ⟨w.heap.size, 2, none⟩ = some (.slice xa xn xc)) ∧ (w'.cell? ⟨w.heap.size + 1, 0, none⟩ = some (.int .i64 m) ∧ w'.cell? ⟨w.heap.size + 1, 1, none⟩ = some (.int .i64 rn)) ∧ (w'.cell? ⟨w.heap.size + 2, 0, none⟩ = some (.int .i64 n) ∧ w'.cell? ⟨w.heap.size + 2, 1, none⟩ = some (.int .i64 f) ∧ w'.cell? ⟨w.heap.size + 2, 2, none⟩ = some (.slice ca cn cc) ∧ w'.cell? ⟨w.heap.size + 2, 3, none⟩ = some (.slice pa pn pc))) ∧ w'.cell? ⟨b, o + j, none⟩ = some (.int .i64 x)) (by kernel_rfl) ⟨HSD.out.h0.cells, hcD⟩ (fun hHeld => ?_)
      refine wpAnyH_take (i := 0) (v := ?_) rfl (by kernel_rfl) (by kernel_rfl) (by kernel_rfl) (fun _ _ _ h => h) (Or.inl ⟨by rfl, ?_⟩) (by assumption) ?_; rotate_left; (focus (intro wS hSw; (try dsimp only at hSw); go_simp <;> with_reducible rfl)); (try simp only [Act.put, List.getElem_toArray, List.getElem_cons_succ, List.getElem_cons_zero, List.setIfInBounds_toArray, List.set_cons_zero, List.set_cons_succ])
      refine wpAnyH_take (i := 1) (v := ?_) rfl (by kernel_rfl) (by kernel_rfl) (by kernel_rfl) (fun _ _ _ h => h) (Or.inl ⟨by rfl, ?_⟩) (by assumption) ?_; rotate_left; (focus (intro wS hSw; (try dsimp only at hSw); go_simp <;> with_reducible rfl)); (try simp only [Act.put, List.getElem_toArray, List.getElem_cons_succ, List.getElem_cons_zero, List.setIfInBounds_toArray, List.set_cons_zero, List.set_cons_succ])
      refine wpAnyH_take (i := 2) (v := ?_) rfl (by kernel_rfl) (by kernel_rfl) (by kernel_rfl) (fun _ _ _ h => h) (Or.inl ⟨by rfl, ?_⟩) (by assumption) ?_; rotate_left; (focus (intro wS hSw; (try dsimp only at hSw); go_simp <;> with_reducible rfl)); (try simp only [Act.put, List.getElem_toArray, List.getElem_cons_succ, List.getElem_cons_zero, List.setIfInBounds_toArray, List.set_cons_zero, List.set_cons_succ])
      refine wpAnyH_take (i := 3) (v := ?_) rfl (by kernel_rfl) (by kernel_rfl) (by kernel_rfl) (fun _ _ _ h => h) (Or.inl ⟨by rfl, ?_⟩) (by assumption) ?_; rotate_left; (focus (intro wS hSw; (try dsimp only at hSw); go_simp <;> with_reducible rfl)); (try simp only [Act.put, List.getElem_toArray, List.getElem_cons_succ, List.getElem_cons_zero, List.setIfInBounds_toArray, List.set_cons_zero, List.set_cons_succ])
      refine wpAnyH_take (i := 4) (v := ?_) rfl (by kernel_rfl) (by kernel_rfl) (by kernel_rfl) (fun _ _ _ h => h) (Or.inl ⟨by rfl, ?_⟩) (by assumption) ?_; rotate_left; (focus (intro wS hSw; (try dsimp only at hSw); go_simp <;> with_reducible rfl)); (try simp only [Act.put, List.getElem_toArray, List.getElem_cons_succ, List.getElem_cons_zero, List.setIfInBounds_toArray, List.set_cons_zero, List.set_cons_succ])
      refine wpAnyH_take (i := 5) (v := ?_) rfl (by kernel_rfl) (by kernel_rfl) (by kernel_rfl) (fun _ _ _ h => h) (Or.inl ⟨by rfl, ?_⟩) (by assumption) ?_; rotate_left; (focus (intro wS hSw; (try dsimp only at hSw); go_simp <;> with_reducible rfl)); (try simp only [Act.put, List.getElem_toArray, List.getElem_cons_succ, List.getElem_cons_zero, List.setIfInBounds_toArray, List.set_cons_zero, List.set_cons_succ])
      refine wpAnyH_take (i := 6) (v := ?_) rfl (by kernel_rfl) (by kernel_rfl) (by kernel_rfl) (fun _ _ _ h => h) (Or.inl ⟨by rfl, ?_⟩) (by assumption) ?_; rotate_left; (focus (intro wS hSw; (try dsimp only at hSw); go_simp <;> with_reducible rfl)); (try simp only [Act.put, List.getElem_toArray, List.getElem_cons_succ, List.getElem_cons_zero, List.setIfInBounds_toArray, List.set_cons_zero, List.set_cons_succ])
      refine wpAnyH_take (i := 7) (v := ?_) rfl (by kernel_rfl) (by kernel_rfl) (by kernel_rfl) (fun _ _ _ h => h) (Or.inl ⟨by rfl, ?_⟩) (by assumption) ?_; rotate_left; (focus (intro wS hSw; (try dsimp only at hSw); go_simp <;> with_reducible rfl)); (try simp only [Act.put, List.getElem_toArray, List.getElem_cons_succ, List.getElem_cons_zero, List.setIfInBounds_toArray, List.set_cons_zero, List.set_cons_succ])
      refine wpAnyH_take (i := 8) (v := ?_) rfl (by kernel_rfl) (by kernel_rfl) (by kernel_rfl) (fun _ _ _ h => h) (Or.inl ⟨by rfl, ?_⟩) (by assumption) ?_; rotate_left; (focus (intro wS hSw; (try dsimp only at hSw); go_simp <;> with_reducible rfl)); (try simp only [Act.put, List.getElem_toArray, List.getElem_cons_succ, List.getElem_cons_zero, List.setIfInBounds_toArray, List.set_cons_zero, List.set_cons_succ])
      refine wpAnyH_ready (rs := [9]) (by kernel_rfl) (by simp) ?_; refine AllReadyH.cons rfl (fun K hK => ?_) AllReadyH.nil; go_simp; (go_at_call 87; refine (HGO.out _ x (HX9.out.grown HSD.out.h0.grown) (HD9.out.grown HSD.out.h0.grown) (HC9.out.grown HSD.out.h0.grown) (HP9.out.grown HSD.out.h0.grown)).mono ?_; rintro e w5 ⟨rfl, hg⟩; rw [HPX.out, ← HZ.out]; have HS5 := Lib.hid (HSD.out.on hg); have hc5 := hg.cell hcD (by simp); clear hg HS)
      refine hK.out _ _ ?_ (fun hHeld => ?_)
      · exact ⟨HS5.out.h0.cells, hc5⟩
      clear hK K
      (try simp only [Act.put, List.getElem_toArray, List.getElem_cons_succ, List.getElem_cons_zero, List.setIfInBounds_toArray, List.set_cons_zero, List.set_cons_succ])
      refine wpAnyH_done (by kernel_rfl) ?_ _
      (try simp only [Act.put, List.getElem_toArray, List.getElem_cons_succ, List.getElem_cons_zero, List.setIfInBounds_toArray, List.set_cons_zero, List.set_cons_succ])
      cases z
      · have HNX := Lib.hid (HNO.out rfl)
        go_wp2
        go_roundw
        case rel => exact ⟨j + 1, by omega, by go_num, by rw [HNX.out]; exact HS5⟩
        case measure => simp [intOf]; omega
      · have HNX := Lib.hid (HY.out rfl)
        go_wp2_with (at_builtin; go_loud (refine wpList_append_one_at _ rfl _ _ 22 rfl (w.heap.size + 1 + 1 + 1) 3 i0 (.int .i64 0) 8 Tryz.underlying22 hi hz0 hz1 hz2 rfl .i64 _ (choTo N p j) rfl HS5.out.own x rfl HXW.out (by have := HLEN.out; omega) (by decide) HS5.out.h0.party.lt ?_); intro v4 w4 hown4 hgrow4 hpl4; have HS6 := Lib.hid (HS5.out.more hown4 hgrow4 hpl4); clear hown4 hgrow4 hpl4)
        go_roundw
        case rel => exact ⟨j + 1, by omega, by go_num, by rw [HNX.out]; exact HS6⟩
        case measure => simp [intOf]; omega
    · have hju : un = j := by omega
      subst hju
      have HR : Hid (cho W H X base m rn D n f L P = choTo N p un) := by show _ = _; rw [HCHO.out, HUN.out]
      go_wp2
      go_ret
      exact ⟨_, rfl, by rw [HR.out]; exact HS.out.own.lower (by omega), HS.out.h0.grown⟩
end Go.Proofs.YtonalkamfgpokaaGreat.Day
