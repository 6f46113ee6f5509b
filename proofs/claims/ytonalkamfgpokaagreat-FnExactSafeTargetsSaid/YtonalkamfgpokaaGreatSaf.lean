/- Contracts of the cells that a party can safely aim at, of the program and of its model. -/
import Derived.Test.YtonalkamfgpokaaGreatDayR
import Derived.Test.YtonalkamfgpokaaGreatDayQ
import Derived.Test.YtonalkamfgpokaaGreatG28
import Derived.Test.YtonalkamfgpokaaGreatWayJ
import Derived.Test.YtonalkamfgpokaaGreatWayI
import Derived.Test.YtonalkamfgpokaaGreatG24
import Derived.Deep.RegionHeld3
namespace Go.Proofs.YtonalkamfgpokaaGreat.Saf
open Go.RowKit Kit Rw Rg Four PartyL Pc Pd Pe Stm Crw Hom HomS Ld Day Lah Wf Bfs Gr

theorem choTo_filter {N : List Int} {p : Int → Bool} : ∀ j, j ≤ N.length → choTo N p j = (N.take j).filter p
  | 0, _ => by simp [choTo]
  | j + 1, h => by
    have hj : j < N.length := by omega
    rw [List.take_succ_eq_append_getElem hj, List.filter_append, ← choTo_filter j (by omega)]
    have hg : N.getD j 0 = N[j] := by simp [hj]
    cases hp : p N[j]
    · rw [choTo_no (by rw [hg]; exact hp), List.filter_cons, hp]; simp
    · rw [choTo_yes (by rw [hg]; exact hp), List.filter_cons, hp, hg]; simp
def cellsOf (k : Nat) : List Int := (List.range k).map fun i : Nat => (i : Int)
theorem cellsOf_len (k : Nat) : (cellsOf k).length = k := by simp [cellsOf]
theorem cellsOf_at {k j : Nat} (h : j < k) : (cellsOf k).getD j 0 = j := by simp [cellsOf, h]
noncomputable def hit (W H : Int) (X : List Int) (base m rn : Int) (D : List (Int × Int)) (n f : Int) (L : List Mem) (P : List Bool) (c : Int) : Bool := decide ((onOf W H X base m rn D n f L P c : Int) = daysOf W H X n c)
noncomputable def hitS (W H : Int) (X : List Int) (base m rn : Int) (D : List (Int × Int)) (n f : Int) (L : List Mem) (P : List Bool) (c : Int) : Bool := decide (0 ≤ daysOf W H X n c) && hit W H X base m rn D n f L P c
noncomputable def safe (W H : Int) (X : List Int) (base m rn : Int) (D : List (Int × Int)) (n f : Int) (L : List Mem) (P : List Bool) : List Int :=
  if 0 ≤ left W H X base m rn D n f L P then (cellsOf X.length).filter (hitS W H X base m rn D n f L P) else []
section
variable {W H : Int} {X : List Int} {base m rn : Int} {D : List (Int × Int)} {n f : Int} {L : List Mem} {P : List Bool}
theorem safe_no (h : decide (0 ≤ left W H X base m rn D n f L P) = false) : safe W H X base m rn D n f L P = [] := if_neg (of_decide_eq_false h)
theorem safe_yes (h : decide (0 ≤ left W H X base m rn D n f L P) = true) : safe W H X base m rn D n f L P = (cellsOf X.length).filter (hitS W H X base m rn D n f L P) := if_pos (of_decide_eq_true h)
theorem safe_len (W H : Int) (X : List Int) (base m rn : Int) (D : List (Int × Int)) (n f : Int) (L : List Mem) (P : List Bool) : (safe W H X base m rn D n f L P).length ≤ X.length := by
  unfold safe
  split
  · have := List.length_filter_le (hitS W H X base m rn D n f L P) (cellsOf X.length)
    rw [cellsOf_len] at this
    exact this
  · simp
theorem in_reach (ho : isOpen W H X n = true) {i : Nat} (hi : i < X.length) : inReach (distL W X n) 64 i = decide (0 ≤ daysOf W H X n i) := by
  have hh := daysOf_high W H X n i
  obtain ⟨p, q, k, rfl, rfl, rfl, hn, hL, h64, _⟩ := open_nat ho
  have hlt := dist_lt hL (a := (k : Int)) (by omega) (by omega) (n := (i : Int)) (by omega) (by omega)
  unfold inReach
  rw [decide_eq_decide]
  constructor
  · intro h
    have hro := dist_open ho (n := (i : Int)) (by omega) (by omega) h.1
    unfold daysOf
    rw [if_pos ⟨ho, hro⟩]
    exact h.1
  · intro h
    have h1 := daysOf_pos h
    unfold daysOf at h hh
    rw [if_pos ⟨h1.1, h1.2.1⟩] at h hh
    exact ⟨h, hh⟩
theorem reach_hit : (reachOf W H X n 64).filter (hit W H X base m rn D n f L P) = (cellsOf X.length).filter (hitS W H X base m rn D n f L P) := by
  unfold reachOf
  by_cases ho : isOpen W H X n = true
  · rw [if_pos ho]
    unfold reachTo cellsOf
    rw [List.filter_map, List.filter_map, List.filter_filter]
    congr 1
    refine List.filter_congr fun i hi => ?_
    rw [in_reach ho (List.mem_range.1 hi)]
    unfold hitS
    simp only [Function.comp_apply]
    rw [Bool.and_comm]
  · rw [if_neg ho]
    symm
    rw [List.filter_nil, List.filter_eq_nil_iff]
    intro c hc
    have : daysOf W H X n c = -1 := by unfold daysOf; rw [if_neg (fun k => ho k.1)]
    unfold hitS
    rw [this]
    simp
end

set_option maxRecDepth 20000 in
set_option maxHeartbeats 4000000 in
theorem iSafe_any (w : World) (W H base m rn n f : Int) (xv dv cv pv : Value) (X : List Int) (D : List (Int × Int)) (L : List Mem) (P : List Bool) (hm : (Lit.int .i64 m).wf = true) (hrn : (Lit.int .i64 rn).wf = true) (hf : (Lit.int .i64 f).wf = true)
    (hx : Sees .i64 w xv X) (hd : SeesG encP w dv D) (hc : SeesG encM w cv L) (hp : SeesG encB w pv P) (hL : L.length ≤ 1000000000) (hP : P.length ≤ 50000000) (hX : X.length ≤ 1000000000) :
    Calls Tryz.prog 33 #[.agg #[.int .i64 W, .int .i64 H, xv], .int .i64 base, .agg #[.int .i64 m, .int .i64 rn], dv, .agg #[.int .i64 n, .int .i64 f, cv, pv]] w fun e w' => ∃ u, e = .returned u ∧ Rw.Own .i64 3 w' w.heap.size u (safe W H X base m rn D n f L P) ∧ w.grownBy w' none := by
  obtain ⟨xa, xn, xc, rfl, HXN⟩ := hx.shape
  obtain ⟨da, dn, dc, rfl, HDN⟩ := hd.shape
  obtain ⟨ca, cn, cc, rfl, HCN⟩ := hc.shape
  obtain ⟨pa, pn, pc, rfl, HPN⟩ := hp.shape
  have hb0 := H0.start (w := w) (W := W) (H := H) (m := m) (rn := rn) (n := n) (f := f) (xv := .slice xa xn xc) (cv := .slice ca cn cc) (pv := .slice pa pn pc)
  have g3 := World.grownBy_alloc (((w.alloc (.cells #[.int .i64 W, .int .i64 H, .slice xa xn xc] 37 (0, 0))).alloc (.cells #[.int .i64 m, .int .i64 rn] 38 (0, 0))).alloc (.cells #[.int .i64 n, .int .i64 f, .slice ca cn cc, .slice pa pn pc] 42 (0, 0))) (.cells #[] 3 (0, 0)) (none : Option Nat)
  have o3 : Rw.Own .i64 3 ((((w.alloc (.cells #[.int .i64 W, .int .i64 H, .slice xa xn xc] 37 (0, 0))).alloc (.cells #[.int .i64 m, .int .i64 rn] 38 (0, 0))).alloc (.cells #[.int .i64 n, .int .i64 f, .slice ca cn cc, .slice pa pn pc] 42 (0, 0))).alloc (.cells #[] 3 (0, 0))) (w.heap.size + 1 + 1 + 1) (.slice (some ⟨w.heap.size + 1 + 1 + 1, 0, none⟩) 0 0) [] := by
    have := own_empty (k := .i64) (E := 3) (((w.alloc (.cells #[.int .i64 W, .int .i64 H, .slice xa xn xc] 37 (0, 0))).alloc (.cells #[.int .i64 m, .int .i64 rn] 38 (0, 0))).alloc (.cells #[.int .i64 n, .int .i64 f, .slice ca cn cc, .slice pa pn pc] 42 (0, 0)))
    simpa using this
  have HB0 := Lib.hid (hb0.on g3)
  have HO3 := Lib.hid o3
  have HCAN := Lib.hid fun w' (hg : w.grownBy w' none) => iCan_any w' W H base m rn n f (.slice xa xn xc) (.slice da dn dc) (.slice ca cn cc) (.slice pa pn pc) X D L P hm hrn (hx.grown hg) (hd.grown hg) (hc.grown hg) (hp.grown hg)
  have HON := Lib.hid fun w' x (hg : w.grownBy w' none) => iOn_any w' W H base m rn n f x (.slice xa xn xc) (.slice da dn dc) (.slice ca cn cc) (.slice pa pn pc) X D L P hm hrn hf (hx.grown hg) (hd.grown hg) (hc.grown hg) (hp.grown hg) hL hP
  have HDAY := Lib.hid fun w' x (hg : w.grownBy w' none) => WayI.days_any w' W H n x (.slice xa xn xc) X (hx.grown hg)
  have HX9 := Lib.hid hx
  obtain ⟨i0, hi, hz0, hz1, hz2⟩ := info_parts info_int
  have hxn : xn ≤ 1000000000 := by rw [← HXN.out]; exact hX
  obtain ⟨⟨a0, a1, a2⟩, ⟨b0, b1⟩, c0, c1, c2, c3⟩ := HB0.out.cells
  cases hl : decide (0 ≤ left W H X base m rn D n f L P)
  · have HR := Lib.hid (safe_no hl)
    rw [hl] at HCAN
    clear hx hd hc hp hm hrn hf hL hP hX hb0 g3 o3 hl
    go_enter Tryz.func33, Tryz.ntmps33
    go_wp2_with fail
    generalize ((((w.alloc (.cells #[.int .i64 W, .int .i64 H, .slice xa xn xc] 37 (0, 0))).alloc (.cells #[.int .i64 m, .int .i64 rn] 38 (0, 0))).alloc (.cells #[.int .i64 n, .int .i64 f, .slice ca cn cc, .slice pa pn pc] 42 (0, 0))).alloc (.cells #[] 3 (0, 0))) = W0 at *
    refine (HCAN.out _ HB0.out.grown).mono ?_
    rintro e w1 ⟨rfl, hg⟩
    have HB1 := Lib.hid (HB0.out.on hg)
    have HO1 := Lib.hid (HO3.out.grown hg)
    clear hg a0 a1 a2 b0 b1 c0 c1 c2 c3
    obtain ⟨⟨a0, a1, a2⟩, ⟨b0, b1⟩, c0, c1, c2, c3⟩ := HB1.out.cells
    go_wp2
    go_ret
    exact ⟨_, rfl, by rw [HR.out]; exact HO1.out.lower (by omega), HB1.out.grown⟩
  · have hsf := safe_yes hl
    rw [hl] at HCAN
    obtain ⟨p, hpE⟩ : ∃ p : Int → Bool, p = hit W H X base m rn D n f L P := ⟨_, rfl⟩
    have HPX : Hid (∀ c, p c = decide ((onOf W H X base m rn D n f L P c : Int) = daysOf W H X n c)) := fun c => by rw [hpE]; rfl
    have HSF : Hid (safe W H X base m rn D n f L P = choTo (reachOf W H X n 64) p (reachOf W H X n 64).length) := by
      show _ = _
      rw [hsf, ← reach_hit, choTo_filter _ (Nat.le_refl _), List.take_length, hpE]
    have hrl := reachOf_len W H X n 64
    have hrl2 : (reachOf W H X n 64).length ≤ 1000000000 := by omega
    have HRL := Lib.hid hrl2
    clear hx hd hc hp hm hrn hf hL hP hX hb0 g3 o3 hl hsf hpE hrl hrl2
    go_enter Tryz.func33, Tryz.ntmps33
    go_wp2_with fail
    generalize ((((w.alloc (.cells #[.int .i64 W, .int .i64 H, .slice xa xn xc] 37 (0, 0))).alloc (.cells #[.int .i64 m, .int .i64 rn] 38 (0, 0))).alloc (.cells #[.int .i64 n, .int .i64 f, .slice ca cn cc, .slice pa pn pc] 42 (0, 0))).alloc (.cells #[] 3 (0, 0))) = W0 at *
    refine (HCAN.out _ HB0.out.grown).mono ?_
    rintro e w1 ⟨rfl, hg⟩
    have HB1 := Lib.hid (HB0.out.on hg)
    have HO1 := Lib.hid (HO3.out.grown hg)
    clear hg a0 a1 a2 b0 b1 c0 c1 c2 c3
    obtain ⟨⟨a0, a1, a2⟩, ⟨b0, b1⟩, c0, c1, c2, c3⟩ := HB1.out.cells
    go_wp2_with fail
    refine (WayI.reach_any _ W H n 64 _ X (HX9.out.grown HB1.out.grown)).mono ?_
    rintro e w2 ⟨nv, rfl, ho, hg⟩
    obtain ⟨N, hN⟩ : ∃ N, N = reachOf W H X n 64 := ⟨_, rfl⟩
    rw [← hN] at ho HSF HRL
    obtain ⟨ua, un, uc, hu', HUN⟩ := ho.sees.shape
    subst hu'
    have hun : un ≤ 1000000000 := by rw [← HUN.out]; exact HRL.out
    have HWF := Lib.hid ho.sees.wf
    have hs0 : SC w w2 W H m rn n f (.slice xa xn xc) (.slice ca cn cc) (.slice pa pn pc) (.slice (some ⟨w.heap.size + 1 + 1 + 1, 0, none⟩) 0 0) (.slice ua un uc) N [] :=
      ⟨HB1.out.on hg, HO1.out.grown hg, ho.sees, fun c e => (ho.lt c e).2, fun c e => by have h1 := HO1.out.lt c e; intro e2; have h2 := ho.lt c e2; omega⟩
    have HS0 := Lib.hid hs0
    clear hg ho hN hs0 a0 a1 a2 b0 b1 c0 c1 c2 c3
    go_wp2
    go_loopw [11, 28] (fun u i wr => ∃ j : Nat, j ≤ un ∧ i = .int .i64 j ∧ Hid (SC w wr W H m rn n f (.slice xa xn xc) (.slice ca cn cc) (.slice pa pn pc) u (.slice ua un uc) N (choTo N p j))) (fun _ i _ => un - (intOf i).toNat)
    case atStart => exact ⟨0, Nat.zero_le _, rfl, HS0⟩
    case round =>
      rename_i u _ wr
      obtain ⟨j, hj, rfl, HS⟩ := hrel
      by_cases hlt : j < un
      · have hjN : j < N.length := by rw [HUN.out]; exact hlt
        have hjI : (j : Int) < (un : Int) := by omega
        have hj0 : (0 : Int) ≤ (j : Int) := by omega
        obtain ⟨x, hx⟩ : ∃ x, x = N.getD j 0 := ⟨_, rfl⟩
        obtain ⟨b, o, rfl, hcj⟩ := HS.out.sees.at_row (j := j) hjN
        rw [← hx] at hcj
        have HXW : Hid ((Lit.int .i64 x).wf = true) := HWF.out x (by rw [hx, show N.getD j 0 = N[j] by simp [hjN]]; exact List.getElem_mem hjN)
        have hlen : (choTo N p j).length ≤ 1000000000 := Nat.le_trans (choTo_len N p j) (by omega)
        have HLEN := Lib.hid hlen
        obtain ⟨A, hA⟩ : ∃ A : Int, A = (onOf W H X base m rn D n f L P x : Int) := ⟨_, rfl⟩
        obtain ⟨B, hB⟩ : ∃ B, B = daysOf W H X n x := ⟨_, rfl⟩
        have hpx := HPX.out x
        rw [← hA, ← hB] at hpx
        have HY : Hid (A = B → choTo N p (j + 1) = choTo N p j ++ [x]) := fun h => by rw [choTo_yes (by rw [← hx, hpx]; exact decide_eq_true h), hx]
        have HNO : Hid (¬ A = B → choTo N p (j + 1) = choTo N p j) := fun h => choTo_no (by rw [← hx, hpx]; exact decide_eq_false h)
        have HSD := Lib.hid (HS.out.on (grown_drew (World.grownBy.refl wr none)))
        have HON1 := Lib.hid (HON.out _ x HSD.out.h0.grown)
        rw [← hA] at HON1
        have HBQ := Lib.hid hB
        obtain ⟨⟨a0, a1, a2⟩, ⟨b0, b1⟩, c0, c1, c2, c3⟩ := HS.out.h0.cells
        clear hx hjN hlen hA hB hpx
        by_cases hab : A = B
        · have HNX := Lib.hid (HY.out hab)
          have hbe : (A == B) = true := by simpa using hab
          go_wp2_with fail
          refine wp_region_held_drew (S := fun w' => (w'.cell? ⟨w.heap.size, 0, none⟩ = some (.int .i64 W) ∧ w'.cell? ⟨w.heap.size, 1, none⟩ = some (.int .i64 H) ∧ w'.cell? ⟨w.heap.size, 2, none⟩ = some (.slice xa xn xc)) ∧ (w'.cell? ⟨w.heap.size + 1, 0, none⟩ = some (.int .i64 m) ∧ w'.cell? ⟨w.heap.size + 1, 1, none⟩ = some (.int .i64 rn)) ∧ (w'.cell? ⟨w.heap.size + 2, 0, none⟩ = some (.int .i64 n) ∧ w'.cell? ⟨w.heap.size + 2, 1, none⟩ = some (.int .i64 f) ∧ w'.cell? ⟨w.heap.size + 2, 2, none⟩ = some (.slice ca cn cc) ∧ w'.cell? ⟨w.heap.size + 2, 3, none⟩ = some (.slice pa pn pc))) (by kernel_rfl) HSD.out.h0.cells (fun hHeld => ?_)
          refine wpAnyH_take (i := 0) (v := ?_) rfl (by kernel_rfl) (by kernel_rfl) (by kernel_rfl) (fun _ _ _ h => h) (Or.inl ⟨by rfl, ?_⟩) (by assumption) ?_; rotate_left; (focus (intro wS hSw; (try dsimp only at hSw); go_simp <;> with_reducible rfl)); (try simp only [Act.put, List.getElem_toArray, List.getElem_cons_succ, List.getElem_cons_zero, List.setIfInBounds_toArray, List.set_cons_zero, List.set_cons_succ])
          refine wpAnyH_take (i := 1) (v := ?_) rfl (by kernel_rfl) (by kernel_rfl) (by kernel_rfl) (fun _ _ _ h => h) (Or.inl ⟨by rfl, ?_⟩) (by assumption) ?_; rotate_left; (focus (intro wS hSw; (try dsimp only at hSw); go_simp <;> with_reducible rfl)); (try simp only [Act.put, List.getElem_toArray, List.getElem_cons_succ, List.getElem_cons_zero, List.setIfInBounds_toArray, List.set_cons_zero, List.set_cons_succ])
          refine wpAnyH_take (i := 2) (v := ?_) rfl (by kernel_rfl) (by kernel_rfl) (by kernel_rfl) (fun _ _ _ h => h) (Or.inl ⟨by rfl, ?_⟩) (by assumption) ?_; rotate_left; (focus (intro wS hSw; (try dsimp only at hSw); go_simp <;> with_reducible rfl)); (try simp only [Act.put, List.getElem_toArray, List.getElem_cons_succ, List.getElem_cons_zero, List.setIfInBounds_toArray, List.set_cons_zero, List.set_cons_succ])
          refine wpAnyH_take (i := 3) (v := ?_) rfl (by kernel_rfl) (by kernel_rfl) (by kernel_rfl) (fun _ _ _ h => h) (Or.inl ⟨by rfl, ?_⟩) (by assumption) ?_; rotate_left; (focus (intro wS hSw; (try dsimp only at hSw); go_simp <;> with_reducible rfl)); (try simp only [Act.put, List.getElem_toArray, List.getElem_cons_succ, List.getElem_cons_zero, List.setIfInBounds_toArray, List.set_cons_zero, List.set_cons_succ])
          refine wpAnyH_take (i := 4) (v := ?_) rfl (by kernel_rfl) (by kernel_rfl) (by kernel_rfl) (fun _ _ _ h => h) (Or.inl ⟨by rfl, ?_⟩) (by assumption) ?_; rotate_left; (focus (intro wS hSw; (try dsimp only at hSw); go_simp <;> with_reducible rfl)); (try simp only [Act.put, List.getElem_toArray, List.getElem_cons_succ, List.getElem_cons_zero, List.setIfInBounds_toArray, List.set_cons_zero, List.set_cons_succ])
          refine wpAnyH_take (i := 5) (v := ?_) rfl (by kernel_rfl) (by kernel_rfl) (by kernel_rfl) (fun _ _ _ h => h) (Or.inl ⟨by rfl, ?_⟩) (by assumption) ?_; rotate_left; (focus (intro wS hSw; (try dsimp only at hSw); go_simp <;> with_reducible rfl)); (try simp only [Act.put, List.getElem_toArray, List.getElem_cons_succ, List.getElem_cons_zero, List.setIfInBounds_toArray, List.set_cons_zero, List.set_cons_succ])
          refine wpAnyH_take (i := 7) (v := ?_) rfl (by kernel_rfl) (by kernel_rfl) (by kernel_rfl) (fun _ _ _ h => h) (Or.inl ⟨by rfl, ?_⟩) (by assumption) ?_; rotate_left; (focus (intro wS hSw; (try dsimp only at hSw); go_simp <;> with_reducible rfl)); (try simp only [Act.put, List.getElem_toArray, List.getElem_cons_succ, List.getElem_cons_zero, List.setIfInBounds_toArray, List.set_cons_zero, List.set_cons_succ])
          refine wpAnyH_take (i := 8) (v := ?_) rfl (by kernel_rfl) (by kernel_rfl) (by kernel_rfl) (fun _ _ _ h => h) (Or.inl ⟨by rfl, ?_⟩) (by assumption) ?_; rotate_left; (focus (intro wS hSw; (try dsimp only at hSw); go_simp <;> with_reducible rfl)); (try simp only [Act.put, List.getElem_toArray, List.getElem_cons_succ, List.getElem_cons_zero, List.setIfInBounds_toArray, List.set_cons_zero, List.set_cons_succ])
          refine wpAnyH_take (i := 9) (v := ?_) rfl (by kernel_rfl) (by kernel_rfl) (by kernel_rfl) (fun _ _ _ h => h) (Or.inl ⟨by rfl, ?_⟩) (by assumption) ?_; rotate_left; (focus (intro wS hSw; (try dsimp only at hSw); go_simp <;> with_reducible rfl)); (try simp only [Act.put, List.getElem_toArray, List.getElem_cons_succ, List.getElem_cons_zero, List.setIfInBounds_toArray, List.set_cons_zero, List.set_cons_succ])
          refine wpAnyH_take (i := 10) (v := ?_) rfl (by kernel_rfl) (by kernel_rfl) (by kernel_rfl) (fun _ _ _ h => h) (Or.inl ⟨by rfl, ?_⟩) (by assumption) ?_; rotate_left; (focus (intro wS hSw; (try dsimp only at hSw); go_simp <;> with_reducible rfl)); (try simp only [Act.put, List.getElem_toArray, List.getElem_cons_succ, List.getElem_cons_zero, List.setIfInBounds_toArray, List.set_cons_zero, List.set_cons_succ])
          refine wpAnyH_ready (rs := [6]) (by kernel_rfl) (by simp) ?_; refine AllReadyH.cons rfl (fun K hK => ?_) AllReadyH.nil; go_simp; (go_at_call 85; refine HON1.out.mono ?_; rintro e w4 ⟨rfl, hg⟩; have HS4 := Lib.hid (HSD.out.on hg); clear hg; have HD2 := Lib.hid (HDAY.out _ x HS4.out.h0.grown))
          refine hK.out _ _ ?_ (fun hHeld => ?_)
          · exact HS4.out.h0.cells
          clear hK K
          (try simp only [Act.put, List.getElem_toArray, List.getElem_cons_succ, List.getElem_cons_zero, List.setIfInBounds_toArray, List.set_cons_zero, List.set_cons_succ])
          refine wpAnyH_ready (rs := [11]) (by kernel_rfl) (by simp) ?_; refine AllReadyH.cons rfl (fun K hK => ?_) AllReadyH.nil; go_simp; (go_at_call 80; refine HD2.out.mono ?_; rintro e w5 ⟨rfl, hg⟩; rw [← HBQ.out]; have HS5 := Lib.hid (HS4.out.on hg); clear hg a0 a1 a2 b0 b1 c0 c1 c2 c3 hcj)
          refine hK.out _ _ ?_ (fun hHeld => ?_)
          · exact HS5.out.h0.cells
          clear hK K
          (try simp only [Act.put, List.getElem_toArray, List.getElem_cons_succ, List.getElem_cons_zero, List.setIfInBounds_toArray, List.set_cons_zero, List.set_cons_succ])
          refine wpAnyH_take (i := 12) (v := ?_) rfl (by kernel_rfl) (by kernel_rfl) (by kernel_rfl) (fun _ _ _ h => h) (Or.inl ⟨by rfl, ?_⟩) (by assumption) ?_; rotate_left; (focus (intro wS hSw; (try dsimp only at hSw); go_simp <;> with_reducible rfl)); (try simp only [Act.put, List.getElem_toArray, List.getElem_cons_succ, List.getElem_cons_zero, List.setIfInBounds_toArray, List.set_cons_zero, List.set_cons_succ])
          refine wpAnyH_done (by kernel_rfl) ?_ _
          (try simp only [Act.put, List.getElem_toArray, List.getElem_cons_succ, List.getElem_cons_zero, List.setIfInBounds_toArray, List.set_cons_zero, List.set_cons_succ])
          subst hab
          go_wp2_with (at_builtin; go_loud (refine wpList_append_one_at _ rfl _ _ 22 rfl (w.heap.size + 1 + 1 + 1) 3 i0 (.int .i64 0) 8 Tryz.underlying22 hi hz0 hz1 hz2 rfl .i64 _ (choTo N p j) rfl HS5.out.own x rfl HXW.out (by have := HLEN.out; omega) (by decide) HS5.out.h0.party.lt ?_); intro v4 w4 hown4 hgrow4 hpl4; have HS6 := Lib.hid (HS5.out.more hown4 hgrow4 hpl4); clear hown4 hgrow4 hpl4)
          go_roundw
          case rel => exact ⟨j + 1, by omega, by go_num, by rw [HNX.out]; exact HS6⟩
          case measure => simp [intOf]; omega
        · have HNX := Lib.hid (HNO.out hab)
          have hbe : (A == B) = false := by simpa using hab
          go_wp2_with fail
          refine wp_region_held_drew (S := fun w' => (w'.cell? ⟨w.heap.size, 0, none⟩ = some (.int .i64 W) ∧ w'.cell? ⟨w.heap.size, 1, none⟩ = some (.int .i64 H) ∧ w'.cell? ⟨w.heap.size, 2, none⟩ = some (.slice xa xn xc)) ∧ (w'.cell? ⟨w.heap.size + 1, 0, none⟩ = some (.int .i64 m) ∧ w'.cell? ⟨w.heap.size + 1, 1, none⟩ = some (.int .i64 rn)) ∧ (w'.cell? ⟨w.heap.size + 2, 0, none⟩ = some (.int .i64 n) ∧ w'.cell? ⟨w.heap.size + 2, 1, none⟩ = some (.int .i64 f) ∧ w'.cell? ⟨w.heap.size + 2, 2, none⟩ = some (.slice ca cn cc) ∧ w'.cell? ⟨w.heap.size + 2, 3, none⟩ = some (.slice pa pn pc))) (by kernel_rfl) HSD.out.h0.cells (fun hHeld => ?_)
          refine wpAnyH_take (i := 0) (v := ?_) rfl (by kernel_rfl) (by kernel_rfl) (by kernel_rfl) (fun _ _ _ h => h) (Or.inl ⟨by rfl, ?_⟩) (by assumption) ?_; rotate_left; (focus (intro wS hSw; (try dsimp only at hSw); go_simp <;> with_reducible rfl)); (try simp only [Act.put, List.getElem_toArray, List.getElem_cons_succ, List.getElem_cons_zero, List.setIfInBounds_toArray, List.set_cons_zero, List.set_cons_succ])
          refine wpAnyH_take (i := 1) (v := ?_) rfl (by kernel_rfl) (by kernel_rfl) (by kernel_rfl) (fun _ _ _ h => h) (Or.inl ⟨by rfl, ?_⟩) (by assumption) ?_; rotate_left; (focus (intro wS hSw; (try dsimp only at hSw); go_simp <;> with_reducible rfl)); (try simp only [Act.put, List.getElem_toArray, List.getElem_cons_succ, List.getElem_cons_zero, List.setIfInBounds_toArray, List.set_cons_zero, List.set_cons_succ])
          refine wpAnyH_take (i := 2) (v := ?_) rfl (by kernel_rfl) (by kernel_rfl) (by kernel_rfl) (fun _ _ _ h => h) (Or.inl ⟨by rfl, ?_⟩) (by assumption) ?_; rotate_left; (focus (intro wS hSw; (try dsimp only at hSw); go_simp <;> with_reducible rfl)); (try simp only [Act.put, List.getElem_toArray, List.getElem_cons_succ, List.getElem_cons_zero, List.setIfInBounds_toArray, List.set_cons_zero, List.set_cons_succ])
          refine wpAnyH_take (i := 3) (v := ?_) rfl (by kernel_rfl) (by kernel_rfl) (by kernel_rfl) (fun _ _ _ h => h) (Or.inl ⟨by rfl, ?_⟩) (by assumption) ?_; rotate_left; (focus (intro wS hSw; (try dsimp only at hSw); go_simp <;> with_reducible rfl)); (try simp only [Act.put, List.getElem_toArray, List.getElem_cons_succ, List.getElem_cons_zero, List.setIfInBounds_toArray, List.set_cons_zero, List.set_cons_succ])
          refine wpAnyH_take (i := 4) (v := ?_) rfl (by kernel_rfl) (by kernel_rfl) (by kernel_rfl) (fun _ _ _ h => h) (Or.inl ⟨by rfl, ?_⟩) (by assumption) ?_; rotate_left; (focus (intro wS hSw; (try dsimp only at hSw); go_simp <;> with_reducible rfl)); (try simp only [Act.put, List.getElem_toArray, List.getElem_cons_succ, List.getElem_cons_zero, List.setIfInBounds_toArray, List.set_cons_zero, List.set_cons_succ])
          refine wpAnyH_take (i := 5) (v := ?_) rfl (by kernel_rfl) (by kernel_rfl) (by kernel_rfl) (fun _ _ _ h => h) (Or.inl ⟨by rfl, ?_⟩) (by assumption) ?_; rotate_left; (focus (intro wS hSw; (try dsimp only at hSw); go_simp <;> with_reducible rfl)); (try simp only [Act.put, List.getElem_toArray, List.getElem_cons_succ, List.getElem_cons_zero, List.setIfInBounds_toArray, List.set_cons_zero, List.set_cons_succ])
          refine wpAnyH_take (i := 7) (v := ?_) rfl (by kernel_rfl) (by kernel_rfl) (by kernel_rfl) (fun _ _ _ h => h) (Or.inl ⟨by rfl, ?_⟩) (by assumption) ?_; rotate_left; (focus (intro wS hSw; (try dsimp only at hSw); go_simp <;> with_reducible rfl)); (try simp only [Act.put, List.getElem_toArray, List.getElem_cons_succ, List.getElem_cons_zero, List.setIfInBounds_toArray, List.set_cons_zero, List.set_cons_succ])
          refine wpAnyH_take (i := 8) (v := ?_) rfl (by kernel_rfl) (by kernel_rfl) (by kernel_rfl) (fun _ _ _ h => h) (Or.inl ⟨by rfl, ?_⟩) (by assumption) ?_; rotate_left; (focus (intro wS hSw; (try dsimp only at hSw); go_simp <;> with_reducible rfl)); (try simp only [Act.put, List.getElem_toArray, List.getElem_cons_succ, List.getElem_cons_zero, List.setIfInBounds_toArray, List.set_cons_zero, List.set_cons_succ])
          refine wpAnyH_take (i := 9) (v := ?_) rfl (by kernel_rfl) (by kernel_rfl) (by kernel_rfl) (fun _ _ _ h => h) (Or.inl ⟨by rfl, ?_⟩) (by assumption) ?_; rotate_left; (focus (intro wS hSw; (try dsimp only at hSw); go_simp <;> with_reducible rfl)); (try simp only [Act.put, List.getElem_toArray, List.getElem_cons_succ, List.getElem_cons_zero, List.setIfInBounds_toArray, List.set_cons_zero, List.set_cons_succ])
          refine wpAnyH_take (i := 10) (v := ?_) rfl (by kernel_rfl) (by kernel_rfl) (by kernel_rfl) (fun _ _ _ h => h) (Or.inl ⟨by rfl, ?_⟩) (by assumption) ?_; rotate_left; (focus (intro wS hSw; (try dsimp only at hSw); go_simp <;> with_reducible rfl)); (try simp only [Act.put, List.getElem_toArray, List.getElem_cons_succ, List.getElem_cons_zero, List.setIfInBounds_toArray, List.set_cons_zero, List.set_cons_succ])
          refine wpAnyH_ready (rs := [6]) (by kernel_rfl) (by simp) ?_; refine AllReadyH.cons rfl (fun K hK => ?_) AllReadyH.nil; go_simp; (go_at_call 85; refine HON1.out.mono ?_; rintro e w4 ⟨rfl, hg⟩; have HS4 := Lib.hid (HSD.out.on hg); clear hg; have HD2 := Lib.hid (HDAY.out _ x HS4.out.h0.grown))
          refine hK.out _ _ ?_ (fun hHeld => ?_)
          · exact HS4.out.h0.cells
          clear hK K
          (try simp only [Act.put, List.getElem_toArray, List.getElem_cons_succ, List.getElem_cons_zero, List.setIfInBounds_toArray, List.set_cons_zero, List.set_cons_succ])
          refine wpAnyH_ready (rs := [11]) (by kernel_rfl) (by simp) ?_; refine AllReadyH.cons rfl (fun K hK => ?_) AllReadyH.nil; go_simp; (go_at_call 80; refine HD2.out.mono ?_; rintro e w5 ⟨rfl, hg⟩; rw [← HBQ.out]; have HS5 := Lib.hid (HS4.out.on hg); clear hg a0 a1 a2 b0 b1 c0 c1 c2 c3 hcj)
          refine hK.out _ _ ?_ (fun hHeld => ?_)
          · exact HS5.out.h0.cells
          clear hK K
          (try simp only [Act.put, List.getElem_toArray, List.getElem_cons_succ, List.getElem_cons_zero, List.setIfInBounds_toArray, List.set_cons_zero, List.set_cons_succ])
          refine wpAnyH_take (i := 12) (v := ?_) rfl (by kernel_rfl) (by kernel_rfl) (by kernel_rfl) (fun _ _ _ h => h) (Or.inl ⟨by rfl, ?_⟩) (by assumption) ?_; rotate_left; (focus (intro wS hSw; (try dsimp only at hSw); go_simp <;> with_reducible rfl)); (try simp only [Act.put, List.getElem_toArray, List.getElem_cons_succ, List.getElem_cons_zero, List.setIfInBounds_toArray, List.set_cons_zero, List.set_cons_succ])
          refine wpAnyH_done (by kernel_rfl) ?_ _
          (try simp only [Act.put, List.getElem_toArray, List.getElem_cons_succ, List.getElem_cons_zero, List.setIfInBounds_toArray, List.set_cons_zero, List.set_cons_succ])
          go_wp2
          go_roundw
          case rel => exact ⟨j + 1, by omega, by go_num, by rw [HNX.out]; exact HS5⟩
          case measure => simp [intOf]; omega
      · have hju : un = j := by omega
        subst hju
        have HR : Hid (safe W H X base m rn D n f L P = choTo N p un) := by show _ = _; rw [HSF.out, HUN.out]
        go_wp2
        go_ret
        exact ⟨_, rfl, by rw [HR.out]; exact HS.out.own.lower (by omega), HS.out.h0.grown⟩

set_option maxRecDepth 20000 in
set_option maxHeartbeats 4000000 in
theorem sSafe_any (w : World) (W H base m rn n f : Int) (xv dv cv pv : Value) (X : List Int) (D : List (Int × Int)) (L : List Mem) (P : List Bool) (hm : (Lit.int .i64 m).wf = true) (hrn : (Lit.int .i64 rn).wf = true) (hf : (Lit.int .i64 f).wf = true)
    (hx : Sees .i64 w xv X) (hd : SeesG encP w dv D) (hc : SeesG encM w cv L) (hp : SeesG encB w pv P) (hL : L.length ≤ 1000000000) (hP : P.length ≤ 50000000) (hX : X.length ≤ 1000000000) :
    Calls Tryz.prog 32 #[.agg #[.int .i64 W, .int .i64 H, xv], .int .i64 base, .agg #[.int .i64 m, .int .i64 rn], dv, .agg #[.int .i64 n, .int .i64 f, cv, pv]] w fun e w' => ∃ u, e = .returned u ∧ Rw.Own .i64 3 w' w.heap.size u (safe W H X base m rn D n f L P) ∧ w.grownBy w' none := by
  obtain ⟨xa, xn, xc, rfl, HXN⟩ := hx.shape
  obtain ⟨da, dn, dc, rfl, HDN⟩ := hd.shape
  obtain ⟨ca, cn, cc, rfl, HCN⟩ := hc.shape
  obtain ⟨pa, pn, pc, rfl, HPN⟩ := hp.shape
  have hb0 := H0.start (w := w) (W := W) (H := H) (m := m) (rn := rn) (n := n) (f := f) (xv := .slice xa xn xc) (cv := .slice ca cn cc) (pv := .slice pa pn pc)
  have g3 := World.grownBy_alloc (((w.alloc (.cells #[.int .i64 W, .int .i64 H, .slice xa xn xc] 37 (0, 0))).alloc (.cells #[.int .i64 m, .int .i64 rn] 38 (0, 0))).alloc (.cells #[.int .i64 n, .int .i64 f, .slice ca cn cc, .slice pa pn pc] 42 (0, 0))) (.cells #[] 3 (0, 0)) (none : Option Nat)
  have o3 : Rw.Own .i64 3 ((((w.alloc (.cells #[.int .i64 W, .int .i64 H, .slice xa xn xc] 37 (0, 0))).alloc (.cells #[.int .i64 m, .int .i64 rn] 38 (0, 0))).alloc (.cells #[.int .i64 n, .int .i64 f, .slice ca cn cc, .slice pa pn pc] 42 (0, 0))).alloc (.cells #[] 3 (0, 0))) (w.heap.size + 1 + 1 + 1) (.slice (some ⟨w.heap.size + 1 + 1 + 1, 0, none⟩) 0 0) [] := by
    have := own_empty (k := .i64) (E := 3) (((w.alloc (.cells #[.int .i64 W, .int .i64 H, .slice xa xn xc] 37 (0, 0))).alloc (.cells #[.int .i64 m, .int .i64 rn] 38 (0, 0))).alloc (.cells #[.int .i64 n, .int .i64 f, .slice ca cn cc, .slice pa pn pc] 42 (0, 0)))
    simpa using this
  have HB0 := Lib.hid (hb0.on g3)
  have HO3 := Lib.hid o3
  have HCAN := Lib.hid fun w' (hg : w.grownBy w' none) => sCan_any w' W H base m rn n f (.slice xa xn xc) (.slice da dn dc) (.slice ca cn cc) (.slice pa pn pc) X D L P hm hrn hf (hx.grown hg) (hd.grown hg) (hc.grown hg) (hp.grown hg)
  have HON := Lib.hid fun w' x (hg : w.grownBy w' none) => sOn_any w' W H base m rn n f x (.slice xa xn xc) (.slice da dn dc) (.slice ca cn cc) (.slice pa pn pc) X D L P hm hrn hf (hx.grown hg) (hd.grown hg) (hc.grown hg) (hp.grown hg) hL hP
  have HDAY := Lib.hid fun w' x (hg : w.grownBy w' none) => WayS.sDays_any w' W H n x (.slice xa xn xc) X (hx.grown hg)
  have HX9 := Lib.hid hx
  obtain ⟨i0, hi, hz0, hz1, hz2⟩ := info_parts info_int
  have hxn : xn ≤ 1000000000 := by rw [← HXN.out]; exact hX
  obtain ⟨⟨a0, a1, a2⟩, ⟨b0, b1⟩, c0, c1, c2, c3⟩ := HB0.out.cells
  have hs0 : SC w ((((w.alloc (.cells #[.int .i64 W, .int .i64 H, .slice xa xn xc] 37 (0, 0))).alloc (.cells #[.int .i64 m, .int .i64 rn] 38 (0, 0))).alloc (.cells #[.int .i64 n, .int .i64 f, .slice ca cn cc, .slice pa pn pc] 42 (0, 0))).alloc (.cells #[] 3 (0, 0))) W H m rn n f (.slice xa xn xc) (.slice ca cn cc) (.slice pa pn pc) (.slice (some ⟨w.heap.size + 1 + 1 + 1, 0, none⟩) 0 0) (.slice none 0 0) [] [] :=
    ⟨HB0.out, HO3.out, ⟨none, 0, rfl, by simp, by unfold maxLen; omega, fun _ => rfl, (fun n hn => by cases hn), .inl rfl⟩, (fun c e => by cases e), (fun c e h => by cases h)⟩
  have HS0 := Lib.hid hs0
  cases hl : decide (0 ≤ left W H X base m rn D n f L P)
  · have HR := Lib.hid (safe_no hl)
    rw [hl] at HCAN
    clear hx hd hc hp hm hrn hf hL hP hX hb0 g3 o3 hl hs0
    go_enter Tryz.func32, Tryz.ntmps32
    go_wp2
    generalize ((((w.alloc (.cells #[.int .i64 W, .int .i64 H, .slice xa xn xc] 37 (0, 0))).alloc (.cells #[.int .i64 m, .int .i64 rn] 38 (0, 0))).alloc (.cells #[.int .i64 n, .int .i64 f, .slice ca cn cc, .slice pa pn pc] 42 (0, 0))).alloc (.cells #[] 3 (0, 0))) = W0 at *
    go_loopw [11, 12] (fun u i wr => u = .slice (some ⟨w.heap.size + 1 + 1 + 1, 0, none⟩) 0 0 ∧ i = .int .i64 0 ∧ wr = W0) (fun _ _ _ => 0)
    case atStart => exact ⟨rfl, rfl, rfl⟩
    case round =>
      obtain ⟨rfl, rfl, rfl⟩ := hrel
      by_cases h0 : 0 < xn
      · have h0I : (0 : Int) < (xn : Int) := by omega
        go_wp2_with fail
        refine (HCAN.out _ HB0.out.grown).mono ?_
        rintro e w1 ⟨rfl, hg⟩
        have HB1 := Lib.hid (HB0.out.on hg)
        have HO1 := Lib.hid (HO3.out.grown hg)
        clear hg
        go_wp2
        go_ret
        exact ⟨_, rfl, by rw [HR.out]; exact HO1.out.lower (by omega), HB1.out.grown⟩
      · have h0I : ¬ ((0 : Int) < (xn : Int)) := by omega
        go_wp2
        go_ret
        exact ⟨_, rfl, by rw [HR.out]; exact HO3.out.lower (by omega), HB0.out.grown⟩
  · have hsf := safe_yes hl
    rw [hl] at HCAN
    obtain ⟨p, hpE⟩ : ∃ p : Int → Bool, p = hitS W H X base m rn D n f L P := ⟨_, rfl⟩
    have HPX : Hid (∀ c, p c = (decide (0 ≤ daysOf W H X n c) && decide ((onOf W H X base m rn D n f L P c : Int) = daysOf W H X n c))) := fun c => by rw [hpE]; rfl
    obtain ⟨N, hN⟩ : ∃ N, N = cellsOf X.length := ⟨_, rfl⟩
    have hNl : N.length = xn := by rw [hN, cellsOf_len]; exact HXN.out
    have HSF : Hid (safe W H X base m rn D n f L P = choTo N p xn) := by
      show _ = _
      rw [hsf, choTo_filter _ (by omega), ← hNl, List.take_length, hpE, hN]
    have HNA : Hid (∀ j, j < xn → N.getD j 0 = (j : Int)) := fun j h => by rw [hN]; exact cellsOf_at (by rw [HXN.out]; exact h)
    clear hx hd hc hp hm hrn hf hL hP hX hb0 g3 o3 hl hs0 hsf hpE hN hNl
    go_enter Tryz.func32, Tryz.ntmps32
    go_wp2
    generalize ((((w.alloc (.cells #[.int .i64 W, .int .i64 H, .slice xa xn xc] 37 (0, 0))).alloc (.cells #[.int .i64 m, .int .i64 rn] 38 (0, 0))).alloc (.cells #[.int .i64 n, .int .i64 f, .slice ca cn cc, .slice pa pn pc] 42 (0, 0))).alloc (.cells #[] 3 (0, 0))) = W0 at *
    clear a0 a1 a2 b0 b1 c0 c1 c2 c3
    go_loopw [11, 12] (fun u i wr => ∃ j : Nat, j ≤ xn ∧ i = .int .i64 j ∧ Hid (SC w wr W H m rn n f (.slice xa xn xc) (.slice ca cn cc) (.slice pa pn pc) u (.slice none 0 0) [] (choTo N p j))) (fun _ i _ => xn - (intOf i).toNat)
    case atStart => exact ⟨0, Nat.zero_le _, rfl, HS0⟩
    case round =>
      rename_i u _ wr
      obtain ⟨j, hj, rfl, HS⟩ := hrel
      obtain ⟨⟨a0, a1, a2⟩, ⟨b0, b1⟩, c0, c1, c2, c3⟩ := HS.out.h0.cells
      by_cases hlt : j < xn
      · have hjI : (j : Int) < (xn : Int) := by omega
        have hj0 : (0 : Int) ≤ (j : Int) := by omega
        have HXW : Hid ((Lit.int .i64 (j : Int)).wf = true) := i64_mk (by omega)
        have hlen : (choTo N p j).length ≤ 1000000000 := Nat.le_trans (choTo_len N p j) (by omega)
        have HLEN := Lib.hid hlen
        obtain ⟨A, hA⟩ : ∃ A : Int, A = (onOf W H X base m rn D n f L P (j : Int) : Int) := ⟨_, rfl⟩
        obtain ⟨B, hB⟩ : ∃ B, B = daysOf W H X n (j : Int) := ⟨_, rfl⟩
        have hpx := HPX.out (j : Int)
        have hna := HNA.out j hlt
        rw [← hA, ← hB] at hpx
        have HY : Hid (0 ≤ B → A = B → choTo N p (j + 1) = choTo N p j ++ [(j : Int)]) := fun h1 h => by rw [choTo_yes (by rw [hna, hpx, decide_eq_true h1, decide_eq_true h]; rfl), hna]
        have HNO : Hid (¬ A = B → choTo N p (j + 1) = choTo N p j) := fun h => choTo_no (by rw [hna, hpx, decide_eq_false h]; simp)
        have HNG : Hid (¬ 0 ≤ B → choTo N p (j + 1) = choTo N p j) := fun h => choTo_no (by rw [hna, hpx, decide_eq_false h]; rfl)
        have HAQ := Lib.hid hA
        have HBQ := Lib.hid hB
        clear hlen hA hB hpx hna
        go_wp2_with fail
        refine (HCAN.out _ HS.out.h0.grown).mono ?_
        rintro e w1 ⟨rfl, hg⟩
        have HS1 := Lib.hid (HS.out.on hg)
        clear hg HS a0 a1 a2 b0 b1 c0 c1 c2 c3
        obtain ⟨⟨a0, a1, a2⟩, ⟨b0, b1⟩, c0, c1, c2, c3⟩ := HS1.out.h0.cells
        go_wp2_with fail
        refine (HDAY.out _ (j : Int) HS1.out.h0.grown).mono ?_
        rintro e w2 ⟨rfl, hg⟩
        rw [← HBQ.out]
        have HS2 := Lib.hid (HS1.out.on hg)
        clear hg HS1 a0 a1 a2 b0 b1 c0 c1 c2 c3
        obtain ⟨⟨a0, a1, a2⟩, ⟨b0, b1⟩, c0, c1, c2, c3⟩ := HS2.out.h0.cells
        by_cases hb : 0 ≤ B
        · by_cases hab : A = B
          · have HNX := Lib.hid (HY.out hb hab)
            have hbe : (A == B) = true := by simpa using hab
            go_wp2_with fail
            refine (HON.out _ (j : Int) HS2.out.h0.grown).mono ?_
            rintro e w3 ⟨rfl, hg⟩
            rw [← HAQ.out]
            have HS5 := Lib.hid (HS2.out.on hg)
            clear hg a0 a1 a2 b0 b1 c0 c1 c2 c3
            subst hab
            go_wp2_with (at_builtin; go_loud (refine wpList_append_one_at _ rfl _ _ 22 rfl (w.heap.size + 1 + 1 + 1) 3 i0 (.int .i64 0) 8 Tryz.underlying22 hi hz0 hz1 hz2 rfl .i64 _ (choTo N p j) rfl HS5.out.own (j : Int) rfl HXW.out (by have := HLEN.out; omega) (by decide) HS5.out.h0.party.lt ?_); intro v4 w4 hown4 hgrow4 hpl4; have HS6 := Lib.hid (HS5.out.more hown4 hgrow4 hpl4); clear hown4 hgrow4 hpl4)
            go_roundw
            case rel => exact ⟨j + 1, by omega, by go_num, by rw [HNX.out]; exact HS6⟩
            case measure => simp [intOf]; omega
          · have HNX := Lib.hid (HNO.out hab)
            have hbe : (A == B) = false := by simpa using hab
            go_wp2_with fail
            refine (HON.out _ (j : Int) HS2.out.h0.grown).mono ?_
            rintro e w3 ⟨rfl, hg⟩
            rw [← HAQ.out]
            have HS5 := Lib.hid (HS2.out.on hg)
            clear hg a0 a1 a2 b0 b1 c0 c1 c2 c3
            go_wp2
            go_roundw
            case rel => exact ⟨j + 1, by omega, by go_num, by rw [HNX.out]; exact HS5⟩
            case measure => simp [intOf]; omega
        · have HNX := Lib.hid (HNG.out (by omega))
          go_wp2
          go_roundw
          case rel => exact ⟨j + 1, by omega, by go_num, by rw [HNX.out]; exact HS2⟩
          case measure => simp [intOf]; omega
      · have hju : xn = j := by omega
        have hnI : ¬ ((j : Int) < (xn : Int)) := by omega
        have HR : Hid (safe W H X base m rn D n f L P = choTo N p j) := by show _ = _; rw [HSF.out, hju]
        go_wp2
        go_ret
        exact ⟨_, rfl, by rw [HR.out]; exact HS.out.own.lower (by omega), HS.out.h0.grown⟩
end Go.Proofs.YtonalkamfgpokaaGreat.Saf
