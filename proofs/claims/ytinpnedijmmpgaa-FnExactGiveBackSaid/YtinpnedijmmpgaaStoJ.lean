/- Contracts of the program's store: a copy of stocks with one of them at hand. -/
import Derived.Test.YtinpnedijmmpgaaStoI
namespace Go.Proofs.Ytinpnedijmmpgaa.StoI
open Go.RowKit Kit Rw Rg Sto Md

section
variable {w : World} {b : Nat} {x y z u v a : Value} {t : TypeId}
theorem five_set0 (h : Box w b #[x, y, z, u, v] t) : Box (w.setCell ⟨b, 0, none⟩ a) b #[a, y, z, u, v] t := box_set h 0 a
theorem five_set1 (h : Box w b #[x, y, z, u, v] t) : Box (w.setCell ⟨b, 1, none⟩ a) b #[x, a, z, u, v] t := box_set h 1 a
theorem five_set2 (h : Box w b #[x, y, z, u, v] t) : Box (w.setCell ⟨b, 2, none⟩ a) b #[x, y, a, u, v] t := box_set h 2 a
theorem five_set4 (h : Box w b #[x, y, z, u, v] t) : Box (w.setCell ⟨b, 4, none⟩ a) b #[x, y, z, u, a] t := box_set h 4 a
end
/-- The store of some stock, with a copy of all of them. -/
abbrev store (x : I3) (u : Value) (p : Int) : Array Value := #[.int .i64 x.x0, .int .i64 x.x1, .int .i64 x.x2, u, .int .i64 p]
def placeAt (L : List I3) (t : Int) : Int := if 0 ≤ find L t then find L t else 0
theorem placeAt_no {L : List I3} {t : Int} (h : find L t = -1) : placeAt L t = 0 := by unfold placeAt; rw [h]; rfl
theorem placeAt_yes {L : List I3} {t : Int} {j : Nat} (h : find L t = j) : placeAt L t = j := by unfold placeAt; rw [h, if_pos (Int.natCast_nonneg j)]

set_option maxRecDepth 20000 in
set_option maxHeartbeats 2000000 in
theorem storeFor_any (w : World) (v : Value) (t : Int) (L : List I3) (hv : SeesG enc3 w v L) (hn : L.length ≤ 1000000000) :
    Calls Try.prog 53 #[v, .int .i64 t] w fun e w' => ∃ b, e = .returned (.pointer (some ⟨b, 0, none⟩)) ∧ ∃ u, Box w' b (store (stock L t) u (placeAt L t)) 54 ∧ OwnG enc3 46 w' w.heap.size u L ∧ w.heap.size ≤ b ∧ u.ownBlock ≠ some b ∧ w.grownBy w' none := by
  have hl := hv.len
  have hg0 := World.grownBy_alloc w (.cells #[.int .i64 t] 3 (0, 0)) (none : Option Nat)
  have hbx := box_new w #[.int .i64 t] 3
  have HC := Lib.hid (clone_any _ v L (hv.grown hg0) hn)
  have HI := Lib.hid (fun w' (hg : (w.alloc (.cells #[.int .i64 t] 3 (0, 0))).grownBy w' none) => indexF_any w' v w.heap.size t L (hv.grown (grownN_trans hg0 hg)) ((hbx.grown hg).cell 0))
  have HA := Lib.hid (fun w' (hg : w.grownBy w' none) => iAreStocks_any w' v L (hv.grown hg))
  have HV := Lib.hid hv
  have HG0 := Lib.hid hg0
  clear hbx
  obtain ⟨a, cap, rfl, _⟩ := hv
  go_enter Try.func53, Try.ntmps53
  go_wp2_with fail
  generalize w.alloc (.cells #[.int .i64 t] 3 (0, 0)) = w0 at *
  refine HC.out.mono ?_
  rintro e w1 ⟨u, rfl, ho, hg⟩
  obtain ⟨ua, un, uc, rfl, _⟩ := ho.sees.shape
  obtain ⟨u, hu⟩ : ∃ u, u = Value.slice ua un uc := ⟨_, rfl⟩
  rw [← hu] at ho
  have hs0 := hg0.size
  have hg2 := World.grownBy_alloc w1 (.cells #[.int .i64 0, .int .i64 0, .int .i64 0, u, .int .i64 0] 54 (0, 0)) (none : Option Nat)
  have HB := Lib.hid (box_new w1 #[.int .i64 0, .int .i64 0, .int .i64 0, u, .int .i64 0] 54)
  have HO := Lib.hid ((ho.lower hs0).grown hg2)
  have HUB : Hid (u.ownBlock ≠ some w1.heap.size) := fun e => by have := ho.lt _ e; omega
  have HG1 := Lib.hid (grownN_trans hg hg2)
  have HBS := Lib.hid (show w.heap.size ≤ w1.heap.size from Nat.le_trans hs0 hg.size)
  rw [hu] at HB HO HUB
  clear ho hg hg2 hs0 hg0 HC
  go_wp2_with fail
  rw [← hu] at *
  clear hu
  generalize w1.alloc (.cells #[.int .i64 0, .int .i64 0, .int .i64 0, u, .int .i64 0] 54 (0, 0)) = w2 at *
  generalize w1.heap.size = b at *
  refine (HI.out _ HG1.out).mono ?_
  rintro e w3 ⟨rfl, hg⟩
  have HG3 := Lib.hid (grownN_trans HG0.out (grownN_trans HG1.out hg))
  have HB3 := Lib.hid (HB.out.grown hg)
  have HO3 := Lib.hid (HO.out.grown hg)
  clear hg HI HB HO HG1
  go_wp2_with fail
  refine (HA.out _ HG3.out).mono ?_
  rintro e w4 ⟨rfl, hg⟩
  have HG4 := Lib.hid (grownN_trans HG3.out hg)
  have HB4 := Lib.hid (HB3.out.grown hg)
  have HO4 := Lib.hid (HO3.out.grown hg)
  clear hg HA HB3 HO3 HG3
  cases hs : areSto L
  · have HF : Hid (find L t = -1) := by show _ = _; unfold find; rw [hs]; rfl
    clear hs
    go_wp2
    go_ret
    refine ⟨_, rfl, u, ?_, HO4.out, HBS.out, HUB.out, HG4.out⟩
    rw [stock_no HF.out, placeAt_no HF.out]; exact HB4.out
  · have HF0 : Hid (find L t = place L t 0) := by show _ = _; unfold find; rw [hs]; rfl
    clear hs
    rcases place_of L t 0 with hp | ⟨j, hj, _, hp⟩
    · have HF : Hid (find L t = -1) := by show _ = _; rw [HF0.out, hp]
      rw [hp]
      clear hp
      go_wp2
      go_ret
      refine ⟨_, rfl, u, ?_, HO4.out, HBS.out, HUB.out, HG4.out⟩
      rw [stock_no HF.out, placeAt_no HF.out]; exact HB4.out
    · rw [Nat.zero_add] at hp
      have HF : Hid (find L t = j) := by show _ = _; rw [HF0.out, hp]
      rw [hp]
      clear hp
      obtain ⟨rb, ro, rfl, _, _⟩ := HV.out.at_row hj
      obtain ⟨x, hx⟩ : ∃ x, L.getD j zI3 = x := ⟨_, rfl⟩
      obtain ⟨d0, d1, d2⟩ := at3_in HV.out HG4.out hj hx
      have HX := Lib.hid hx
      clear hx
      obtain ⟨x0, x1, x2⟩ := x
      dsimp only at d0 d1 d2
      have b0 := HB4.out
      have b1 := five_set0 (a := .int .i64 x0) b0
      have b2 := five_set1 (a := .int .i64 x1) b1
      have b3 := five_set2 (a := .int .i64 x2) b2
      have b4 := five_set4 (a := .int .i64 (j : Int)) b3
      have HG5 := Lib.hid (grown_trans (grown_trans (grown_trans (grown_set w4 b 0 (.int .i64 x0)) (grown_set _ b 1 (.int .i64 x1))) (grown_set _ b 2 (.int .i64 x2))) (grown_set _ b 4 (.int .i64 (j : Int))))
      have f0 : w4.cell? ⟨b, 0, none⟩ = some (.int .i64 0) := b0.cell 0
      have f1 : World.cell? _ ⟨b, 1, none⟩ = some (.int .i64 0) := b1.cell 1
      have f2 : World.cell? _ ⟨b, 2, none⟩ = some (.int .i64 0) := b2.cell 2
      have f4 : World.cell? _ ⟨b, 4, none⟩ = some (.int .i64 0) := b3.cell 4
      have z0 := b0.free 0
      have z1 := b1.free 1
      have z2 := b2.free 2
      have z4 := b3.free 4
      have HB5 := Lib.hid b4
      clear b0 b1 b2 b3 b4
      go_wp2
      go_ret
      refine ⟨_, rfl, u, ?_, HO4.out.kept HG5.out (.inr HUB.out), HBS.out, HUB.out, grown_new HG4.out HG5.out (fun c hc => by injection hc with hc; subst hc; exact HBS.out)⟩
      rw [stock_yes HF.out, placeAt_yes HF.out, HX.out]; exact HB5.out

set_option maxRecDepth 20000 in
set_option maxHeartbeats 1000000 in
theorem iHasIn_any (w : World) (v : Value) (t : Int) (L : List I3) (hv : SeesG enc3 w v L) (hn : L.length ≤ 1000000000) :
    Calls Try.prog 21 #[v, .int .i64 t] w fun e w' => e = .returned (.int .i64 (hasIn L t)) ∧ w.grownBy w' none := by
  have HS := Lib.hid (storeFor_any w v t L hv hn)
  obtain ⟨x, hx⟩ : ∃ x, stock L t = x := ⟨_, rfl⟩
  have hb := stock_bd L t
  have HR : Hid (hasIn L t = x.x1 - x.x2) := by show _ = _; unfold hasIn; rw [hx]
  rw [hx] at hb HS
  obtain ⟨x0, x1, x2⟩ := x
  dsimp only at hb
  have hw : IntKind.i64.wrap (x1 - x2) = x1 - x2 := IntWalk.i64_in _ (by omega)
  clear hx hb
  go_enter Try.func21, Try.ntmps21
  go_wp2_with fail
  refine HS.out.mono ?_
  rintro e w1 ⟨b, rfl, u, hB, _, _, _, hg⟩
  have HG := Lib.hid (grownN_trans hg (grown_drew (World.grownBy.refl w1 none)))
  have HB := Lib.hid (hB.grown (grown_drew (World.grownBy.refl w1 none)))
  clear hB hg HS
  go_wp2_with fail
  refine wp_region_held_drew (S := fun w' => w'.cell? ⟨b, 1, none⟩ = some (.int .i64 x1) ∧ w'.cell? ⟨b, 2, none⟩ = some (.int .i64 x2)) (by kernel_rfl) ⟨HB.out.cell 1, HB.out.cell 2⟩ (fun hHeld => ?_)
  refine wpAnyH_take (i := 0) (v := ?_) rfl (by kernel_rfl) (by kernel_rfl) (by kernel_rfl) (fun _ _ _ h => h) (Or.inl ⟨by rfl, ?_⟩) (by assumption) ?_; rotate_left; (focus (intro wS hSw; (try dsimp only at hSw); go_simp <;> with_reducible rfl)); (try simp only [Act.put, List.getElem_toArray, List.getElem_cons_succ, List.getElem_cons_zero, List.setIfInBounds_toArray, List.set_cons_zero, List.set_cons_succ])
  refine wpAnyH_take (i := 1) (v := ?_) rfl (by kernel_rfl) (by kernel_rfl) (by kernel_rfl) (fun _ _ _ h => h) (Or.inl ⟨by rfl, ?_⟩) (by assumption) ?_; rotate_left; (focus (intro wS hSw; (try dsimp only at hSw); go_simp <;> with_reducible rfl)); (try simp only [Act.put, List.getElem_toArray, List.getElem_cons_succ, List.getElem_cons_zero, List.setIfInBounds_toArray, List.set_cons_zero, List.set_cons_succ])
  refine wpAnyH_take (i := 2) (v := ?_) rfl (by kernel_rfl) (by kernel_rfl) (by kernel_rfl) (fun _ _ _ h => h) (Or.inl ⟨by rfl, ?_⟩) (by assumption) ?_; rotate_left; (focus (intro wS hSw; (try dsimp only at hSw); go_simp <;> with_reducible rfl)); (try simp only [Act.put, List.getElem_toArray, List.getElem_cons_succ, List.getElem_cons_zero, List.setIfInBounds_toArray, List.set_cons_zero, List.set_cons_succ])
  refine wpAnyH_take (i := 3) (v := ?_) rfl (by kernel_rfl) (by kernel_rfl) (by kernel_rfl) (fun _ _ _ h => h) (Or.inl ⟨by rfl, ?_⟩) (by assumption) ?_; rotate_left; (focus (intro wS hSw; (try dsimp only at hSw); go_simp <;> with_reducible rfl)); (try simp only [Act.put, List.getElem_toArray, List.getElem_cons_succ, List.getElem_cons_zero, List.setIfInBounds_toArray, List.set_cons_zero, List.set_cons_succ])
  refine wpAnyH_take (i := 4) (v := ?_) rfl (by kernel_rfl) (by kernel_rfl) (by kernel_rfl) (fun _ _ _ h => h) (Or.inl ⟨by rfl, ?_⟩) (by assumption) ?_; rotate_left; (focus (intro wS hSw; (try dsimp only at hSw); go_simp <;> with_reducible rfl)); (try simp only [Act.put, List.getElem_toArray, List.getElem_cons_succ, List.getElem_cons_zero, List.setIfInBounds_toArray, List.set_cons_zero, List.set_cons_succ])
  refine wpAnyH_take (i := 5) (v := ?_) rfl (by kernel_rfl) (by kernel_rfl) (by kernel_rfl) (fun _ _ _ h => h) (Or.inl ⟨by rfl, ?_⟩) (by assumption) ?_; rotate_left; (focus (intro wS hSw; (try dsimp only at hSw); go_simp <;> with_reducible rfl)); (try simp only [Act.put, List.getElem_toArray, List.getElem_cons_succ, List.getElem_cons_zero, List.setIfInBounds_toArray, List.set_cons_zero, List.set_cons_succ])
  refine wpAnyH_take (i := 6) (v := ?_) rfl (by kernel_rfl) (by kernel_rfl) (by kernel_rfl) (fun _ _ _ h => h) (Or.inl ⟨by rfl, ?_⟩) (by assumption) ?_; rotate_left; (focus (intro wS hSw; (try dsimp only at hSw); go_simp <;> with_reducible rfl)); (try simp only [Act.put, List.getElem_toArray, List.getElem_cons_succ, List.getElem_cons_zero, List.setIfInBounds_toArray, List.set_cons_zero, List.set_cons_succ])
  refine wpAnyH_take (i := 7) (v := ?_) rfl (by kernel_rfl) (by kernel_rfl) (by kernel_rfl) (fun _ _ _ h => h) (Or.inl ⟨by rfl, ?_⟩) (by assumption) ?_; rotate_left; (focus (intro wS hSw; (try dsimp only at hSw); go_simp <;> with_reducible rfl)); (try simp only [Act.put, List.getElem_toArray, List.getElem_cons_succ, List.getElem_cons_zero, List.setIfInBounds_toArray, List.set_cons_zero, List.set_cons_succ])
  refine wpAnyH_take (i := 8) (v := ?_) rfl (by kernel_rfl) (by kernel_rfl) (by kernel_rfl) (fun _ _ _ h => h) (Or.inl ⟨by rfl, ?_⟩) (by assumption) ?_; rotate_left; (focus (intro wS hSw; (try dsimp only at hSw); go_simp <;> with_reducible rfl)); (try simp only [Act.put, List.getElem_toArray, List.getElem_cons_succ, List.getElem_cons_zero, List.setIfInBounds_toArray, List.set_cons_zero, List.set_cons_succ])
  refine wpAnyH_take (i := 9) (v := ?_) rfl (by kernel_rfl) (by kernel_rfl) (by kernel_rfl) (fun _ _ _ h => h) (Or.inl ⟨by rfl, ?_⟩) (by assumption) ?_; rotate_left; (focus (intro wS hSw; (try dsimp only at hSw); go_simp <;> with_reducible rfl)); (try simp only [Act.put, List.getElem_toArray, List.getElem_cons_succ, List.getElem_cons_zero, List.setIfInBounds_toArray, List.set_cons_zero, List.set_cons_succ])
  refine wpAnyH_take (i := 10) (v := ?_) rfl (by kernel_rfl) (by kernel_rfl) (by kernel_rfl) (fun _ _ _ h => h) (Or.inl ⟨by rfl, ?_⟩) (by assumption) ?_; rotate_left; (focus (intro wS hSw; (try dsimp only at hSw); go_simp <;> with_reducible rfl)); (try simp only [Act.put, List.getElem_toArray, List.getElem_cons_succ, List.getElem_cons_zero, List.setIfInBounds_toArray, List.set_cons_zero, List.set_cons_succ])
  refine wpAnyH_take (i := 11) (v := ?_) rfl (by kernel_rfl) (by kernel_rfl) (by kernel_rfl) (fun _ _ _ h => h) (Or.inl ⟨by rfl, ?_⟩) (by assumption) ?_; rotate_left; (focus (intro wS hSw; (try dsimp only at hSw); go_simp <;> with_reducible rfl)); (try simp only [Act.put, List.getElem_toArray, List.getElem_cons_succ, List.getElem_cons_zero, List.setIfInBounds_toArray, List.set_cons_zero, List.set_cons_succ])
  refine wpAnyH_done (by kernel_rfl) ?_ _
  (try simp only [Act.put, List.getElem_toArray, List.getElem_cons_succ, List.getElem_cons_zero, List.setIfInBounds_toArray, List.set_cons_zero, List.set_cons_succ])
  go_wp2
  go_ret
  exact ⟨ret_i64 HR.out.symm, HG.out⟩

set_option maxRecDepth 20000 in
set_option maxHeartbeats 1000000 in
theorem iAllOut_any (w : World) (v : Value) (L : List I3) (hv : SeesG enc3 w v L) :
    Calls Try.prog 31 #[v] w fun e w' => e = .returned (.int .i64 (allOut L)) ∧ w.grownBy w' none := by
  have hl := hv.len
  have HV := Lib.hid hv
  have HA := Lib.hid (iAreStocks_any w v L hv)
  obtain ⟨a, cap, rfl, _⟩ := hv
  cases hs : areSto L
  · have HR : Hid (allOut L = 0) := by show _ = _; unfold allOut; rw [hs]; rfl
    rw [hs] at HA
    clear hs
    go_enter Try.func31, Try.ntmps31
    go_wp2_with fail
    refine HA.out.mono ?_
    rintro e w2 ⟨rfl, hg⟩
    have HG := Lib.hid hg
    clear hg
    go_wp2
    go_ret
    exact ⟨ret_i64 HR.out.symm, HG.out⟩
  · have HF : Hid (allOut L = outTo L L.length) := by show _ = _; unfold allOut; rw [hs]; rfl
    rw [hs] at HA
    clear hs
    go_enter Try.func31, Try.ntmps31
    go_wp2_with fail
    refine HA.out.mono ?_
    rintro e w2 ⟨rfl, hg⟩
    have HG2 := Lib.hid hg
    clear hg
    go_wp2
    go_loopw [3, 12] (fun s i wr => ∃ j : Nat, j ≤ L.length ∧ i = .int .i64 j ∧ s = .int .i64 (outTo L j) ∧ Hid (w.grownBy wr none)) (fun _ i _ => L.length - (intOf i).toNat)
    case atStart => exact ⟨0, Nat.zero_le _, rfl, rfl, HG2⟩
    case round =>
      rename_i _ _ wr
      obtain ⟨j, hj, rfl, rfl, HG⟩ := hrel
      obtain ⟨p, hp⟩ : ∃ p, p = outTo L j := ⟨_, rfl⟩
      rw [← hp]
      have HP := Lib.hid hp
      clear hp
      by_cases hlt : j < L.length
      · obtain ⟨b, o, rfl, _, _⟩ := HV.out.at_row hlt
        obtain ⟨x, hx⟩ : ∃ x, L.getD j zI3 = x := ⟨_, rfl⟩
        obtain ⟨d0, d1, d2⟩ := at3_in HV.out HG.out hlt hx
        have HX := Lib.hid hx
        clear hx
        obtain ⟨xi, xs, xn⟩ := x
        dsimp only at d0 d1 d2
        have HR : Hid (outTo L (j + 1) = wrap64 (p + xn)) := by show _ = _; simp only [outTo]; rw [HX.out, HP.out]
        have HGA := Lib.hid (grownN_trans HG.out (World.grownBy_alloc wr (.cells #[.int .i64 xi, .int .i64 xs, .int .i64 xn] 46 (0, 0)) none))
        obtain ⟨e0, e1, e2⟩ := (box_new wr #[.int .i64 xi, .int .i64 xs, .int .i64 xn] 46).three
        go_wp2
        go_roundw
        case rel => exact ⟨j + 1, by omega, by go_num, by rw [HR.out], HGA⟩
        case measure => simp [intOf]; omega
      · have hjn : L.length = j := by omega
        go_wp2
        go_ret
        exact ⟨ret_i64 (by rw [HP.out, HF.out, hjn]), HG.out⟩
end Go.Proofs.Ytinpnedijmmpgaa.StoI
