/- Contracts of the program's three changes of stocks. -/
import Derived.Test.YtinpnedijmmpgaaStoJ
namespace Go.Proofs.Ytinpnedijmmpgaa.StoI
open Go.RowKit Kit Rw Rg Sto Md

theorem ret_c {u : Value} {a b : Bool} (h : a = b) : Ending.returned (.tuple #[u, .bool a]) = .returned (.tuple #[u, .bool b]) := by rw [h]
/-- A stock after so many changes. -/
def val_lend (x : I3) (k : Int) : I3 := ⟨x.x0, x.x1, x.x2 + k⟩
def val_back (x : I3) (k : Int) : I3 := ⟨x.x0, x.x1, x.x2 - k⟩
def val_lose (x : I3) (k : Int) : I3 := ⟨x.x0, x.x1 - k, x.x2 - k⟩

set_option maxRecDepth 20000 in
set_option maxHeartbeats 1000000 in
theorem lend_yes (w : World) (b : Nat) (x0 x1 x2 p : Int) (u : Value) (hB : Box w b #[.int .i64 x0, .int .i64 x1, .int .i64 x2, u, .int .i64 p] 54) (hx : 0 ≤ x2 ∧ x2 ≤ 1000) (hq : x2 ≠ x1) :
    Calls Try.prog 55 #[.pointer (some ⟨b, 0, none⟩)] w fun e w' => e = .returned (.bool true) ∧ Box w' b #[.int .i64 x0, .int .i64 x1, .int .i64 (x2 + 1), u, .int .i64 p] 54 ∧ w.grownBy w' (some b) := by
  have HB := Lib.hid (hB.grown (grown_drew (World.grownBy.refl w none)))
  have hqb : (x2 == x1) = false := by simpa using hq
  have hw : IntKind.i64.wrap (x2 + 1) = x2 + 1 := IntWalk.i64_in _ (by omega)
  have HB2 := Lib.hid (five_set2 (a := .int .i64 (x2 + 1)) HB.out)
  have HG2 := Lib.hid (grown_trans (grown_drew (World.grownBy.refl w (some b))) (grown_set w.drew b 2 (.int .i64 (x2 + 1))))
  have c2 : w.cell? ⟨b, 2, none⟩ = some (.int .i64 x2) := hB.cell 2
  have z2 := hB.free 2
  clear hB hq
  go_enter Try.func55, Try.ntmps55
  go_wp2_with fail
  refine wp_region_held_drew (S := fun w' => w'.cell? ⟨b, 1, none⟩ = some (.int .i64 x1) ∧ w'.cell? ⟨b, 2, none⟩ = some (.int .i64 x2)) (by kernel_rfl) ⟨HB.out.cell 1, HB.out.cell 2⟩ (fun hHeld => ?_)
  refine wpAnyH_take (i := 0) (v := ?_) rfl (by kernel_rfl) (by kernel_rfl) (by kernel_rfl) (fun _ _ _ h => h) (Or.inl ⟨by rfl, ?_⟩) (by assumption) ?_; rotate_left; (focus (intro wS hSw; (try dsimp only at hSw); go_simp <;> with_reducible rfl)); (try simp only [Act.put, List.getElem_toArray, List.getElem_cons_succ, List.getElem_cons_zero, List.setIfInBounds_toArray, List.set_cons_zero, List.set_cons_succ])
  refine wpAnyH_take (i := 1) (v := ?_) rfl (by kernel_rfl) (by kernel_rfl) (by kernel_rfl) (fun _ _ _ h => h) (Or.inl ⟨by rfl, ?_⟩) (by assumption) ?_; rotate_left; (focus (intro wS hSw; (try dsimp only at hSw); go_simp <;> with_reducible rfl)); (try simp only [Act.put, List.getElem_toArray, List.getElem_cons_succ, List.getElem_cons_zero, List.setIfInBounds_toArray, List.set_cons_zero, List.set_cons_succ])
  refine wpAnyH_take (i := 2) (v := ?_) rfl (by kernel_rfl) (by kernel_rfl) (by kernel_rfl) (fun _ _ _ h => h) (Or.inl ⟨by rfl, ?_⟩) (by assumption) ?_; rotate_left; (focus (intro wS hSw; (try dsimp only at hSw); go_simp <;> with_reducible rfl)); (try simp only [Act.put, List.getElem_toArray, List.getElem_cons_succ, List.getElem_cons_zero, List.setIfInBounds_toArray, List.set_cons_zero, List.set_cons_succ])
  refine wpAnyH_take (i := 3) (v := ?_) rfl (by kernel_rfl) (by kernel_rfl) (by kernel_rfl) (fun _ _ _ h => h) (Or.inl ⟨by rfl, ?_⟩) (by assumption) ?_; rotate_left; (focus (intro wS hSw; (try dsimp only at hSw); go_simp <;> with_reducible rfl)); (try simp only [Act.put, List.getElem_toArray, List.getElem_cons_succ, List.getElem_cons_zero, List.setIfInBounds_toArray, List.set_cons_zero, List.set_cons_succ])
  refine wpAnyH_take (i := 4) (v := ?_) rfl (by kernel_rfl) (by kernel_rfl) (by kernel_rfl) (fun _ _ _ h => h) (Or.inl ⟨by rfl, ?_⟩) (by assumption) ?_; rotate_left; (focus (intro wS hSw; (try dsimp only at hSw); go_simp <;> with_reducible rfl)); (try simp only [Act.put, List.getElem_toArray, List.getElem_cons_succ, List.getElem_cons_zero, List.setIfInBounds_toArray, List.set_cons_zero, List.set_cons_succ])
  refine wpAnyH_take (i := 5) (v := ?_) rfl (by kernel_rfl) (by kernel_rfl) (by kernel_rfl) (fun _ _ _ h => h) (Or.inl ⟨by rfl, ?_⟩) (by assumption) ?_; rotate_left; (focus (intro wS hSw; (try dsimp only at hSw); go_simp <;> with_reducible rfl)); (try simp only [Act.put, List.getElem_toArray, List.getElem_cons_succ, List.getElem_cons_zero, List.setIfInBounds_toArray, List.set_cons_zero, List.set_cons_succ])
  refine wpAnyH_take (i := 6) (v := ?_) rfl (by kernel_rfl) (by kernel_rfl) (by kernel_rfl) (fun _ _ _ h => h) (Or.inl ⟨by rfl, ?_⟩) (by assumption) ?_; rotate_left; (focus (intro wS hSw; (try dsimp only at hSw); go_simp <;> with_reducible rfl)); (try simp only [Act.put, List.getElem_toArray, List.getElem_cons_succ, List.getElem_cons_zero, List.setIfInBounds_toArray, List.set_cons_zero, List.set_cons_succ])
  refine wpAnyH_take (i := 7) (v := ?_) rfl (by kernel_rfl) (by kernel_rfl) (by kernel_rfl) (fun _ _ _ h => h) (Or.inl ⟨by rfl, ?_⟩) (by assumption) ?_; rotate_left; (focus (intro wS hSw; (try dsimp only at hSw); go_simp <;> with_reducible rfl)); (try simp only [Act.put, List.getElem_toArray, List.getElem_cons_succ, List.getElem_cons_zero, List.setIfInBounds_toArray, List.set_cons_zero, List.set_cons_succ])
  refine wpAnyH_take (i := 8) (v := ?_) rfl (by kernel_rfl) (by kernel_rfl) (by kernel_rfl) (fun _ _ _ h => h) (Or.inl ⟨by rfl, ?_⟩) (by assumption) ?_; rotate_left; (focus (intro wS hSw; (try dsimp only at hSw); go_simp <;> with_reducible rfl)); (try simp only [Act.put, List.getElem_toArray, List.getElem_cons_succ, List.getElem_cons_zero, List.setIfInBounds_toArray, List.set_cons_zero, List.set_cons_succ])
  refine wpAnyH_done (by kernel_rfl) ?_ _
  (try simp only [Act.put, List.getElem_toArray, List.getElem_cons_succ, List.getElem_cons_zero, List.setIfInBounds_toArray, List.set_cons_zero, List.set_cons_succ])
  go_wp2
  go_ret
  exact ⟨rfl, HB2.out, HG2.out⟩
set_option maxRecDepth 20000 in
set_option maxHeartbeats 1000000 in
theorem lend_no (w : World) (b : Nat) (x0 x1 p : Int) (u : Value) (hB : Box w b #[.int .i64 x0, .int .i64 x1, .int .i64 x1, u, .int .i64 p] 54) :
    Calls Try.prog 55 #[.pointer (some ⟨b, 0, none⟩)] w fun e w' => e = .returned (.bool false) ∧ w.grownBy w' none := by
  have HB := Lib.hid (hB.grown (grown_drew (World.grownBy.refl w none)))
  clear hB
  go_enter Try.func55, Try.ntmps55
  go_wp2_with fail
  refine wp_region_held_drew (S := fun w' => w'.cell? ⟨b, 1, none⟩ = some (.int .i64 x1) ∧ w'.cell? ⟨b, 2, none⟩ = some (.int .i64 x1)) (by kernel_rfl) ⟨HB.out.cell 1, HB.out.cell 2⟩ (fun hHeld => ?_)
  refine wpAnyH_take (i := 0) (v := ?_) rfl (by kernel_rfl) (by kernel_rfl) (by kernel_rfl) (fun _ _ _ h => h) (Or.inl ⟨by rfl, ?_⟩) (by assumption) ?_; rotate_left; (focus (intro wS hSw; (try dsimp only at hSw); go_simp <;> with_reducible rfl)); (try simp only [Act.put, List.getElem_toArray, List.getElem_cons_succ, List.getElem_cons_zero, List.setIfInBounds_toArray, List.set_cons_zero, List.set_cons_succ])
  refine wpAnyH_take (i := 1) (v := ?_) rfl (by kernel_rfl) (by kernel_rfl) (by kernel_rfl) (fun _ _ _ h => h) (Or.inl ⟨by rfl, ?_⟩) (by assumption) ?_; rotate_left; (focus (intro wS hSw; (try dsimp only at hSw); go_simp <;> with_reducible rfl)); (try simp only [Act.put, List.getElem_toArray, List.getElem_cons_succ, List.getElem_cons_zero, List.setIfInBounds_toArray, List.set_cons_zero, List.set_cons_succ])
  refine wpAnyH_take (i := 2) (v := ?_) rfl (by kernel_rfl) (by kernel_rfl) (by kernel_rfl) (fun _ _ _ h => h) (Or.inl ⟨by rfl, ?_⟩) (by assumption) ?_; rotate_left; (focus (intro wS hSw; (try dsimp only at hSw); go_simp <;> with_reducible rfl)); (try simp only [Act.put, List.getElem_toArray, List.getElem_cons_succ, List.getElem_cons_zero, List.setIfInBounds_toArray, List.set_cons_zero, List.set_cons_succ])
  refine wpAnyH_take (i := 3) (v := ?_) rfl (by kernel_rfl) (by kernel_rfl) (by kernel_rfl) (fun _ _ _ h => h) (Or.inl ⟨by rfl, ?_⟩) (by assumption) ?_; rotate_left; (focus (intro wS hSw; (try dsimp only at hSw); go_simp <;> with_reducible rfl)); (try simp only [Act.put, List.getElem_toArray, List.getElem_cons_succ, List.getElem_cons_zero, List.setIfInBounds_toArray, List.set_cons_zero, List.set_cons_succ])
  refine wpAnyH_take (i := 4) (v := ?_) rfl (by kernel_rfl) (by kernel_rfl) (by kernel_rfl) (fun _ _ _ h => h) (Or.inl ⟨by rfl, ?_⟩) (by assumption) ?_; rotate_left; (focus (intro wS hSw; (try dsimp only at hSw); go_simp <;> with_reducible rfl)); (try simp only [Act.put, List.getElem_toArray, List.getElem_cons_succ, List.getElem_cons_zero, List.setIfInBounds_toArray, List.set_cons_zero, List.set_cons_succ])
  refine wpAnyH_take (i := 5) (v := ?_) rfl (by kernel_rfl) (by kernel_rfl) (by kernel_rfl) (fun _ _ _ h => h) (Or.inl ⟨by rfl, ?_⟩) (by assumption) ?_; rotate_left; (focus (intro wS hSw; (try dsimp only at hSw); go_simp <;> with_reducible rfl)); (try simp only [Act.put, List.getElem_toArray, List.getElem_cons_succ, List.getElem_cons_zero, List.setIfInBounds_toArray, List.set_cons_zero, List.set_cons_succ])
  refine wpAnyH_take (i := 6) (v := ?_) rfl (by kernel_rfl) (by kernel_rfl) (by kernel_rfl) (fun _ _ _ h => h) (Or.inl ⟨by rfl, ?_⟩) (by assumption) ?_; rotate_left; (focus (intro wS hSw; (try dsimp only at hSw); go_simp <;> with_reducible rfl)); (try simp only [Act.put, List.getElem_toArray, List.getElem_cons_succ, List.getElem_cons_zero, List.setIfInBounds_toArray, List.set_cons_zero, List.set_cons_succ])
  refine wpAnyH_take (i := 7) (v := ?_) rfl (by kernel_rfl) (by kernel_rfl) (by kernel_rfl) (fun _ _ _ h => h) (Or.inl ⟨by rfl, ?_⟩) (by assumption) ?_; rotate_left; (focus (intro wS hSw; (try dsimp only at hSw); go_simp <;> with_reducible rfl)); (try simp only [Act.put, List.getElem_toArray, List.getElem_cons_succ, List.getElem_cons_zero, List.setIfInBounds_toArray, List.set_cons_zero, List.set_cons_succ])
  refine wpAnyH_take (i := 8) (v := ?_) rfl (by kernel_rfl) (by kernel_rfl) (by kernel_rfl) (fun _ _ _ h => h) (Or.inl ⟨by rfl, ?_⟩) (by assumption) ?_; rotate_left; (focus (intro wS hSw; (try dsimp only at hSw); go_simp <;> with_reducible rfl)); (try simp only [Act.put, List.getElem_toArray, List.getElem_cons_succ, List.getElem_cons_zero, List.setIfInBounds_toArray, List.set_cons_zero, List.set_cons_succ])
  refine wpAnyH_done (by kernel_rfl) ?_ _
  (try simp only [Act.put, List.getElem_toArray, List.getElem_cons_succ, List.getElem_cons_zero, List.setIfInBounds_toArray, List.set_cons_zero, List.set_cons_succ])
  go_wp2
  go_ret
  exact ⟨rfl, grown_drew (World.grownBy.refl w none)⟩
set_option maxRecDepth 20000 in
set_option maxHeartbeats 1000000 in
theorem back_yes (w : World) (b : Nat) (x0 x1 x2 p : Int) (u : Value) (hB : Box w b #[.int .i64 x0, .int .i64 x1, .int .i64 x2, u, .int .i64 p] 54) (hx : 0 < x2 ∧ x2 ≤ 1000) :
    Calls Try.prog 56 #[.pointer (some ⟨b, 0, none⟩)] w fun e w' => e = .returned (.bool true) ∧ Box w' b #[.int .i64 x0, .int .i64 x1, .int .i64 (x2 - 1), u, .int .i64 p] 54 ∧ w.grownBy w' (some b) := by
  have hqb : (x2 == 0) = false := by have : x2 ≠ 0 := by omega
                                     simpa using this
  have hw : IntKind.i64.wrap (x2 - 1) = x2 - 1 := IntWalk.i64_in _ (by omega)
  have HB2 := Lib.hid (five_set2 (a := .int .i64 (x2 - 1)) hB)
  have HG2 := Lib.hid (grown_set w b 2 (.int .i64 (x2 - 1)))
  have c2 : w.cell? ⟨b, 2, none⟩ = some (.int .i64 x2) := hB.cell 2
  have z2 := hB.free 2
  clear hB
  go_enter Try.func56, Try.ntmps56
  go_wp2
  go_ret
  exact ⟨rfl, HB2.out, HG2.out⟩
set_option maxRecDepth 20000 in
set_option maxHeartbeats 1000000 in
theorem back_no (w : World) (b : Nat) (x0 x1 p : Int) (u : Value) (hB : Box w b #[.int .i64 x0, .int .i64 x1, .int .i64 0, u, .int .i64 p] 54) :
    Calls Try.prog 56 #[.pointer (some ⟨b, 0, none⟩)] w fun e w' => e = .returned (.bool false) ∧ w.grownBy w' none := by
  have c2 : w.cell? ⟨b, 2, none⟩ = some (.int .i64 0) := hB.cell 2
  clear hB
  go_enter Try.func56, Try.ntmps56
  go_wp2
  go_ret
  exact ⟨rfl, World.grownBy.refl _ _⟩
set_option maxRecDepth 20000 in
set_option maxHeartbeats 1000000 in
theorem lose_yes (w : World) (b : Nat) (x0 x1 x2 p : Int) (u : Value) (hB : Box w b #[.int .i64 x0, .int .i64 x1, .int .i64 x2, u, .int .i64 p] 54) (hx : 0 < x2 ∧ x2 ≤ 1000) (hx1 : 0 ≤ x1 ∧ x1 ≤ 1000) :
    Calls Try.prog 57 #[.pointer (some ⟨b, 0, none⟩)] w fun e w' => e = .returned (.bool true) ∧ Box w' b #[.int .i64 x0, .int .i64 (x1 - 1), .int .i64 (x2 - 1), u, .int .i64 p] 54 ∧ w.grownBy w' (some b) := by
  have HA := Lib.hid (back_yes w b x0 x1 x2 p u hB hx)
  have hw : IntKind.i64.wrap (x1 - 1) = x1 - 1 := IntWalk.i64_in _ (by omega)
  clear hB
  go_enter Try.func57, Try.ntmps57
  go_wp2_with fail
  refine HA.out.mono ?_
  rintro e w1 ⟨rfl, hB, hg⟩
  have HB2 := Lib.hid (five_set1 (a := .int .i64 (x1 - 1)) hB)
  have HG2 := Lib.hid (grown_trans hg (grown_set w1 b 1 (.int .i64 (x1 - 1))))
  have c1 : w1.cell? ⟨b, 1, none⟩ = some (.int .i64 x1) := hB.cell 1
  have z1 := hB.free 1
  clear hB hg HA
  go_wp2
  go_ret
  exact ⟨rfl, HB2.out, HG2.out⟩
set_option maxRecDepth 20000 in
set_option maxHeartbeats 1000000 in
theorem lose_no (w : World) (b : Nat) (x0 x1 p : Int) (u : Value) (hB : Box w b #[.int .i64 x0, .int .i64 x1, .int .i64 0, u, .int .i64 p] 54) :
    Calls Try.prog 57 #[.pointer (some ⟨b, 0, none⟩)] w fun e w' => e = .returned (.bool false) ∧ w.grownBy w' none := by
  have HA := Lib.hid (back_no w b x0 x1 p u hB)
  clear hB
  go_enter Try.func57, Try.ntmps57
  go_wp2_with fail
  refine HA.out.mono ?_
  rintro e w1 ⟨rfl, hg⟩
  have HG := Lib.hid hg
  clear hg HA
  go_wp2
  go_ret
  exact ⟨rfl, HG.out⟩

set_option maxRecDepth 20000 in
set_option maxHeartbeats 2000000 in
theorem change_lend (w : World) (v : Value) (t n : Int) (L : List I3) (hv : SeesG enc3 w v L) (hn : L.length ≤ 1000000000) :
    Calls Try.prog 54 #[v, .int .i64 t, .int .i64 n, .func (.func 55) #[] #[]] w fun e w' => ∃ u, e = .returned (.tuple #[u, .bool (lendOk L t n)]) ∧ OwnG enc3 46 w' w.heap.size u (lend L t n) ∧ w.grownBy w' none := by
  have HS := Lib.hid (storeFor_any w v t L hv hn)
  have hbd := stock_bd L t
  have hok := hv.ok
  obtain ⟨x, hx⟩ : ∃ x, stock L t = x := ⟨_, rfl⟩
  rw [hx] at hbd HS
  have HLIM : Hid (lendOk L t n = decide (1 ≤ n ∧ n ≤ x.x1 - x.x2)) := by show _ = _; simp only [lendOk, hasIn, hx]
  have HRES : Hid (lend L t n = if lendOk L t n = true then put L t (val_lend x n) else L) := by show _ = _; unfold lend val_lend; rw [hx]
  have HFO : Hid (find L t = -1 ∨ ∃ j : Nat, j < L.length ∧ find L t = j ∧ L.getD j zI3 = x) := by
    rcases find_of L t with h | ⟨j, hj, _, _, hf, _⟩
    · exact .inl h
    · exact .inr ⟨j, hj, hf, by rw [← hx, stock_yes hf]⟩
  have HOKX : Hid (enc3.ok x) := by
    rcases HFO.out with h | ⟨j, hj, _, e⟩
    · rw [← hx, stock_no h]; exact ⟨rfl, rfl, rfl⟩
    · rw [← e]; exact hok _ (memG hj)
  have HXZ : Hid (find L t = -1 → x = zI3) := fun h => by rw [← hx, stock_no h]
  clear hx hok
  obtain ⟨x0, x1, x2⟩ := x
  dsimp only at hbd HLIM
  have HBD := Lib.hid hbd
  clear hbd
  go_enter Try.func54, Try.ntmps54
  go_wp2_with fail
  refine HS.out.mono ?_
  rintro e w1 ⟨b, rfl, u, hB, hO, hb, hub, hg⟩
  obtain ⟨ua, un, uc, rfl, HN⟩ := hO.sees.shape
  have HB := Lib.hid hB
  have HO := Lib.hid hO
  have HBS := Lib.hid hb
  have HUB := Lib.hid hub
  have HG := Lib.hid hg
  clear hB hO hb hub hg HS
  go_wp2
  go_loopw [15] (fun i wr => ∃ k : Nat, i = .int .i64 k ∧ (k = 0 ∨ (k : Int) ≤ n) ∧ (k : Int) ≤ x1 - x2 ∧ Hid (Box wr b (store (val_lend ⟨x0, x1, x2⟩ k) (.slice ua un uc) (placeAt L t)) 54) ∧ Hid (w1.grownBy wr (some b))) (fun i _ => (x1 - x2).toNat + 1 - (intOf i).toNat)
  case atStart =>
    have hbd := HBD.out
    exact ⟨0, rfl, .inl rfl, by simp; omega, by show Box _ _ _ _; unfold val_lend store; dsimp only; simp only [Int.natCast_zero, Int.add_zero, Int.sub_zero]; exact HB.out, World.grownBy.refl _ _⟩
  case round =>
    rename_i _ wr
    obtain ⟨k, rfl, hkn, hkl, HB1, HG1⟩ := hrel
    have hB1 := HB1.out
    simp only [val_lend, store] at hB1
    have HB1' := Lib.hid hB1
    have hbd := HBD.out
    by_cases hlt : (k : Int) < n
    · have hcu : wr.cell? ⟨b, 3, none⟩ = some (.slice ua un uc) := hB1.cell 3
      have hk10 : (k : Int) ≤ 1000 := by omega
      by_cases hf : (k : Int) < x1 - x2
      · have HC := Lib.hid (lend_yes wr b x0 x1 (x2 + (k : Int)) (placeAt L t) _ hB1 (by omega) (by omega))
        clear hB1 hbd hcu
        go_wp2_with fail
        refine HC.out.mono ?_
        rintro e w2 ⟨rfl, hB2, hg2⟩
        have HB2 : Hid (Box w2 b (store (val_lend ⟨x0, x1, x2⟩ ((k + 1 : Nat) : Int)) (.slice ua un uc) (placeAt L t)) 54) := by
          show Box _ _ _ _
          simp only [val_lend, store]
          rw [show x2 + ((k + 1 : Nat) : Int) = x2 + (k : Int) + 1 by omega]
          exact hB2
        have HG2 := Lib.hid (grown_trans HG1.out hg2)
        clear hB2 hg2
        go_wp2
        go_roundw
        case rel => exact ⟨k + 1, by go_num, .inr (by omega), by omega, HB2, HG2⟩
        case measure => simp [intOf]; omega
      · have HNO : Hid (lendOk L t n = false) := by show _ = _; rw [HLIM.out]; exact decide_eq_false (by omega)
        have HC : Hid (Calls Try.prog 55 #[.pointer (some ⟨b, 0, none⟩)] wr fun e w' => e = .returned (.bool false) ∧ wr.grownBy w' none) := by
          have e : x2 + (k : Int) = x1 := by omega
          rw [e] at hB1
          exact lend_no wr b x0 x1 _ _ hB1
        clear hB1 hbd
        go_wp2_with fail
        refine HC.out.mono ?_
        rintro e w2 ⟨rfl, hg2⟩
        have hcu := hg2.cell hcu (by simp)
        have HG2 := Lib.hid (grown_new HG.out HG1.out (fun c hc => by injection hc with hc; subst hc; exact HBS.out))
        have HO2 := Lib.hid ((HO.out.kept HG1.out (.inr HUB.out)).grown hg2)
        have HG3 := Lib.hid (grownN_trans HG2.out hg2)
        clear hg2
        go_wp2
        go_ret2
        exact ⟨_, ret_c HNO.out.symm, by rw [HRES.out, HNO.out]; exact HO2.out, HG3.out⟩
    · have HG2 := Lib.hid (grown_new HG.out HG1.out (fun c hc => by injection hc with hc; subst hc; exact HBS.out))
      have HO2 := Lib.hid (HO.out.kept HG1.out (.inr HUB.out))
      have hcu : wr.cell? ⟨b, 3, none⟩ = some (.slice ua un uc) := hB1.cell 3
      by_cases h1 : n < 1
      · have HNO : Hid (lendOk L t n = false) := by show _ = _; rw [HLIM.out]; exact decide_eq_false (by omega)
        clear hB1 hbd
        go_wp2
        go_ret2
        exact ⟨_, ret_c HNO.out.symm, by rw [HRES.out, HNO.out]; exact HO2.out, HG2.out⟩
      · have hkn' : (k : Int) = n := by omega
        have HYES : Hid (lendOk L t n = true) := by show _ = _; rw [HLIM.out]; exact decide_eq_true (by omega)
        rcases HFO.out with hfo | ⟨j, hj, hfo, hxj⟩
        · exfalso
          have := HXZ.out hfo
          injection this with e0 e1 e2
          subst e0 e1 e2
          omega
        · have hpl := placeAt_yes hfo
          have hju : j < un := by rw [← HN.out]; exact hj
          have hO2 := HO2.out
          obtain ⟨g, rfl⟩ : ∃ g, ua = some ⟨g, 0, none⟩ := by
            rcases hO2.1.2 with ⟨h, _⟩ | ⟨g', cap', cur', h, _⟩
            · injection h with _ h; omega
            · injection h with h; exact ⟨g', h⟩
          have HGB : Hid (g ≠ b) := fun e => HUB.out (by rw [e]; rfl)
          have HYO : Hid (enc3.ok (val_lend ⟨x0, x1, x2⟩ n)) := by
            have h0 := HOKX.out.1
            have hbd := HBD.out
            dsimp only at h0
            refine ⟨h0, ?_, ?_⟩ <;> (simp only [val_lend]; exact i64_mk (by omega))
          have hp := hO2.put3 HN.out hj _ HYO.out
          simp only [val_lend] at hp
          rw [hkn'] at hB1
          clear hkn'
          have HP := Lib.hid hp
          have HBD2 := Lib.hid (hB1.grown (grown_drew (World.grownBy.refl wr none)))
          have HBK := Lib.hid ((hB1.kept hp.2 (fun e => HGB.out (by injection e))).grown (grown_drew (World.grownBy.refl _ none)))
          obtain ⟨z0, z1, z2⟩ := hO2.cell3 hj
          obtain ⟨z, hz⟩ : ∃ z, z = L.getD j zI3 := ⟨_, rfl⟩
          rw [← hz] at z0 z1 z2
          have f0 := hO2.free (j * 3)
          have f1 := hO2.free (j * 3 + 1)
          have f2 := hO2.free (j * 3 + 2)
          have hpi : (0 : Int) ≤ (j : Int) := by omega
          have hpj : (j : Int) < (un : Int) := by omega
          rw [hpl] at HBK HBD2
          clear hp hz hO2 hbd hB1 hcu hpl
          go_wp2_with fail
          refine wp_region_held_drew (S := fun w' => w'.cell? ⟨b, 0, none⟩ = some (.int .i64 (x0)) ∧ w'.cell? ⟨b, 1, none⟩ = some (.int .i64 (x1)) ∧ w'.cell? ⟨b, 2, none⟩ = some (.int .i64 (x2 + n)) ∧ w'.cell? ⟨b, 3, none⟩ = some (.slice (some ⟨g, 0, none⟩) un uc) ∧ w'.cell? ⟨b, 4, none⟩ = some (.int .i64 (j : Int))) (by kernel_rfl) ⟨HBD2.out.cell 0, HBD2.out.cell 1, HBD2.out.cell 2, HBD2.out.cell 3, HBD2.out.cell 4⟩ (fun hHeld => ?_)
          refine wpAnyH_take (i := 0) (v := ?_) rfl (by kernel_rfl) (by kernel_rfl) (by kernel_rfl) (fun _ _ _ h => h) (Or.inl ⟨by rfl, ?_⟩) (by assumption) ?_; rotate_left; (focus (intro wS hSw; (try dsimp only at hSw); go_simp <;> with_reducible rfl)); (try simp only [Act.put, List.getElem_toArray, List.getElem_cons_succ, List.getElem_cons_zero, List.setIfInBounds_toArray, List.set_cons_zero, List.set_cons_succ])
          refine wpAnyH_take (i := 1) (v := ?_) rfl (by kernel_rfl) (by kernel_rfl) (by kernel_rfl) (fun _ _ _ h => h) (Or.inl ⟨by rfl, ?_⟩) (by assumption) ?_; rotate_left; (focus (intro wS hSw; (try dsimp only at hSw); go_simp <;> with_reducible rfl)); (try simp only [Act.put, List.getElem_toArray, List.getElem_cons_succ, List.getElem_cons_zero, List.setIfInBounds_toArray, List.set_cons_zero, List.set_cons_succ])
          refine wpAnyH_take (i := 2) (v := ?_) rfl (by kernel_rfl) (by kernel_rfl) (by kernel_rfl) (fun _ _ _ h => h) (Or.inl ⟨by rfl, ?_⟩) (by assumption) ?_; rotate_left; (focus (intro wS hSw; (try dsimp only at hSw); go_simp <;> with_reducible rfl)); (try simp only [Act.put, List.getElem_toArray, List.getElem_cons_succ, List.getElem_cons_zero, List.setIfInBounds_toArray, List.set_cons_zero, List.set_cons_succ])
          refine wpAnyH_take (i := 3) (v := ?_) rfl (by kernel_rfl) (by kernel_rfl) (by kernel_rfl) (fun _ _ _ h => h) (Or.inl ⟨by rfl, ?_⟩) (by assumption) ?_; rotate_left; (focus (intro wS hSw; (try dsimp only at hSw); go_simp <;> with_reducible rfl)); (try simp only [Act.put, List.getElem_toArray, List.getElem_cons_succ, List.getElem_cons_zero, List.setIfInBounds_toArray, List.set_cons_zero, List.set_cons_succ])
          refine wpAnyH_take (i := 4) (v := ?_) rfl (by kernel_rfl) (by kernel_rfl) (by kernel_rfl) (fun _ _ _ h => h) (Or.inl ⟨by rfl, ?_⟩) (by assumption) ?_; rotate_left; (focus (intro wS hSw; (try dsimp only at hSw); go_simp <;> with_reducible rfl)); (try simp only [Act.put, List.getElem_toArray, List.getElem_cons_succ, List.getElem_cons_zero, List.setIfInBounds_toArray, List.set_cons_zero, List.set_cons_succ])
          refine wpAnyH_take (i := 5) (v := ?_) rfl (by kernel_rfl) (by kernel_rfl) (by kernel_rfl) (fun _ _ _ h => h) (Or.inl ⟨by rfl, ?_⟩) (by assumption) ?_; rotate_left; (focus (intro wS hSw; (try dsimp only at hSw); go_simp <;> with_reducible rfl)); (try simp only [Act.put, List.getElem_toArray, List.getElem_cons_succ, List.getElem_cons_zero, List.setIfInBounds_toArray, List.set_cons_zero, List.set_cons_succ])
          refine wpAnyH_take (i := 6) (v := ?_) rfl (by kernel_rfl) (by kernel_rfl) (by kernel_rfl) (fun _ _ _ h => h) (Or.inl ⟨by rfl, ?_⟩) (by assumption) ?_; rotate_left; (focus (intro wS hSw; (try dsimp only at hSw); go_simp <;> with_reducible rfl)); (try simp only [Act.put, List.getElem_toArray, List.getElem_cons_succ, List.getElem_cons_zero, List.setIfInBounds_toArray, List.set_cons_zero, List.set_cons_succ])
          refine wpAnyH_take (i := 7) (v := ?_) rfl (by kernel_rfl) (by kernel_rfl) (by kernel_rfl) (fun _ _ _ h => h) (Or.inl ⟨by rfl, ?_⟩) (by assumption) ?_; rotate_left; (focus (intro wS hSw; (try dsimp only at hSw); go_simp <;> with_reducible rfl)); (try simp only [Act.put, List.getElem_toArray, List.getElem_cons_succ, List.getElem_cons_zero, List.setIfInBounds_toArray, List.set_cons_zero, List.set_cons_succ])
          refine wpAnyH_take (i := 8) (v := ?_) rfl (by kernel_rfl) (by kernel_rfl) (by kernel_rfl) (fun _ _ _ h => h) (Or.inl ⟨by rfl, ?_⟩) (by assumption) ?_; rotate_left; (focus (intro wS hSw; (try dsimp only at hSw); go_simp <;> with_reducible rfl)); (try simp only [Act.put, List.getElem_toArray, List.getElem_cons_succ, List.getElem_cons_zero, List.setIfInBounds_toArray, List.set_cons_zero, List.set_cons_succ])
          refine wpAnyH_take (i := 9) (v := ?_) rfl (by kernel_rfl) (by kernel_rfl) (by kernel_rfl) (fun _ _ _ h => h) (Or.inl ⟨by rfl, ?_⟩) (by assumption) ?_; rotate_left; (focus (intro wS hSw; (try dsimp only at hSw); go_simp <;> with_reducible rfl)); (try simp only [Act.put, List.getElem_toArray, List.getElem_cons_succ, List.getElem_cons_zero, List.setIfInBounds_toArray, List.set_cons_zero, List.set_cons_succ])
          refine wpAnyH_take (i := 10) (v := ?_) rfl (by kernel_rfl) (by kernel_rfl) (by kernel_rfl) (fun _ _ _ h => h) (Or.inl ⟨by rfl, ?_⟩) (by assumption) ?_; rotate_left; (focus (intro wS hSw; (try dsimp only at hSw); go_simp <;> with_reducible rfl)); (try simp only [Act.put, List.getElem_toArray, List.getElem_cons_succ, List.getElem_cons_zero, List.setIfInBounds_toArray, List.set_cons_zero, List.set_cons_succ])
          refine wpAnyH_take (i := 11) (v := ?_) rfl (by kernel_rfl) (by kernel_rfl) (by kernel_rfl) (fun _ _ _ h => h) (Or.inl ⟨by rfl, ?_⟩) (by assumption) ?_; rotate_left; (focus (intro wS hSw; (try dsimp only at hSw); go_simp <;> with_reducible rfl)); (try simp only [Act.put, List.getElem_toArray, List.getElem_cons_succ, List.getElem_cons_zero, List.setIfInBounds_toArray, List.set_cons_zero, List.set_cons_succ])
          refine wpAnyH_take (i := 12) (v := ?_) rfl (by kernel_rfl) (by kernel_rfl) (by kernel_rfl) (fun _ _ _ h => h) (Or.inl ⟨by rfl, ?_⟩) (by assumption) ?_; rotate_left; (focus (intro wS hSw; (try dsimp only at hSw); go_simp <;> with_reducible rfl)); (try simp only [Act.put, List.getElem_toArray, List.getElem_cons_succ, List.getElem_cons_zero, List.setIfInBounds_toArray, List.set_cons_zero, List.set_cons_succ])
          refine wpAnyH_ready (rs := [13]) (by kernel_rfl) (by simp) ?_; refine AllReadyH.cons rfl (fun K hK => ?_) AllReadyH.nil; go_simp
          refine hK.out _ _ (⟨HBK.out.cell 0, HBK.out.cell 1, HBK.out.cell 2, HBK.out.cell 3, HBK.out.cell 4⟩) (fun hHeld => ?_)
          clear hK K
          (try simp only [Act.put, List.getElem_toArray, List.getElem_cons_succ, List.getElem_cons_zero, List.setIfInBounds_toArray, List.set_cons_zero, List.set_cons_succ])
          refine wpAnyH_done (by kernel_rfl) ?_ _
          (try simp only [Act.put, List.getElem_toArray, List.getElem_cons_succ, List.getElem_cons_zero, List.setIfInBounds_toArray, List.set_cons_zero, List.set_cons_succ])
          have hcu : World.cell? _ ⟨b, 3, none⟩ = some (.slice (some ⟨g, 0, none⟩) un uc) := HBK.out.cell 3
          go_wp2
          go_ret2
          exact ⟨_, ret_c HYES.out.symm, by rw [HRES.out, HYES.out, if_pos rfl]; unfold put; rw [hfo]; exact HP.out.1.grown (grown_drew (World.grownBy.refl _ none)), grown_new HG2.out (grownN_trans HP.out.2 (grown_drew (World.grownBy.refl _ (some g)))) (fun c hc => by injection hc with hc; subst hc; exact (HO2.out.lt _ rfl).1)⟩

set_option maxRecDepth 20000 in
set_option maxHeartbeats 1000000 in
theorem iLend_any (w : World) (v : Value) (t n : Int) (L : List I3) (hv : SeesG enc3 w v L) (hn : L.length ≤ 1000000000) :
    Calls Try.prog 23 #[v, .int .i64 t, .int .i64 n] w fun e w' => ∃ u, e = .returned (.tuple #[u, .bool (lendOk L t n)]) ∧ OwnG enc3 46 w' w.heap.size u (lend L t n) ∧ w.grownBy w' none := by
  have HC := Lib.hid (change_lend w v t n L hv hn)
  clear hv
  go_enter Try.func23, Try.ntmps23
  go_wp2_with fail
  refine HC.out.mono ?_
  rintro e w1 ⟨u, rfl, hO, hg⟩
  have HO := Lib.hid hO
  have HG := Lib.hid hg
  clear hO hg HC
  obtain ⟨ua, un, uc, rfl, HN⟩ := HO.out.sees.shape
  go_wp2
  go_ret2
  exact ⟨_, rfl, HO.out, HG.out⟩

set_option maxRecDepth 20000 in
set_option maxHeartbeats 2000000 in
theorem change_back (w : World) (v : Value) (t n : Int) (L : List I3) (hv : SeesG enc3 w v L) (hn : L.length ≤ 1000000000) :
    Calls Try.prog 54 #[v, .int .i64 t, .int .i64 n, .func (.func 56) #[] #[]] w fun e w' => ∃ u, e = .returned (.tuple #[u, .bool (backOk L t n)]) ∧ OwnG enc3 46 w' w.heap.size u (back L t n) ∧ w.grownBy w' none := by
  have HS := Lib.hid (storeFor_any w v t L hv hn)
  have hbd := stock_bd L t
  have hok := hv.ok
  obtain ⟨x, hx⟩ : ∃ x, stock L t = x := ⟨_, rfl⟩
  rw [hx] at hbd HS
  have HLIM : Hid (backOk L t n = decide (1 ≤ n ∧ n ≤ x.x2)) := by show _ = _; simp only [backOk, hx]
  have HRES : Hid (back L t n = if backOk L t n = true then put L t (val_back x n) else L) := by show _ = _; unfold back val_back; rw [hx]
  have HFO : Hid (find L t = -1 ∨ ∃ j : Nat, j < L.length ∧ find L t = j ∧ L.getD j zI3 = x) := by
    rcases find_of L t with h | ⟨j, hj, _, _, hf, _⟩
    · exact .inl h
    · exact .inr ⟨j, hj, hf, by rw [← hx, stock_yes hf]⟩
  have HOKX : Hid (enc3.ok x) := by
    rcases HFO.out with h | ⟨j, hj, _, e⟩
    · rw [← hx, stock_no h]; exact ⟨rfl, rfl, rfl⟩
    · rw [← e]; exact hok _ (memG hj)
  have HXZ : Hid (find L t = -1 → x = zI3) := fun h => by rw [← hx, stock_no h]
  clear hx hok
  obtain ⟨x0, x1, x2⟩ := x
  dsimp only at hbd HLIM
  have HBD := Lib.hid hbd
  clear hbd
  go_enter Try.func54, Try.ntmps54
  go_wp2_with fail
  refine HS.out.mono ?_
  rintro e w1 ⟨b, rfl, u, hB, hO, hb, hub, hg⟩
  obtain ⟨ua, un, uc, rfl, HN⟩ := hO.sees.shape
  have HB := Lib.hid hB
  have HO := Lib.hid hO
  have HBS := Lib.hid hb
  have HUB := Lib.hid hub
  have HG := Lib.hid hg
  clear hB hO hb hub hg HS
  go_wp2
  go_loopw [15] (fun i wr => ∃ k : Nat, i = .int .i64 k ∧ (k = 0 ∨ (k : Int) ≤ n) ∧ (k : Int) ≤ x2 ∧ Hid (Box wr b (store (val_back ⟨x0, x1, x2⟩ k) (.slice ua un uc) (placeAt L t)) 54) ∧ Hid (w1.grownBy wr (some b))) (fun i _ => (x2).toNat + 1 - (intOf i).toNat)
  case atStart =>
    have hbd := HBD.out
    exact ⟨0, rfl, .inl rfl, by simp; omega, by show Box _ _ _ _; unfold val_back store; dsimp only; simp only [Int.natCast_zero, Int.add_zero, Int.sub_zero]; exact HB.out, World.grownBy.refl _ _⟩
  case round =>
    rename_i _ wr
    obtain ⟨k, rfl, hkn, hkl, HB1, HG1⟩ := hrel
    have hB1 := HB1.out
    simp only [val_back, store] at hB1
    have HB1' := Lib.hid hB1
    have hbd := HBD.out
    by_cases hlt : (k : Int) < n
    · have hcu : wr.cell? ⟨b, 3, none⟩ = some (.slice ua un uc) := hB1.cell 3
      have hk10 : (k : Int) ≤ 1000 := by omega
      by_cases hf : (k : Int) < x2
      · have HC := Lib.hid (back_yes wr b x0 x1 (x2 - (k : Int)) (placeAt L t) _ hB1 (by omega))
        clear hB1 hbd hcu
        go_wp2_with fail
        refine HC.out.mono ?_
        rintro e w2 ⟨rfl, hB2, hg2⟩
        have HB2 : Hid (Box w2 b (store (val_back ⟨x0, x1, x2⟩ ((k + 1 : Nat) : Int)) (.slice ua un uc) (placeAt L t)) 54) := by
          show Box _ _ _ _
          simp only [val_back, store]
          rw [show x2 - ((k + 1 : Nat) : Int) = x2 - (k : Int) - 1 by omega]
          exact hB2
        have HG2 := Lib.hid (grown_trans HG1.out hg2)
        clear hB2 hg2
        go_wp2
        go_roundw
        case rel => exact ⟨k + 1, by go_num, .inr (by omega), by omega, HB2, HG2⟩
        case measure => simp [intOf]; omega
      · have HNO : Hid (backOk L t n = false) := by show _ = _; rw [HLIM.out]; exact decide_eq_false (by omega)
        have HC : Hid (Calls Try.prog 56 #[.pointer (some ⟨b, 0, none⟩)] wr fun e w' => e = .returned (.bool false) ∧ wr.grownBy w' none) := by
          have e : x2 - (k : Int) = 0 := by omega
          rw [e] at hB1
          exact back_no wr b x0 x1 _ _ hB1
        clear hB1 hbd
        go_wp2_with fail
        refine HC.out.mono ?_
        rintro e w2 ⟨rfl, hg2⟩
        have hcu := hg2.cell hcu (by simp)
        have HG2 := Lib.hid (grown_new HG.out HG1.out (fun c hc => by injection hc with hc; subst hc; exact HBS.out))
        have HO2 := Lib.hid ((HO.out.kept HG1.out (.inr HUB.out)).grown hg2)
        have HG3 := Lib.hid (grownN_trans HG2.out hg2)
        clear hg2
        go_wp2
        go_ret2
        exact ⟨_, ret_c HNO.out.symm, by rw [HRES.out, HNO.out]; exact HO2.out, HG3.out⟩
    · have HG2 := Lib.hid (grown_new HG.out HG1.out (fun c hc => by injection hc with hc; subst hc; exact HBS.out))
      have HO2 := Lib.hid (HO.out.kept HG1.out (.inr HUB.out))
      have hcu : wr.cell? ⟨b, 3, none⟩ = some (.slice ua un uc) := hB1.cell 3
      by_cases h1 : n < 1
      · have HNO : Hid (backOk L t n = false) := by show _ = _; rw [HLIM.out]; exact decide_eq_false (by omega)
        clear hB1 hbd
        go_wp2
        go_ret2
        exact ⟨_, ret_c HNO.out.symm, by rw [HRES.out, HNO.out]; exact HO2.out, HG2.out⟩
      · have hkn' : (k : Int) = n := by omega
        have HYES : Hid (backOk L t n = true) := by show _ = _; rw [HLIM.out]; exact decide_eq_true (by omega)
        rcases HFO.out with hfo | ⟨j, hj, hfo, hxj⟩
        · exfalso
          have := HXZ.out hfo
          injection this with e0 e1 e2
          subst e0 e1 e2
          omega
        · have hpl := placeAt_yes hfo
          have hju : j < un := by rw [← HN.out]; exact hj
          have hO2 := HO2.out
          obtain ⟨g, rfl⟩ : ∃ g, ua = some ⟨g, 0, none⟩ := by
            rcases hO2.1.2 with ⟨h, _⟩ | ⟨g', cap', cur', h, _⟩
            · injection h with _ h; omega
            · injection h with h; exact ⟨g', h⟩
          have HGB : Hid (g ≠ b) := fun e => HUB.out (by rw [e]; rfl)
          have HYO : Hid (enc3.ok (val_back ⟨x0, x1, x2⟩ n)) := by
            have h0 := HOKX.out.1
            have hbd := HBD.out
            dsimp only at h0
            refine ⟨h0, ?_, ?_⟩ <;> (simp only [val_back]; exact i64_mk (by omega))
          have hp := hO2.put3 HN.out hj _ HYO.out
          simp only [val_back] at hp
          rw [hkn'] at hB1
          clear hkn'
          have HP := Lib.hid hp
          have HBD2 := Lib.hid (hB1.grown (grown_drew (World.grownBy.refl wr none)))
          have HBK := Lib.hid ((hB1.kept hp.2 (fun e => HGB.out (by injection e))).grown (grown_drew (World.grownBy.refl _ none)))
          obtain ⟨z0, z1, z2⟩ := hO2.cell3 hj
          obtain ⟨z, hz⟩ : ∃ z, z = L.getD j zI3 := ⟨_, rfl⟩
          rw [← hz] at z0 z1 z2
          have f0 := hO2.free (j * 3)
          have f1 := hO2.free (j * 3 + 1)
          have f2 := hO2.free (j * 3 + 2)
          have hpi : (0 : Int) ≤ (j : Int) := by omega
          have hpj : (j : Int) < (un : Int) := by omega
          rw [hpl] at HBK HBD2
          clear hp hz hO2 hbd hB1 hcu hpl
          go_wp2_with fail
          refine wp_region_held_drew (S := fun w' => w'.cell? ⟨b, 0, none⟩ = some (.int .i64 (x0)) ∧ w'.cell? ⟨b, 1, none⟩ = some (.int .i64 (x1)) ∧ w'.cell? ⟨b, 2, none⟩ = some (.int .i64 (x2 - n)) ∧ w'.cell? ⟨b, 3, none⟩ = some (.slice (some ⟨g, 0, none⟩) un uc) ∧ w'.cell? ⟨b, 4, none⟩ = some (.int .i64 (j : Int))) (by kernel_rfl) ⟨HBD2.out.cell 0, HBD2.out.cell 1, HBD2.out.cell 2, HBD2.out.cell 3, HBD2.out.cell 4⟩ (fun hHeld => ?_)
          refine wpAnyH_take (i := 0) (v := ?_) rfl (by kernel_rfl) (by kernel_rfl) (by kernel_rfl) (fun _ _ _ h => h) (Or.inl ⟨by rfl, ?_⟩) (by assumption) ?_; rotate_left; (focus (intro wS hSw; (try dsimp only at hSw); go_simp <;> with_reducible rfl)); (try simp only [Act.put, List.getElem_toArray, List.getElem_cons_succ, List.getElem_cons_zero, List.setIfInBounds_toArray, List.set_cons_zero, List.set_cons_succ])
          refine wpAnyH_take (i := 1) (v := ?_) rfl (by kernel_rfl) (by kernel_rfl) (by kernel_rfl) (fun _ _ _ h => h) (Or.inl ⟨by rfl, ?_⟩) (by assumption) ?_; rotate_left; (focus (intro wS hSw; (try dsimp only at hSw); go_simp <;> with_reducible rfl)); (try simp only [Act.put, List.getElem_toArray, List.getElem_cons_succ, List.getElem_cons_zero, List.setIfInBounds_toArray, List.set_cons_zero, List.set_cons_succ])
          refine wpAnyH_take (i := 2) (v := ?_) rfl (by kernel_rfl) (by kernel_rfl) (by kernel_rfl) (fun _ _ _ h => h) (Or.inl ⟨by rfl, ?_⟩) (by assumption) ?_; rotate_left; (focus (intro wS hSw; (try dsimp only at hSw); go_simp <;> with_reducible rfl)); (try simp only [Act.put, List.getElem_toArray, List.getElem_cons_succ, List.getElem_cons_zero, List.setIfInBounds_toArray, List.set_cons_zero, List.set_cons_succ])
          refine wpAnyH_take (i := 3) (v := ?_) rfl (by kernel_rfl) (by kernel_rfl) (by kernel_rfl) (fun _ _ _ h => h) (Or.inl ⟨by rfl, ?_⟩) (by assumption) ?_; rotate_left; (focus (intro wS hSw; (try dsimp only at hSw); go_simp <;> with_reducible rfl)); (try simp only [Act.put, List.getElem_toArray, List.getElem_cons_succ, List.getElem_cons_zero, List.setIfInBounds_toArray, List.set_cons_zero, List.set_cons_succ])
          refine wpAnyH_take (i := 4) (v := ?_) rfl (by kernel_rfl) (by kernel_rfl) (by kernel_rfl) (fun _ _ _ h => h) (Or.inl ⟨by rfl, ?_⟩) (by assumption) ?_; rotate_left; (focus (intro wS hSw; (try dsimp only at hSw); go_simp <;> with_reducible rfl)); (try simp only [Act.put, List.getElem_toArray, List.getElem_cons_succ, List.getElem_cons_zero, List.setIfInBounds_toArray, List.set_cons_zero, List.set_cons_succ])
          refine wpAnyH_take (i := 5) (v := ?_) rfl (by kernel_rfl) (by kernel_rfl) (by kernel_rfl) (fun _ _ _ h => h) (Or.inl ⟨by rfl, ?_⟩) (by assumption) ?_; rotate_left; (focus (intro wS hSw; (try dsimp only at hSw); go_simp <;> with_reducible rfl)); (try simp only [Act.put, List.getElem_toArray, List.getElem_cons_succ, List.getElem_cons_zero, List.setIfInBounds_toArray, List.set_cons_zero, List.set_cons_succ])
          refine wpAnyH_take (i := 6) (v := ?_) rfl (by kernel_rfl) (by kernel_rfl) (by kernel_rfl) (fun _ _ _ h => h) (Or.inl ⟨by rfl, ?_⟩) (by assumption) ?_; rotate_left; (focus (intro wS hSw; (try dsimp only at hSw); go_simp <;> with_reducible rfl)); (try simp only [Act.put, List.getElem_toArray, List.getElem_cons_succ, List.getElem_cons_zero, List.setIfInBounds_toArray, List.set_cons_zero, List.set_cons_succ])
          refine wpAnyH_take (i := 7) (v := ?_) rfl (by kernel_rfl) (by kernel_rfl) (by kernel_rfl) (fun _ _ _ h => h) (Or.inl ⟨by rfl, ?_⟩) (by assumption) ?_; rotate_left; (focus (intro wS hSw; (try dsimp only at hSw); go_simp <;> with_reducible rfl)); (try simp only [Act.put, List.getElem_toArray, List.getElem_cons_succ, List.getElem_cons_zero, List.setIfInBounds_toArray, List.set_cons_zero, List.set_cons_succ])
          refine wpAnyH_take (i := 8) (v := ?_) rfl (by kernel_rfl) (by kernel_rfl) (by kernel_rfl) (fun _ _ _ h => h) (Or.inl ⟨by rfl, ?_⟩) (by assumption) ?_; rotate_left; (focus (intro wS hSw; (try dsimp only at hSw); go_simp <;> with_reducible rfl)); (try simp only [Act.put, List.getElem_toArray, List.getElem_cons_succ, List.getElem_cons_zero, List.setIfInBounds_toArray, List.set_cons_zero, List.set_cons_succ])
          refine wpAnyH_take (i := 9) (v := ?_) rfl (by kernel_rfl) (by kernel_rfl) (by kernel_rfl) (fun _ _ _ h => h) (Or.inl ⟨by rfl, ?_⟩) (by assumption) ?_; rotate_left; (focus (intro wS hSw; (try dsimp only at hSw); go_simp <;> with_reducible rfl)); (try simp only [Act.put, List.getElem_toArray, List.getElem_cons_succ, List.getElem_cons_zero, List.setIfInBounds_toArray, List.set_cons_zero, List.set_cons_succ])
          refine wpAnyH_take (i := 10) (v := ?_) rfl (by kernel_rfl) (by kernel_rfl) (by kernel_rfl) (fun _ _ _ h => h) (Or.inl ⟨by rfl, ?_⟩) (by assumption) ?_; rotate_left; (focus (intro wS hSw; (try dsimp only at hSw); go_simp <;> with_reducible rfl)); (try simp only [Act.put, List.getElem_toArray, List.getElem_cons_succ, List.getElem_cons_zero, List.setIfInBounds_toArray, List.set_cons_zero, List.set_cons_succ])
          refine wpAnyH_take (i := 11) (v := ?_) rfl (by kernel_rfl) (by kernel_rfl) (by kernel_rfl) (fun _ _ _ h => h) (Or.inl ⟨by rfl, ?_⟩) (by assumption) ?_; rotate_left; (focus (intro wS hSw; (try dsimp only at hSw); go_simp <;> with_reducible rfl)); (try simp only [Act.put, List.getElem_toArray, List.getElem_cons_succ, List.getElem_cons_zero, List.setIfInBounds_toArray, List.set_cons_zero, List.set_cons_succ])
          refine wpAnyH_take (i := 12) (v := ?_) rfl (by kernel_rfl) (by kernel_rfl) (by kernel_rfl) (fun _ _ _ h => h) (Or.inl ⟨by rfl, ?_⟩) (by assumption) ?_; rotate_left; (focus (intro wS hSw; (try dsimp only at hSw); go_simp <;> with_reducible rfl)); (try simp only [Act.put, List.getElem_toArray, List.getElem_cons_succ, List.getElem_cons_zero, List.setIfInBounds_toArray, List.set_cons_zero, List.set_cons_succ])
          refine wpAnyH_ready (rs := [13]) (by kernel_rfl) (by simp) ?_; refine AllReadyH.cons rfl (fun K hK => ?_) AllReadyH.nil; go_simp
          refine hK.out _ _ (⟨HBK.out.cell 0, HBK.out.cell 1, HBK.out.cell 2, HBK.out.cell 3, HBK.out.cell 4⟩) (fun hHeld => ?_)
          clear hK K
          (try simp only [Act.put, List.getElem_toArray, List.getElem_cons_succ, List.getElem_cons_zero, List.setIfInBounds_toArray, List.set_cons_zero, List.set_cons_succ])
          refine wpAnyH_done (by kernel_rfl) ?_ _
          (try simp only [Act.put, List.getElem_toArray, List.getElem_cons_succ, List.getElem_cons_zero, List.setIfInBounds_toArray, List.set_cons_zero, List.set_cons_succ])
          have hcu : World.cell? _ ⟨b, 3, none⟩ = some (.slice (some ⟨g, 0, none⟩) un uc) := HBK.out.cell 3
          go_wp2
          go_ret2
          exact ⟨_, ret_c HYES.out.symm, by rw [HRES.out, HYES.out, if_pos rfl]; unfold put; rw [hfo]; exact HP.out.1.grown (grown_drew (World.grownBy.refl _ none)), grown_new HG2.out (grownN_trans HP.out.2 (grown_drew (World.grownBy.refl _ (some g)))) (fun c hc => by injection hc with hc; subst hc; exact (HO2.out.lt _ rfl).1)⟩

set_option maxRecDepth 20000 in
set_option maxHeartbeats 1000000 in
theorem iGiveBack_any (w : World) (v : Value) (t n : Int) (L : List I3) (hv : SeesG enc3 w v L) (hn : L.length ≤ 1000000000) :
    Calls Try.prog 27 #[v, .int .i64 t, .int .i64 n] w fun e w' => ∃ u, e = .returned (.tuple #[u, .bool (backOk L t n)]) ∧ OwnG enc3 46 w' w.heap.size u (back L t n) ∧ w.grownBy w' none := by
  have HC := Lib.hid (change_back w v t n L hv hn)
  clear hv
  go_enter Try.func27, Try.ntmps27
  go_wp2_with fail
  refine HC.out.mono ?_
  rintro e w1 ⟨u, rfl, hO, hg⟩
  have HO := Lib.hid hO
  have HG := Lib.hid hg
  clear hO hg HC
  obtain ⟨ua, un, uc, rfl, HN⟩ := HO.out.sees.shape
  go_wp2
  go_ret2
  exact ⟨_, rfl, HO.out, HG.out⟩

set_option maxRecDepth 20000 in
set_option maxHeartbeats 2000000 in
theorem change_lose (w : World) (v : Value) (t n : Int) (L : List I3) (hv : SeesG enc3 w v L) (hn : L.length ≤ 1000000000) :
    Calls Try.prog 54 #[v, .int .i64 t, .int .i64 n, .func (.func 57) #[] #[]] w fun e w' => ∃ u, e = .returned (.tuple #[u, .bool (backOk L t n)]) ∧ OwnG enc3 46 w' w.heap.size u (lose L t n) ∧ w.grownBy w' none := by
  have HS := Lib.hid (storeFor_any w v t L hv hn)
  have hbd := stock_bd L t
  have hok := hv.ok
  obtain ⟨x, hx⟩ : ∃ x, stock L t = x := ⟨_, rfl⟩
  rw [hx] at hbd HS
  have HLIM : Hid (backOk L t n = decide (1 ≤ n ∧ n ≤ x.x2)) := by show _ = _; simp only [backOk, hx]
  have HRES : Hid (lose L t n = if backOk L t n = true then put L t (val_lose x n) else L) := by show _ = _; unfold lose val_lose; rw [hx]
  have HFO : Hid (find L t = -1 ∨ ∃ j : Nat, j < L.length ∧ find L t = j ∧ L.getD j zI3 = x) := by
    rcases find_of L t with h | ⟨j, hj, _, _, hf, _⟩
    · exact .inl h
    · exact .inr ⟨j, hj, hf, by rw [← hx, stock_yes hf]⟩
  have HOKX : Hid (enc3.ok x) := by
    rcases HFO.out with h | ⟨j, hj, _, e⟩
    · rw [← hx, stock_no h]; exact ⟨rfl, rfl, rfl⟩
    · rw [← e]; exact hok _ (memG hj)
  have HXZ : Hid (find L t = -1 → x = zI3) := fun h => by rw [← hx, stock_no h]
  clear hx hok
  obtain ⟨x0, x1, x2⟩ := x
  dsimp only at hbd HLIM
  have HBD := Lib.hid hbd
  clear hbd
  go_enter Try.func54, Try.ntmps54
  go_wp2_with fail
  refine HS.out.mono ?_
  rintro e w1 ⟨b, rfl, u, hB, hO, hb, hub, hg⟩
  obtain ⟨ua, un, uc, rfl, HN⟩ := hO.sees.shape
  have HB := Lib.hid hB
  have HO := Lib.hid hO
  have HBS := Lib.hid hb
  have HUB := Lib.hid hub
  have HG := Lib.hid hg
  clear hB hO hb hub hg HS
  go_wp2
  go_loopw [15] (fun i wr => ∃ k : Nat, i = .int .i64 k ∧ (k = 0 ∨ (k : Int) ≤ n) ∧ (k : Int) ≤ x2 ∧ Hid (Box wr b (store (val_lose ⟨x0, x1, x2⟩ k) (.slice ua un uc) (placeAt L t)) 54) ∧ Hid (w1.grownBy wr (some b))) (fun i _ => (x2).toNat + 1 - (intOf i).toNat)
  case atStart =>
    have hbd := HBD.out
    exact ⟨0, rfl, .inl rfl, by simp; omega, by show Box _ _ _ _; unfold val_lose store; dsimp only; simp only [Int.natCast_zero, Int.add_zero, Int.sub_zero]; exact HB.out, World.grownBy.refl _ _⟩
  case round =>
    rename_i _ wr
    obtain ⟨k, rfl, hkn, hkl, HB1, HG1⟩ := hrel
    have hB1 := HB1.out
    simp only [val_lose, store] at hB1
    have HB1' := Lib.hid hB1
    have hbd := HBD.out
    by_cases hlt : (k : Int) < n
    · have hcu : wr.cell? ⟨b, 3, none⟩ = some (.slice ua un uc) := hB1.cell 3
      have hk10 : (k : Int) ≤ 1000 := by omega
      by_cases hf : (k : Int) < x2
      · have HC := Lib.hid (lose_yes wr b x0 (x1 - (k : Int)) (x2 - (k : Int)) (placeAt L t) _ hB1 (by omega) (by omega))
        clear hB1 hbd hcu
        go_wp2_with fail
        refine HC.out.mono ?_
        rintro e w2 ⟨rfl, hB2, hg2⟩
        have HB2 : Hid (Box w2 b (store (val_lose ⟨x0, x1, x2⟩ ((k + 1 : Nat) : Int)) (.slice ua un uc) (placeAt L t)) 54) := by
          show Box _ _ _ _
          simp only [val_lose, store]
          rw [show x1 - ((k + 1 : Nat) : Int) = x1 - (k : Int) - 1 by omega, show x2 - ((k + 1 : Nat) : Int) = x2 - (k : Int) - 1 by omega]
          exact hB2
        have HG2 := Lib.hid (grown_trans HG1.out hg2)
        clear hB2 hg2
        go_wp2
        go_roundw
        case rel => exact ⟨k + 1, by go_num, .inr (by omega), by omega, HB2, HG2⟩
        case measure => simp [intOf]; omega
      · have HNO : Hid (backOk L t n = false) := by show _ = _; rw [HLIM.out]; exact decide_eq_false (by omega)
        have HC : Hid (Calls Try.prog 57 #[.pointer (some ⟨b, 0, none⟩)] wr fun e w' => e = .returned (.bool false) ∧ wr.grownBy w' none) := by
          have e : x2 - (k : Int) = 0 := by omega
          rw [e] at hB1
          exact lose_no wr b x0 (x1 - (k : Int)) _ _ hB1
        clear hB1 hbd
        go_wp2_with fail
        refine HC.out.mono ?_
        rintro e w2 ⟨rfl, hg2⟩
        have hcu := hg2.cell hcu (by simp)
        have HG2 := Lib.hid (grown_new HG.out HG1.out (fun c hc => by injection hc with hc; subst hc; exact HBS.out))
        have HO2 := Lib.hid ((HO.out.kept HG1.out (.inr HUB.out)).grown hg2)
        have HG3 := Lib.hid (grownN_trans HG2.out hg2)
        clear hg2
        go_wp2
        go_ret2
        exact ⟨_, ret_c HNO.out.symm, by rw [HRES.out, HNO.out]; exact HO2.out, HG3.out⟩
    · have HG2 := Lib.hid (grown_new HG.out HG1.out (fun c hc => by injection hc with hc; subst hc; exact HBS.out))
      have HO2 := Lib.hid (HO.out.kept HG1.out (.inr HUB.out))
      have hcu : wr.cell? ⟨b, 3, none⟩ = some (.slice ua un uc) := hB1.cell 3
      by_cases h1 : n < 1
      · have HNO : Hid (backOk L t n = false) := by show _ = _; rw [HLIM.out]; exact decide_eq_false (by omega)
        clear hB1 hbd
        go_wp2
        go_ret2
        exact ⟨_, ret_c HNO.out.symm, by rw [HRES.out, HNO.out]; exact HO2.out, HG2.out⟩
      · have hkn' : (k : Int) = n := by omega
        have HYES : Hid (backOk L t n = true) := by show _ = _; rw [HLIM.out]; exact decide_eq_true (by omega)
        rcases HFO.out with hfo | ⟨j, hj, hfo, hxj⟩
        · exfalso
          have := HXZ.out hfo
          injection this with e0 e1 e2
          subst e0 e1 e2
          omega
        · have hpl := placeAt_yes hfo
          have hju : j < un := by rw [← HN.out]; exact hj
          have hO2 := HO2.out
          obtain ⟨g, rfl⟩ : ∃ g, ua = some ⟨g, 0, none⟩ := by
            rcases hO2.1.2 with ⟨h, _⟩ | ⟨g', cap', cur', h, _⟩
            · injection h with _ h; omega
            · injection h with h; exact ⟨g', h⟩
          have HGB : Hid (g ≠ b) := fun e => HUB.out (by rw [e]; rfl)
          have HYO : Hid (enc3.ok (val_lose ⟨x0, x1, x2⟩ n)) := by
            have h0 := HOKX.out.1
            have hbd := HBD.out
            dsimp only at h0
            refine ⟨h0, ?_, ?_⟩ <;> (simp only [val_lose]; exact i64_mk (by omega))
          have hp := hO2.put3 HN.out hj _ HYO.out
          simp only [val_lose] at hp
          rw [hkn'] at hB1
          clear hkn'
          have HP := Lib.hid hp
          have HBD2 := Lib.hid (hB1.grown (grown_drew (World.grownBy.refl wr none)))
          have HBK := Lib.hid ((hB1.kept hp.2 (fun e => HGB.out (by injection e))).grown (grown_drew (World.grownBy.refl _ none)))
          obtain ⟨z0, z1, z2⟩ := hO2.cell3 hj
          obtain ⟨z, hz⟩ : ∃ z, z = L.getD j zI3 := ⟨_, rfl⟩
          rw [← hz] at z0 z1 z2
          have f0 := hO2.free (j * 3)
          have f1 := hO2.free (j * 3 + 1)
          have f2 := hO2.free (j * 3 + 2)
          have hpi : (0 : Int) ≤ (j : Int) := by omega
          have hpj : (j : Int) < (un : Int) := by omega
          rw [hpl] at HBK HBD2
          clear hp hz hO2 hbd hB1 hcu hpl
          go_wp2_with fail
          refine wp_region_held_drew (S := fun w' => w'.cell? ⟨b, 0, none⟩ = some (.int .i64 (x0)) ∧ w'.cell? ⟨b, 1, none⟩ = some (.int .i64 (x1 - n)) ∧ w'.cell? ⟨b, 2, none⟩ = some (.int .i64 (x2 - n)) ∧ w'.cell? ⟨b, 3, none⟩ = some (.slice (some ⟨g, 0, none⟩) un uc) ∧ w'.cell? ⟨b, 4, none⟩ = some (.int .i64 (j : Int))) (by kernel_rfl) ⟨HBD2.out.cell 0, HBD2.out.cell 1, HBD2.out.cell 2, HBD2.out.cell 3, HBD2.out.cell 4⟩ (fun hHeld => ?_)
          refine wpAnyH_take (i := 0) (v := ?_) rfl (by kernel_rfl) (by kernel_rfl) (by kernel_rfl) (fun _ _ _ h => h) (Or.inl ⟨by rfl, ?_⟩) (by assumption) ?_; rotate_left; (focus (intro wS hSw; (try dsimp only at hSw); go_simp <;> with_reducible rfl)); (try simp only [Act.put, List.getElem_toArray, List.getElem_cons_succ, List.getElem_cons_zero, List.setIfInBounds_toArray, List.set_cons_zero, List.set_cons_succ])
          refine wpAnyH_take (i := 1) (v := ?_) rfl (by kernel_rfl) (by kernel_rfl) (by kernel_rfl) (fun _ _ _ h => h) (Or.inl ⟨by rfl, ?_⟩) (by assumption) ?_; rotate_left; (focus (intro wS hSw; (try dsimp only at hSw); go_simp <;> with_reducible rfl)); (try simp only [Act.put, List.getElem_toArray, List.getElem_cons_succ, List.getElem_cons_zero, List.setIfInBounds_toArray, List.set_cons_zero, List.set_cons_succ])
          refine wpAnyH_take (i := 2) (v := ?_) rfl (by kernel_rfl) (by kernel_rfl) (by kernel_rfl) (fun _ _ _ h => h) (Or.inl ⟨by rfl, ?_⟩) (by assumption) ?_; rotate_left; (focus (intro wS hSw; (try dsimp only at hSw); go_simp <;> with_reducible rfl)); (try simp only [Act.put, List.getElem_toArray, List.getElem_cons_succ, List.getElem_cons_zero, List.setIfInBounds_toArray, List.set_cons_zero, List.set_cons_succ])
          refine wpAnyH_take (i := 3) (v := ?_) rfl (by kernel_rfl) (by kernel_rfl) (by kernel_rfl) (fun _ _ _ h => h) (Or.inl ⟨by rfl, ?_⟩) (by assumption) ?_; rotate_left; (focus (intro wS hSw; (try dsimp only at hSw); go_simp <;> with_reducible rfl)); (try simp only [Act.put, List.getElem_toArray, List.getElem_cons_succ, List.getElem_cons_zero, List.setIfInBounds_toArray, List.set_cons_zero, List.set_cons_succ])
          refine wpAnyH_take (i := 4) (v := ?_) rfl (by kernel_rfl) (by kernel_rfl) (by kernel_rfl) (fun _ _ _ h => h) (Or.inl ⟨by rfl, ?_⟩) (by assumption) ?_; rotate_left; (focus (intro wS hSw; (try dsimp only at hSw); go_simp <;> with_reducible rfl)); (try simp only [Act.put, List.getElem_toArray, List.getElem_cons_succ, List.getElem_cons_zero, List.setIfInBounds_toArray, List.set_cons_zero, List.set_cons_succ])
          refine wpAnyH_take (i := 5) (v := ?_) rfl (by kernel_rfl) (by kernel_rfl) (by kernel_rfl) (fun _ _ _ h => h) (Or.inl ⟨by rfl, ?_⟩) (by assumption) ?_; rotate_left; (focus (intro wS hSw; (try dsimp only at hSw); go_simp <;> with_reducible rfl)); (try simp only [Act.put, List.getElem_toArray, List.getElem_cons_succ, List.getElem_cons_zero, List.setIfInBounds_toArray, List.set_cons_zero, List.set_cons_succ])
          refine wpAnyH_take (i := 6) (v := ?_) rfl (by kernel_rfl) (by kernel_rfl) (by kernel_rfl) (fun _ _ _ h => h) (Or.inl ⟨by rfl, ?_⟩) (by assumption) ?_; rotate_left; (focus (intro wS hSw; (try dsimp only at hSw); go_simp <;> with_reducible rfl)); (try simp only [Act.put, List.getElem_toArray, List.getElem_cons_succ, List.getElem_cons_zero, List.setIfInBounds_toArray, List.set_cons_zero, List.set_cons_succ])
          refine wpAnyH_take (i := 7) (v := ?_) rfl (by kernel_rfl) (by kernel_rfl) (by kernel_rfl) (fun _ _ _ h => h) (Or.inl ⟨by rfl, ?_⟩) (by assumption) ?_; rotate_left; (focus (intro wS hSw; (try dsimp only at hSw); go_simp <;> with_reducible rfl)); (try simp only [Act.put, List.getElem_toArray, List.getElem_cons_succ, List.getElem_cons_zero, List.setIfInBounds_toArray, List.set_cons_zero, List.set_cons_succ])
          refine wpAnyH_take (i := 8) (v := ?_) rfl (by kernel_rfl) (by kernel_rfl) (by kernel_rfl) (fun _ _ _ h => h) (Or.inl ⟨by rfl, ?_⟩) (by assumption) ?_; rotate_left; (focus (intro wS hSw; (try dsimp only at hSw); go_simp <;> with_reducible rfl)); (try simp only [Act.put, List.getElem_toArray, List.getElem_cons_succ, List.getElem_cons_zero, List.setIfInBounds_toArray, List.set_cons_zero, List.set_cons_succ])
          refine wpAnyH_take (i := 9) (v := ?_) rfl (by kernel_rfl) (by kernel_rfl) (by kernel_rfl) (fun _ _ _ h => h) (Or.inl ⟨by rfl, ?_⟩) (by assumption) ?_; rotate_left; (focus (intro wS hSw; (try dsimp only at hSw); go_simp <;> with_reducible rfl)); (try simp only [Act.put, List.getElem_toArray, List.getElem_cons_succ, List.getElem_cons_zero, List.setIfInBounds_toArray, List.set_cons_zero, List.set_cons_succ])
          refine wpAnyH_take (i := 10) (v := ?_) rfl (by kernel_rfl) (by kernel_rfl) (by kernel_rfl) (fun _ _ _ h => h) (Or.inl ⟨by rfl, ?_⟩) (by assumption) ?_; rotate_left; (focus (intro wS hSw; (try dsimp only at hSw); go_simp <;> with_reducible rfl)); (try simp only [Act.put, List.getElem_toArray, List.getElem_cons_succ, List.getElem_cons_zero, List.setIfInBounds_toArray, List.set_cons_zero, List.set_cons_succ])
          refine wpAnyH_take (i := 11) (v := ?_) rfl (by kernel_rfl) (by kernel_rfl) (by kernel_rfl) (fun _ _ _ h => h) (Or.inl ⟨by rfl, ?_⟩) (by assumption) ?_; rotate_left; (focus (intro wS hSw; (try dsimp only at hSw); go_simp <;> with_reducible rfl)); (try simp only [Act.put, List.getElem_toArray, List.getElem_cons_succ, List.getElem_cons_zero, List.setIfInBounds_toArray, List.set_cons_zero, List.set_cons_succ])
          refine wpAnyH_take (i := 12) (v := ?_) rfl (by kernel_rfl) (by kernel_rfl) (by kernel_rfl) (fun _ _ _ h => h) (Or.inl ⟨by rfl, ?_⟩) (by assumption) ?_; rotate_left; (focus (intro wS hSw; (try dsimp only at hSw); go_simp <;> with_reducible rfl)); (try simp only [Act.put, List.getElem_toArray, List.getElem_cons_succ, List.getElem_cons_zero, List.setIfInBounds_toArray, List.set_cons_zero, List.set_cons_succ])
          refine wpAnyH_ready (rs := [13]) (by kernel_rfl) (by simp) ?_; refine AllReadyH.cons rfl (fun K hK => ?_) AllReadyH.nil; go_simp
          refine hK.out _ _ (⟨HBK.out.cell 0, HBK.out.cell 1, HBK.out.cell 2, HBK.out.cell 3, HBK.out.cell 4⟩) (fun hHeld => ?_)
          clear hK K
          (try simp only [Act.put, List.getElem_toArray, List.getElem_cons_succ, List.getElem_cons_zero, List.setIfInBounds_toArray, List.set_cons_zero, List.set_cons_succ])
          refine wpAnyH_done (by kernel_rfl) ?_ _
          (try simp only [Act.put, List.getElem_toArray, List.getElem_cons_succ, List.getElem_cons_zero, List.setIfInBounds_toArray, List.set_cons_zero, List.set_cons_succ])
          have hcu : World.cell? _ ⟨b, 3, none⟩ = some (.slice (some ⟨g, 0, none⟩) un uc) := HBK.out.cell 3
          go_wp2
          go_ret2
          exact ⟨_, ret_c HYES.out.symm, by rw [HRES.out, HYES.out, if_pos rfl]; unfold put; rw [hfo]; exact HP.out.1.grown (grown_drew (World.grownBy.refl _ none)), grown_new HG2.out (grownN_trans HP.out.2 (grown_drew (World.grownBy.refl _ (some g)))) (fun c hc => by injection hc with hc; subst hc; exact (HO2.out.lt _ rfl).1)⟩

set_option maxRecDepth 20000 in
set_option maxHeartbeats 1000000 in
theorem iLose_any (w : World) (v : Value) (t n : Int) (L : List I3) (hv : SeesG enc3 w v L) (hn : L.length ≤ 1000000000) :
    Calls Try.prog 29 #[v, .int .i64 t, .int .i64 n] w fun e w' => ∃ u, e = .returned (.tuple #[u, .bool (backOk L t n)]) ∧ OwnG enc3 46 w' w.heap.size u (lose L t n) ∧ w.grownBy w' none := by
  have HC := Lib.hid (change_lose w v t n L hv hn)
  clear hv
  go_enter Try.func29, Try.ntmps29
  go_wp2_with fail
  refine HC.out.mono ?_
  rintro e w1 ⟨u, rfl, hO, hg⟩
  have HO := Lib.hid hO
  have HG := Lib.hid hg
  clear hO hg HC
  obtain ⟨ua, un, uc, rfl, HN⟩ := HO.out.sees.shape
  go_wp2
  go_ret2
  exact ⟨_, rfl, HO.out, HG.out⟩
end Go.Proofs.Ytinpnedijmmpgaa.StoI
