/- Contracts of the model's functions on stocks. -/
import Derived.Test.YtinpnedijmmpgaaStoF
import Derived.IntWalk
import Derived.Deep.QuietTactic
import Derived.BigQuiet
import Derived.Deep.RegionHeld3
namespace Go.Proofs.Ytinpnedijmmpgaa.StoS
open Go.RowKit Kit Rw Rg Sto Md

theorem quietly {P : Program} {f : FuncId} {args : Array Value} {w : World} {v : Value} (h : Calls P f args w fun e w' => e = .returned v ∧ w = w') : Calls P f args w fun e w' => e = .returned v ∧ w' = w := h.mono fun _ _ h => ⟨h.1, h.2.symm⟩
def inb (n l h : Int) : Bool := decide (l ≤ n ∧ n ≤ h)
theorem l1In_b (n l h : Int) (w : World) : Calls Try.prog 48 #[.int .i64 n, .int .i64 l, .int .i64 h] w fun e w' => e = .returned (.bool (inb n l h)) ∧ w' = w := quietly (l1In_any n l h w)
theorem l1In_c (n l h : Int) (w : World) : Calls Try.prog 48 #[.int .i64 n, .int .i64 l, .int .i64 h] w fun e w' => e = .returned (.bool (inb n l h)) ∧ w = w' := l1In_any n l h w

set_option maxRecDepth 20000 in
set_option maxHeartbeats 1000000 in
theorem sAreStocks_any (w : World) (v : Value) (L : List I3) (hv : SeesG enc3 w v L) :
    Calls Try.prog 16 #[v] w fun e w' => e = .returned (.bool (areSto L)) ∧ w.grownBy w' none := by
  have hl := hv.len
  have HV := Lib.hid hv
  obtain ⟨a, cap, rfl, _⟩ := hv
  go_enter Try.func16, Try.ntmps16
  go_wp2
  go_loopw [3] (fun i wr => ∃ j : Nat, j ≤ L.length ∧ i = .int .i64 j ∧ Hid (upTo L j) ∧ Hid (w.grownBy wr none)) (fun i _ => L.length - (intOf i).toNat)
  case atStart => exact ⟨0, Nat.zero_le _, rfl, upTo_zero L, World.grownBy.refl _ _⟩
  case round =>
    obtain ⟨j, hj, rfl, HU, HG⟩ := hrel
    by_cases hlt : j < L.length
    · obtain ⟨b, o, rfl, _, _⟩ := HV.out.at_row hlt
      obtain ⟨x, hx⟩ : ∃ x, L.getD j zI3 = x := ⟨_, rfl⟩
      obtain ⟨d0, d1, d2⟩ := at3_in HV.out HG.out hlt hx
      have HX := Lib.hid hx
      clear hx
      obtain ⟨xi, xs, xn⟩ := x
      dsimp only at d0 d1 d2
      by_cases hA : 1 ≤ xi ∧ xi ≤ 20
      · by_cases hB : 0 ≤ xs ∧ xs ≤ 1000
        · by_cases hC : 0 ≤ xn ∧ xn ≤ xs
          · have HOK : Hid (okSto (L.getD j zI3) = true) := by show _ = _; rw [HX.out]; unfold okSto; rw [decide_eq_true hA, decide_eq_true hB, decide_eq_true hC]; rfl
            have h0 : inb xi 1 20 = true := decide_eq_true hA
            have h1 : inb xs 0 1000 = true := decide_eq_true hB
            have h2 : inb xn 0 xs = true := decide_eq_true hC
            by_cases h0 : j = 0
            · have hj0 : (j : Int) ≤ 0 := by omega
              have hjd : decide (0 < j) = false := decide_eq_false (by omega)
              have HU2 : Hid (upTo L (j + 1)) := upTo_next HU.out HOK.out (fun h => absurd h (by omega))
              clear hA hB hC h0
              go_wp2
              go_quiet (first | (go_at_call 48; refine Calls.quiet_of_same (l1In_b _ _ _ _)))
              go_wp2
              go_roundw
              case rel => exact ⟨j + 1, by omega, by go_num, HU2, grown_drewN HG.out _⟩
              case measure => simp [intOf]; omega
            · obtain ⟨y, hy⟩ : ∃ y, L.getD (j - 1) zI3 = y := ⟨_, rfl⟩
              have hk : j - 1 < L.length := by omega
              obtain ⟨k, hkk⟩ : ∃ k, k = j - 1 := ⟨_, rfl⟩
              have hki : (j : Int) - 1 = k := by omega
              rw [← hkk] at hy hk
              obtain ⟨f0, _, _⟩ := at3_in HV.out HG.out hk hy
              have HY := Lib.hid hy
              have HKK := Lib.hid hkk
              clear hy hkk
              obtain ⟨yi, ys, yn⟩ := y
              dsimp only at f0
              have hj0 : (0 : Int) < j := by omega
              have hjd : decide (0 < j) = true := decide_eq_true (by omega)
              clear hA hB hC
              by_cases hq : yi < xi
              · have HU2 : Hid (upTo L (j + 1)) := upTo_next HU.out HOK.out (fun _ => by rw [HX.out, ← HKK.out, HY.out]; exact hq)
                go_wp2
                go_quiet (first | (go_at_call 48; refine Calls.quiet_of_same (l1In_b _ _ _ _)))
                go_wp2
                go_roundw
                case rel => exact ⟨j + 1, by omega, by go_num, HU2, grown_drewN HG.out _⟩
                case measure => simp [intOf]; omega
              · have HR : Hid (areSto L = false) := sto_bad hlt (by right; rw [HX.out, ← HKK.out, HY.out]; exact ⟨by omega, hq⟩)
                go_wp2
                go_quiet (first | (go_at_call 48; refine Calls.quiet_of_same (l1In_b _ _ _ _)))
                go_wp2
                go_ret
                exact ⟨ret_bool HR.out.symm, grown_drewN HG.out _⟩
          · skip
            have HR : Hid (areSto L = false) := sto_bad hlt (by left; rw [HX.out]; unfold okSto; rw [decide_eq_true hA, decide_eq_true hB, decide_eq_false hC]; rfl)
            have h0 : inb xi 1 20 = true := decide_eq_true hA
            have h1 : inb xs 0 1000 = true := decide_eq_true hB
            have h2 : inb xn 0 xs = false := decide_eq_false hC
            clear hA hB hC
            go_wp2
            go_quiet (first | (go_at_call 48; refine Calls.quiet_of_same (l1In_b _ _ _ _)))
            go_wp2
            go_ret
            exact ⟨ret_bool HR.out.symm, grown_drewN HG.out _⟩
        · skip
          have HR : Hid (areSto L = false) := sto_bad hlt (by left; rw [HX.out]; unfold okSto; rw [decide_eq_true hA, decide_eq_false hB]; simp)
          have h0 : inb xi 1 20 = true := decide_eq_true hA
          have h1 : inb xs 0 1000 = false := decide_eq_false hB
          clear hA hB
          go_wp2
          go_quiet (first | (go_at_call 48; refine Calls.quiet_of_same (l1In_b _ _ _ _)))
          go_wp2
          go_ret
          exact ⟨ret_bool HR.out.symm, grown_drewN HG.out _⟩
      · skip
        have HR : Hid (areSto L = false) := sto_bad hlt (by left; rw [HX.out]; unfold okSto; rw [decide_eq_false hA]; simp)
        have h0 : inb xi 1 20 = false := decide_eq_false hA
        clear hA
        go_wp2
        go_quiet (first | (go_at_call 48; refine Calls.quiet_of_same (l1In_b _ _ _ _)))
        go_wp2
        go_ret
        exact ⟨ret_bool HR.out.symm, grown_drewN HG.out _⟩
    · have : j = L.length := by omega
      subst this
      have HR : Hid (areSto L = true) := sto_yes HU.out
      go_wp2
      go_ret
      exact ⟨ret_bool (by rw [HR.out]), HG.out⟩

/-- What the model's look says of a row. -/
theorem find_hid (L : List I3) (t : Int) : Hid (find L t = -1) ∨ ∃ j : Nat, j < L.length ∧ Hid (areSto L = true) ∧ Hid ((L.getD j zI3).x0 = t) ∧ Hid (find L t = j) := by
  rcases find_of L t with h | ⟨j, a, b, c, d, _⟩
  · exact .inl h
  · exact .inr ⟨j, a, b, c, d⟩

set_option maxRecDepth 20000 in
set_option maxHeartbeats 1000000 in
theorem sFind_any (w : World) (v : Value) (t : Int) (L : List I3) (hv : SeesG enc3 w v L) :
    Calls Try.prog 52 #[v, .int .i64 t] w fun e w' => e = .returned (.int .i64 (find L t)) ∧ w.grownBy w' none := by
  have hl := hv.len
  have HV := Lib.hid hv
  have HA := Lib.hid (fun w h => sAreStocks_any w v L h)
  obtain ⟨a, cap, rfl, _⟩ := hv
  cases hs : areSto L
  · have HR : Hid (find L t = -1) := by show _ = _; unfold find; rw [hs]; rfl
    rw [hs] at HA
    clear hs
    go_enter Try.func52, Try.ntmps52
    go_wp2
    go_loopw [5] (fun i wr => i = .int .i64 0 ∧ Hid (w.grownBy wr none)) (fun _ _ => 0)
    case atStart => exact ⟨rfl, World.grownBy.refl _ _⟩
    case round =>
      rename_i _ wr
      obtain ⟨rfl, HG⟩ := hrel
      by_cases h0 : 0 < L.length
      · have h0i : (0 : Int) < (L.length : Int) := by omega
        go_wp2_with (go_at_call 16; refine (HA.out _ (HV.out.grown HG.out)).mono ?_; rintro e w3 ⟨rfl, hg⟩; have HG3 := Lib.hid (grownN_trans HG.out hg); clear hg)
        go_ret
        exact ⟨ret_i64 HR.out.symm, HG3.out⟩
      · have hL : L.length = 0 := by omega
        go_wp2
        go_ret
        exact ⟨ret_i64 HR.out.symm, HG.out⟩
  · have HF : Hid (find L t = place L t 0) := by show _ = _; unfold find; rw [hs]; rfl
    rw [hs] at HA
    clear hs
    go_enter Try.func52, Try.ntmps52
    go_wp2_with fail
    go_loopw [5] (fun i wr => ∃ j : Nat, j ≤ L.length ∧ i = .int .i64 j ∧ Hid (∀ m, m < j → (L.getD m zI3).x0 ≠ t) ∧ Hid (w.grownBy wr none)) (fun i _ => L.length - (intOf i).toNat)
    case atStart => exact ⟨0, Nat.zero_le _, rfl, fun m hm => absurd hm (Nat.not_lt_zero _), World.grownBy.refl _ _⟩
    case round =>
      rename_i _ wr
      obtain ⟨j, hj, rfl, HE, HG⟩ := hrel
      by_cases hlt : j < L.length
      · obtain ⟨b, o, rfl, _, _⟩ := HV.out.at_row hlt
        obtain ⟨x, hx⟩ : ∃ x, L.getD j zI3 = x := ⟨_, rfl⟩
        have HX := Lib.hid hx
        clear hx
        obtain ⟨xi, xs, xn⟩ := x
        by_cases he : xi = t
        · have HR : Hid (find L t = (j : Int)) := by show _ = _; rw [HF.out, place_hit hlt (by rw [HX.out]; exact he) HE.out, Nat.zero_add]
          go_wp2_with (go_at_call 16; refine (HA.out _ (HV.out.grown HG.out)).mono ?_; rintro e w3 ⟨rfl, hg⟩; have HG3 := Lib.hid (grownN_trans HG.out hg); obtain ⟨d0, d1, d2⟩ := at3_in HV.out HG3.out hlt HX.out; clear hg)
          go_ret
          exact ⟨ret_i64 HR.out.symm, HG3.out⟩
        · have HE2 : Hid (∀ m, m < j + 1 → (L.getD m zI3).x0 ≠ t) := fun m hm => by
            by_cases h : m = j
            · subst h; rw [HX.out]; exact he
            · exact HE.out m (by omega)
          go_wp2_with (go_at_call 16; refine (HA.out _ (HV.out.grown HG.out)).mono ?_; rintro e w3 ⟨rfl, hg⟩; have HG3 := Lib.hid (grownN_trans HG.out hg); obtain ⟨d0, d1, d2⟩ := at3_in HV.out HG3.out hlt HX.out; clear hg)
          go_roundw
          case rel => exact ⟨j + 1, by omega, by go_num, HE2, HG3⟩
          case measure => simp [intOf]; omega
      · have hjn : L.length = j := by omega
        have HR : Hid (find L t = -1) := by show _ = _; rw [HF.out]; exact place_miss (fun m hm => HE.out m (by omega))
        go_wp2
        go_ret
        exact ⟨ret_i64 HR.out.symm, HG.out⟩

theorem zero_stock {L : List I3} {t : Int} (h : find L t = -1) : hasIn L t = 0 := by unfold hasIn; rw [stock_no h]; rfl

set_option maxRecDepth 20000 in
set_option maxHeartbeats 1000000 in
theorem sHasIn_any (w : World) (v : Value) (t : Int) (L : List I3) (hv : SeesG enc3 w v L) :
    Calls Try.prog 20 #[v, .int .i64 t] w fun e w' => e = .returned (.int .i64 (hasIn L t)) ∧ w.grownBy w' none := by
  have hl := hv.len
  have HV := Lib.hid hv
  have HA := Lib.hid (sFind_any w v t L hv)
  obtain ⟨a, cap, rfl, _⟩ := hv
  rcases find_hid L t with HF | ⟨j, hj, HS, HX0, HF⟩
  · have HR : Hid (hasIn L t = 0) := zero_stock HF.out
    rw [HF.out] at HA
    go_enter Try.func20, Try.ntmps20
    go_wp2_with fail
    refine HA.out.mono ?_
    rintro e w2 ⟨rfl, hg⟩
    have HG := Lib.hid hg
    clear hg
    go_wp2
    go_ret
    exact ⟨ret_i64 HR.out.symm, HG.out⟩
  · rw [HF.out] at HA
    obtain ⟨b, o, rfl, _, _⟩ := HV.out.at_row hj
    obtain ⟨x, hx⟩ : ∃ x, L.getD j zI3 = x := ⟨_, rfl⟩
    have HR : Hid (hasIn L t = x.x1 - x.x2) := by show _ = _; unfold hasIn; rw [stock_yes HF.out, hx]
    have hb := (sto_at HS.out hj).2
    rw [hx] at hb
    have HX := Lib.hid hx
    clear hx
    obtain ⟨xi, xs, xn⟩ := x
    dsimp only at hb
    have hw : IntKind.i64.wrap (xs - xn) = xs - xn := IntWalk.i64_in _ (by omega)
    go_enter Try.func20, Try.ntmps20
    go_wp2_with fail
    refine HA.out.mono ?_
    rintro e w2 ⟨rfl, hg⟩
    have HG := Lib.hid (grownN_trans hg (grown_drew (World.grownBy.refl w2 none)))
    obtain ⟨d0, d1, d2⟩ := at3_in HV.out HG.out hj HX.out
    dsimp only at d0 d1 d2
    have HD := Lib.hid (And.intro d1 d2)
    have hj0 : (0 : Int) ≤ (j : Int) := by omega
    have hj1 : (j : Int) < (L.length : Int) := by omega
    have hjn : ¬ (j : Int) < 0 := by omega
    clear hg d0 d1 d2
    go_wp2_with fail
    refine wp_region_held_drew (S := fun w' => w'.cell? ⟨b, o + j * 3 + 1, none⟩ = some (.int .i64 xs) ∧ w'.cell? ⟨b, o + j * 3 + 2, none⟩ = some (.int .i64 xn)) (by kernel_rfl) HD.out (fun hHeld => ?_)
    refine wpAnyH_take (i := 0) (v := ?_) rfl (by kernel_rfl) (by kernel_rfl) (by kernel_rfl) (fun _ _ _ h => h) (Or.inl ⟨by rfl, ?_⟩) (by assumption) ?_; rotate_left; (focus (intro wS hSw; (try dsimp only at hSw); go_simp <;> with_reducible rfl)); (try simp only [Act.put, List.getElem_toArray, List.getElem_cons_succ, List.getElem_cons_zero, List.setIfInBounds_toArray, List.set_cons_zero, List.set_cons_succ])
    refine wpAnyH_take (i := 1) (v := ?_) rfl (by kernel_rfl) (by kernel_rfl) (by kernel_rfl) (fun _ _ _ h => h) (Or.inl ⟨by rfl, ?_⟩) (by assumption) ?_; rotate_left; (focus (intro wS hSw; (try dsimp only at hSw); go_simp <;> with_reducible rfl)); (try simp only [Act.put, List.getElem_toArray, List.getElem_cons_succ, List.getElem_cons_zero, List.setIfInBounds_toArray, List.set_cons_zero, List.set_cons_succ])
    refine wpAnyH_take (i := 2) (v := ?_) rfl (by kernel_rfl) (by kernel_rfl) (by kernel_rfl) (fun _ _ _ h => h) (Or.inl ⟨by rfl, ?_⟩) (by assumption) ?_; rotate_left; (focus (intro wS hSw; (try dsimp only at hSw); go_simp <;> with_reducible rfl)); (try simp only [Act.put, List.getElem_toArray, List.getElem_cons_succ, List.getElem_cons_zero, List.setIfInBounds_toArray, List.set_cons_zero, List.set_cons_succ])
    refine wpAnyH_take (i := 3) (v := ?_) rfl (by kernel_rfl) (by kernel_rfl) (by kernel_rfl) (fun _ _ _ h => h) (Or.inl ⟨by rfl, ?_⟩) (by assumption) ?_; rotate_left; (focus (intro wS hSw; (try dsimp only at hSw); go_simp <;> with_reducible rfl)); (try simp only [Act.put, List.getElem_toArray, List.getElem_cons_succ, List.getElem_cons_zero, List.setIfInBounds_toArray, List.set_cons_zero, List.set_cons_succ])
    refine wpAnyH_take (i := 4) (v := ?_) rfl (by kernel_rfl) (by kernel_rfl) (by kernel_rfl) (fun _ _ _ h => h) (Or.inl ⟨by rfl, ?_⟩) (by assumption) ?_; rotate_left; (focus (intro wS hSw; (try dsimp only at hSw); go_simp <;> with_reducible rfl)); (try simp only [Act.put, List.getElem_toArray, List.getElem_cons_succ, List.getElem_cons_zero, List.setIfInBounds_toArray, List.set_cons_zero, List.set_cons_succ])
    refine wpAnyH_take (i := 5) (v := ?_) rfl (by kernel_rfl) (by kernel_rfl) (by kernel_rfl) (fun _ _ _ h => h) (Or.inl ⟨by rfl, ?_⟩) (by assumption) ?_; rotate_left; (focus (intro wS hSw; (try dsimp only at hSw); go_simp <;> with_reducible rfl)); (try simp only [Act.put, List.getElem_toArray, List.getElem_cons_succ, List.getElem_cons_zero, List.setIfInBounds_toArray, List.set_cons_zero, List.set_cons_succ])
    refine wpAnyH_take (i := 6) (v := ?_) rfl (by kernel_rfl) (by kernel_rfl) (by kernel_rfl) (fun _ _ _ h => h) (Or.inl ⟨by rfl, ?_⟩) (by assumption) ?_; rotate_left; (focus (intro wS hSw; (try dsimp only at hSw); go_simp <;> with_reducible rfl)); (try simp only [Act.put, List.getElem_toArray, List.getElem_cons_succ, List.getElem_cons_zero, List.setIfInBounds_toArray, List.set_cons_zero, List.set_cons_succ])
    refine wpAnyH_take (i := 7) (v := ?_) rfl (by kernel_rfl) (by kernel_rfl) (by kernel_rfl) (fun _ _ _ h => h) (Or.inl ⟨by rfl, ?_⟩) (by assumption) ?_; rotate_left; (focus (intro wS hSw; (try dsimp only at hSw); go_simp <;> with_reducible rfl)); (try simp only [Act.put, List.getElem_toArray, List.getElem_cons_succ, List.getElem_cons_zero, List.setIfInBounds_toArray, List.set_cons_zero, List.set_cons_succ])
    refine wpAnyH_take (i := 8) (v := ?_) rfl (by kernel_rfl) (by kernel_rfl) (by kernel_rfl) (fun _ _ _ h => h) (Or.inl ⟨by rfl, ?_⟩) (by assumption) ?_; rotate_left; (focus (intro wS hSw; (try dsimp only at hSw); go_simp <;> with_reducible rfl)); (try simp only [Act.put, List.getElem_toArray, List.getElem_cons_succ, List.getElem_cons_zero, List.setIfInBounds_toArray, List.set_cons_zero, List.set_cons_succ])
    refine wpAnyH_take (i := 9) (v := ?_) rfl (by kernel_rfl) (by kernel_rfl) (by kernel_rfl) (fun _ _ _ h => h) (Or.inl ⟨by rfl, ?_⟩) (by assumption) ?_; rotate_left; (focus (intro wS hSw; (try dsimp only at hSw); go_simp <;> with_reducible rfl)); (try simp only [Act.put, List.getElem_toArray, List.getElem_cons_succ, List.getElem_cons_zero, List.setIfInBounds_toArray, List.set_cons_zero, List.set_cons_succ])
    refine wpAnyH_take (i := 10) (v := ?_) rfl (by kernel_rfl) (by kernel_rfl) (by kernel_rfl) (fun _ _ _ h => h) (Or.inl ⟨by rfl, ?_⟩) (by assumption) ?_; rotate_left; (focus (intro wS hSw; (try dsimp only at hSw); go_simp <;> with_reducible rfl)); (try simp only [Act.put, List.getElem_toArray, List.getElem_cons_succ, List.getElem_cons_zero, List.setIfInBounds_toArray, List.set_cons_zero, List.set_cons_succ])
    refine wpAnyH_take (i := 11) (v := ?_) rfl (by kernel_rfl) (by kernel_rfl) (by kernel_rfl) (fun _ _ _ h => h) (Or.inl ⟨by rfl, ?_⟩) (by assumption) ?_; rotate_left; (focus (intro wS hSw; (try dsimp only at hSw); go_simp <;> with_reducible rfl)); (try simp only [Act.put, List.getElem_toArray, List.getElem_cons_succ, List.getElem_cons_zero, List.setIfInBounds_toArray, List.set_cons_zero, List.set_cons_succ])
    refine wpAnyH_done (by kernel_rfl) ?_ _
    (try simp only [Act.put, List.getElem_toArray, List.getElem_cons_succ, List.getElem_cons_zero, List.setIfInBounds_toArray, List.set_cons_zero, List.set_cons_succ])
    go_wp2
    go_ret
    exact ⟨ret_i64 HR.out.symm, HG.out⟩

set_option maxRecDepth 20000 in
set_option maxHeartbeats 1000000 in
theorem sAllOut_any (w : World) (v : Value) (L : List I3) (hv : SeesG enc3 w v L) :
    Calls Try.prog 30 #[v] w fun e w' => e = .returned (.int .i64 (allOut L)) ∧ w.grownBy w' none := by
  have hl := hv.len
  have HV := Lib.hid hv
  have HA := Lib.hid (fun w h => sAreStocks_any w v L h)
  obtain ⟨a, cap, rfl, _⟩ := hv
  cases hs : areSto L
  · have HR : Hid (allOut L = 0) := by show _ = _; unfold allOut; rw [hs]; rfl
    rw [hs] at HA
    clear hs
    go_enter Try.func30, Try.ntmps30
    go_wp2
    go_loopw [3, 4] (fun s i wr => i = .int .i64 0 ∧ s = .int .i64 0 ∧ Hid (w.grownBy wr none)) (fun _ _ _ => 0)
    case atStart => exact ⟨rfl, rfl, World.grownBy.refl _ _⟩
    case round =>
      rename_i _ _ wr
      obtain ⟨rfl, rfl, HG⟩ := hrel
      by_cases h0 : 0 < L.length
      · have h0i : (0 : Int) < (L.length : Int) := by omega
        go_wp2_with (go_at_call 16; refine (HA.out _ (HV.out.grown HG.out)).mono ?_; rintro e w3 ⟨rfl, hg⟩; have HG3 := Lib.hid (grownN_trans HG.out hg); clear hg)
        go_ret
        exact ⟨ret_i64 HR.out.symm, HG3.out⟩
      · have hL : L.length = 0 := by omega
        go_wp2
        go_ret
        exact ⟨ret_i64 HR.out.symm, HG.out⟩
  · have HF : Hid (allOut L = outTo L L.length) := by show _ = _; unfold allOut; rw [hs]; rfl
    rw [hs] at HA
    clear hs
    go_enter Try.func30, Try.ntmps30
    go_wp2_with fail
    go_loopw [3, 4] (fun s i wr => ∃ j : Nat, j ≤ L.length ∧ i = .int .i64 j ∧ s = .int .i64 (outTo L j) ∧ Hid (w.grownBy wr none)) (fun _ i _ => L.length - (intOf i).toNat)
    case atStart => exact ⟨0, Nat.zero_le _, rfl, rfl, World.grownBy.refl _ _⟩
    case round =>
      rename_i _ _ wr
      obtain ⟨j, hj, rfl, rfl, HG⟩ := hrel
      obtain ⟨p, hp⟩ : ∃ p, p = outTo L j := ⟨_, rfl⟩
      rw [← hp]
      have HP := Lib.hid hp
      clear hp
      by_cases hlt : j < L.length
      · obtain ⟨b, o, rfl, _, _⟩ := HV.out.at_row hlt
        obtain ⟨x, hx⟩ : ∃ x, L.getD j zI3 = x := ⟨_, rfl⟩
        have HX := Lib.hid hx
        clear hx
        obtain ⟨xi, xs, xn⟩ := x
        have HR : Hid (outTo L (j + 1) = wrap64 (p + xn)) := by show _ = _; simp only [outTo]; rw [HX.out, HP.out]
        go_wp2_with (go_at_call 16; refine (HA.out _ (HV.out.grown HG.out)).mono ?_; rintro e w3 ⟨rfl, hg⟩; have HG3 := Lib.hid (grownN_trans HG.out hg); obtain ⟨d0, d1, d2⟩ := at3_in HV.out HG3.out hlt HX.out; clear hg)
        go_roundw
        case rel => exact ⟨j + 1, by omega, by go_num, by rw [HR.out], HG3⟩
        case measure => simp [intOf]; omega
      · have hjn : L.length = j := by omega
        go_wp2
        go_ret
        exact ⟨ret_i64 (by rw [HP.out, HF.out, hjn]), HG.out⟩
end Go.Proofs.Ytinpnedijmmpgaa.StoS
