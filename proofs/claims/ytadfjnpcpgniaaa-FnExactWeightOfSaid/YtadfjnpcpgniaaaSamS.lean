/- Contracts of the model's functions on samples. -/
import Derived.Test.YtadfjnpcpgniaaaSamF
import Derived.IntWalk
import Derived.Deep.QuietTactic
import Derived.BigQuiet
namespace Go.Proofs.Ytadfjnpcpgniaaa.SamS
open Go.RowKit Kit Rw Rg Sam Md

theorem quietly {P : Program} {f : FuncId} {args : Array Value} {w : World} {v : Value} (h : Calls P f args w fun e w' => e = .returned v ∧ w = w') : Calls P f args w fun e w' => e = .returned v ∧ w' = w := h.mono fun _ _ h => ⟨h.1, h.2.symm⟩
def inb (n l h : Int) : Bool := decide (l ≤ n ∧ n ≤ h)
theorem l1In_b (n l h : Int) (w : World) : Calls Try.prog 39 #[.int .i64 n, .int .i64 l, .int .i64 h] w fun e w' => e = .returned (.bool (inb n l h)) ∧ w' = w := quietly (l1In_any n l h w)
theorem l1In_c (n l h : Int) (w : World) : Calls Try.prog 39 #[.int .i64 n, .int .i64 l, .int .i64 h] w fun e w' => e = .returned (.bool (inb n l h)) ∧ w = w' := l1In_any n l h w

set_option maxRecDepth 20000 in
set_option maxHeartbeats 1000000 in
theorem sAreSamples_any (w : World) (v : Value) (L : List I3) (hv : SeesG enc3 w v L) :
    Calls Try.prog 12 #[v] w fun e w' => e = .returned (.bool (areSam L)) ∧ w.grownBy w' none := by
  have hl := hv.len
  have HV := Lib.hid hv
  obtain ⟨a, cap, rfl, _⟩ := hv
  go_enter Try.func12, Try.ntmps12
  go_wp2
  go_loopw [3] (fun i wr => ∃ j : Nat, j ≤ L.length ∧ i = .int .i64 j ∧ Hid (upTo L j) ∧ Hid (w.grownBy wr none)) (fun i _ => L.length - (intOf i).toNat)
  case atStart => exact ⟨0, Nat.zero_le _, rfl, upTo_zero L, World.grownBy.refl _ _⟩
  case round =>
    obtain ⟨j, hj, rfl, HU, HG⟩ := hrel
    by_cases hlt : j < L.length
    · obtain ⟨b, o, rfl, _, _⟩ := HV.out.at_row hlt
      obtain ⟨x, hx⟩ : ∃ x, L.getD j zI3 = x := ⟨_, rfl⟩
      obtain ⟨d0, d1, d2⟩ := at3_in HV.out HG.out hlt hx
      have HX := Lib.hid hx
      clear hx
      obtain ⟨xi, xs, xn⟩ := x
      dsimp only at d0 d1 d2
      by_cases hA : 1 ≤ xi ∧ xi ≤ 99
      · by_cases hB : 1 ≤ xs ∧ xs ≤ 50
        · by_cases hC : 0 ≤ xn ∧ xn ≤ 1000
          · have HOK : Hid (okSam (L.getD j zI3) = true) := by show _ = _; rw [HX.out]; unfold okSam; rw [decide_eq_true hA, decide_eq_true hB, decide_eq_true hC]; rfl
            have h0 : inb xi 1 99 = true := decide_eq_true hA
            have h1 : inb xs 1 50 = true := decide_eq_true hB
            have h2 : inb xn 0 1000 = true := decide_eq_true hC
            by_cases h0 : j = 0
            · have hj0 : (j : Int) ≤ 0 := by omega
              have hjd : decide (0 < j) = false := decide_eq_false (by omega)
              have HU2 : Hid (upTo L (j + 1)) := upTo_next HU.out HOK.out (fun h => absurd h (by omega))
              clear hA hB hC h0
              go_wp2
              go_quiet (first | (go_at_call 39; refine Calls.quiet_of_same (l1In_b _ _ _ _)))
              go_wp2
              go_roundw
              case rel => exact ⟨j + 1, by omega, by go_num, HU2, grown_drewN HG.out _⟩
              case measure => simp [intOf]; omega
            · obtain ⟨y, hy⟩ : ∃ y, L.getD (j - 1) zI3 = y := ⟨_, rfl⟩
              have hk : j - 1 < L.length := by omega
              obtain ⟨k, hkk⟩ : ∃ k, k = j - 1 := ⟨_, rfl⟩
              have hki : (j : Int) - 1 = k := by omega
              rw [← hkk] at hy hk
              obtain ⟨f0, _, _⟩ := at3_in HV.out HG.out hk hy
              have HY := Lib.hid hy
              have HKK := Lib.hid hkk
              clear hy hkk
              obtain ⟨yi, ys, yn⟩ := y
              dsimp only at f0
              have hj0 : (0 : Int) < j := by omega
              have hjd : decide (0 < j) = true := decide_eq_true (by omega)
              clear hA hB hC
              by_cases hq : yi < xi
              · have HU2 : Hid (upTo L (j + 1)) := upTo_next HU.out HOK.out (fun _ => by rw [HX.out, ← HKK.out, HY.out]; exact hq)
                go_wp2
                go_quiet (first | (go_at_call 39; refine Calls.quiet_of_same (l1In_b _ _ _ _)))
                go_wp2
                go_roundw
                case rel => exact ⟨j + 1, by omega, by go_num, HU2, grown_drewN HG.out _⟩
                case measure => simp [intOf]; omega
              · have HR : Hid (areSam L = false) := sam_bad hlt (by right; rw [HX.out, ← HKK.out, HY.out]; exact ⟨by omega, hq⟩)
                go_wp2
                go_quiet (first | (go_at_call 39; refine Calls.quiet_of_same (l1In_b _ _ _ _)))
                go_wp2
                go_ret
                exact ⟨ret_bool HR.out.symm, grown_drewN HG.out _⟩
          · skip
            have HR : Hid (areSam L = false) := sam_bad hlt (by left; rw [HX.out]; unfold okSam; rw [decide_eq_true hA, decide_eq_true hB, decide_eq_false hC]; rfl)
            have h0 : inb xi 1 99 = true := decide_eq_true hA
            have h1 : inb xs 1 50 = true := decide_eq_true hB
            have h2 : inb xn 0 1000 = false := decide_eq_false hC
            clear hA hB hC
            go_wp2
            go_quiet (first | (go_at_call 39; refine Calls.quiet_of_same (l1In_b _ _ _ _)))
            go_wp2
            go_ret
            exact ⟨ret_bool HR.out.symm, grown_drewN HG.out _⟩
        · skip
          have HR : Hid (areSam L = false) := sam_bad hlt (by left; rw [HX.out]; unfold okSam; rw [decide_eq_true hA, decide_eq_false hB]; simp)
          have h0 : inb xi 1 99 = true := decide_eq_true hA
          have h1 : inb xs 1 50 = false := decide_eq_false hB
          clear hA hB
          go_wp2
          go_quiet (first | (go_at_call 39; refine Calls.quiet_of_same (l1In_b _ _ _ _)))
          go_wp2
          go_ret
          exact ⟨ret_bool HR.out.symm, grown_drewN HG.out _⟩
      · skip
        have HR : Hid (areSam L = false) := sam_bad hlt (by left; rw [HX.out]; unfold okSam; rw [decide_eq_false hA]; simp)
        have h0 : inb xi 1 99 = false := decide_eq_false hA
        clear hA
        go_wp2
        go_quiet (first | (go_at_call 39; refine Calls.quiet_of_same (l1In_b _ _ _ _)))
        go_wp2
        go_ret
        exact ⟨ret_bool HR.out.symm, grown_drewN HG.out _⟩
    · have : j = L.length := by omega
      subst this
      by_cases hq : L.length ≤ 12
      · have HR : Hid (areSam L = true) := sam_yes hq HU.out
        have hb : decide ((L.length : Int) ≤ 12) = true := decide_eq_true (by omega)
        go_wp2
        go_ret
        exact ⟨ret_bool (by rw [HR.out]), HG.out⟩
      · have HR : Hid (areSam L = false) := sam_long hq
        have hb : decide ((L.length : Int) ≤ 12) = false := decide_eq_false (by omega)
        go_wp2
        go_ret
        exact ⟨ret_bool (by rw [HR.out]), HG.out⟩

set_option maxHeartbeats 1000000 in
theorem sHas_any (w : World) (u : Value) (x : Int) (L : List Int) (hu : Sees .i64 w u L) :
    Calls Try.prog 43 #[u, .int .i64 x] w fun e w' => e = .returned (.bool (decide (x ∈ L))) ∧ w' = w := by
  have hl := hu.len
  obtain ⟨a, n, cap, rfl, HN⟩ := hu.shape
  have HU := Lib.hid hu
  have hl2 : n ≤ 9223372036854775807 := by rw [← HN.out]; exact hl
  clear hu hl
  go_enter Try.func43, Try.ntmps43
  go_wp2
  go_loop [5] (fun i => ∃ j : Nat, j ≤ n ∧ i = .int .i64 j ∧ Hid (∀ m, m < j → L.getD m 0 ≠ x)) (fun i => n - (intOf i).toNat)
  case atStart => exact ⟨0, Nat.zero_le _, rfl, fun m hm => absurd hm (Nat.not_lt_zero _)⟩
  case round =>
    obtain ⟨j, hj, rfl, HE⟩ := hrel
    by_cases hlt : j < n
    · obtain ⟨y, hy⟩ : ∃ y, y = L.getD j 0 := ⟨_, rfl⟩
      obtain ⟨b, o, rfl, hcj⟩ := HU.out.at_row (j := j) (by rw [HN.out]; exact hlt)
      rw [← hy] at hcj
      have HY := Lib.hid hy
      clear hy
      by_cases hne : y = x
      · have hm : x ∈ L := by
          rw [← hne, HY.out]; exact mem_getD (by rw [HN.out]; exact hlt)
        have HM : Hid (decide (x ∈ L) = true) := by show _ = _; simpa using hm
        clear hm
        go_wp2
        go_ret
        exact ⟨ret_bool HM.out.symm, rfl⟩
      · go_wp2
        go_round
        case rel =>
          refine ⟨j + 1, by omega, by go_num, fun m hm => ?_⟩
          by_cases h : m = j
          · subst h; rw [← HY.out]; exact hne
          · exact HE.out m (by omega)
        case measure => simp [intOf]; omega
    · have hjn : n = j := by omega
      subst hjn
      have hm : ¬ x ∈ L := by
        intro h
        obtain ⟨j, hj, e⟩ := List.getElem_of_mem h
        exact HE.out j (by rw [← HN.out]; exact hj) (by simp [hj, e])
      have HM : Hid (decide (x ∈ L) = false) := by show _ = _; simpa using hm
      clear hm
      go_wp2
      go_ret
      exact ⟨ret_bool HM.out.symm, rfl⟩

set_option maxRecDepth 20000 in
set_option maxHeartbeats 1000000 in
theorem sWeightOf_any (w : World) (v u : Value) (L : List I3) (ids : List Int) (hv : SeesG enc3 w v L) (hu : Sees .i64 w u ids) :
    Calls Try.prog 16 #[v, u] w fun e w' => e = .returned (.int .i64 (pickTo (·.x1) L ids L.length)) ∧ w' = w := by
  have hl := hv.len
  have HV := Lib.hid hv
  have HU := Lib.hid hu
  obtain ⟨a, cap, rfl, _⟩ := hv
  clear hu
  go_enter Try.func16, Try.ntmps16
  go_wp2
  go_loopw [5, 6] (fun s i wr => ∃ j : Nat, j ≤ L.length ∧ i = .int .i64 j ∧ s = .int .i64 (pickTo (·.x1) L ids j) ∧ wr = w) (fun _ i _ => L.length - (intOf i).toNat)
  case atStart => exact ⟨0, Nat.zero_le _, rfl, rfl, rfl⟩
  case round =>
    obtain ⟨j, hj, rfl, rfl, rfl⟩ := hrel
    by_cases hlt : j < L.length
    · obtain ⟨b, o, rfl, _, _⟩ := HV.out.at_row hlt
      obtain ⟨x, hx⟩ : ∃ x, L.getD j zI3 = x := ⟨_, rfl⟩
      obtain ⟨d0, d1, d2⟩ := at3_in HV.out (World.grownBy.refl _ none) hlt hx
      have HX := Lib.hid hx
      clear hx
      obtain ⟨xi, xs, xn⟩ := x
      dsimp only at d0 d1 d2
      have HS := Lib.hid (fun w hw => sHas_any w u xi ids hw)
      obtain ⟨p, hp⟩ : ∃ p, p = pickTo (·.x1) L ids j := ⟨_, rfl⟩
      rw [← hp]
      have HP := Lib.hid hp
      clear hp
      cases hd : decide (xi ∈ ids)
      · have HE : Hid (pickTo (·.x1) L ids (j + 1) = p) := by show _ = _; simp only [pickTo]; rw [HX.out]; dsimp only; rw [hd, ← HP.out]; rfl
        go_wp2_with (go_at_call 43; refine (HS.out _ HU.out).mono ?_; rintro e w3 ⟨rfl, hw3⟩; obtain rfl : _ = w3 := hw3.symm; rw [hd])
        go_roundw
        case rel => exact ⟨j + 1, by omega, by go_num, by rw [HE.out], trivial⟩
        case measure => simp [intOf]; omega
      · have HE : Hid (pickTo (·.x1) L ids (j + 1) = wrap64 (p + xs)) := by show _ = _; simp only [pickTo]; rw [HX.out]; dsimp only; rw [hd, ← HP.out]; rfl
        go_wp2_with (go_at_call 43; refine (HS.out _ HU.out).mono ?_; rintro e w3 ⟨rfl, hw3⟩; obtain rfl : _ = w3 := hw3.symm; rw [hd])
        go_roundw
        case rel => exact ⟨j + 1, by omega, by go_num, by rw [HE.out], trivial⟩
        case measure => simp [intOf]; omega
    · have : j = L.length := by omega
      subst this
      go_wp2
      go_ret
      exact ⟨rfl, rfl⟩

set_option maxRecDepth 20000 in
set_option maxHeartbeats 1000000 in
theorem sWorthOf_any (w : World) (v u : Value) (L : List I3) (ids : List Int) (hv : SeesG enc3 w v L) (hu : Sees .i64 w u ids) :
    Calls Try.prog 20 #[v, u] w fun e w' => e = .returned (.int .i64 (pickTo (·.x2) L ids L.length)) ∧ w' = w := by
  have hl := hv.len
  have HV := Lib.hid hv
  have HU := Lib.hid hu
  obtain ⟨a, cap, rfl, _⟩ := hv
  clear hu
  go_enter Try.func20, Try.ntmps20
  go_wp2
  go_loopw [5, 6] (fun s i wr => ∃ j : Nat, j ≤ L.length ∧ i = .int .i64 j ∧ s = .int .i64 (pickTo (·.x2) L ids j) ∧ wr = w) (fun _ i _ => L.length - (intOf i).toNat)
  case atStart => exact ⟨0, Nat.zero_le _, rfl, rfl, rfl⟩
  case round =>
    obtain ⟨j, hj, rfl, rfl, rfl⟩ := hrel
    by_cases hlt : j < L.length
    · obtain ⟨b, o, rfl, _, _⟩ := HV.out.at_row hlt
      obtain ⟨x, hx⟩ : ∃ x, L.getD j zI3 = x := ⟨_, rfl⟩
      obtain ⟨d0, d1, d2⟩ := at3_in HV.out (World.grownBy.refl _ none) hlt hx
      have HX := Lib.hid hx
      clear hx
      obtain ⟨xi, xs, xn⟩ := x
      dsimp only at d0 d1 d2
      have HS := Lib.hid (fun w hw => sHas_any w u xi ids hw)
      obtain ⟨p, hp⟩ : ∃ p, p = pickTo (·.x2) L ids j := ⟨_, rfl⟩
      rw [← hp]
      have HP := Lib.hid hp
      clear hp
      cases hd : decide (xi ∈ ids)
      · have HE : Hid (pickTo (·.x2) L ids (j + 1) = p) := by show _ = _; simp only [pickTo]; rw [HX.out]; dsimp only; rw [hd, ← HP.out]; rfl
        go_wp2_with (go_at_call 43; refine (HS.out _ HU.out).mono ?_; rintro e w3 ⟨rfl, hw3⟩; obtain rfl : _ = w3 := hw3.symm; rw [hd])
        go_roundw
        case rel => exact ⟨j + 1, by omega, by go_num, by rw [HE.out], trivial⟩
        case measure => simp [intOf]; omega
      · have HE : Hid (pickTo (·.x2) L ids (j + 1) = wrap64 (p + xn)) := by show _ = _; simp only [pickTo]; rw [HX.out]; dsimp only; rw [hd, ← HP.out]; rfl
        go_wp2_with (go_at_call 43; refine (HS.out _ HU.out).mono ?_; rintro e w3 ⟨rfl, hw3⟩; obtain rfl : _ = w3 := hw3.symm; rw [hd])
        go_roundw
        case rel => exact ⟨j + 1, by omega, by go_num, by rw [HE.out], trivial⟩
        case measure => simp [intOf]; omega
    · have : j = L.length := by omega
      subst this
      go_wp2
      go_ret
      exact ⟨rfl, rfl⟩

end Go.Proofs.Ytadfjnpcpgniaaa.SamS
