/- Contracts of the program's functions on samples. -/
import Derived.Test.YtadfjnpcpgniaaaSamF
import Derived.IntWalk
import Derived.WalkMore
import Derived.Deep.LoopGhost
namespace Go.Proofs.Ytadfjnpcpgniaaa.SamI
open Go.RowKit Kit Rw Rg Sam Md

def inb (n l h : Int) : Bool := decide (l ≤ n ∧ n ≤ h)
theorem inR_b (n l h : Int) (w : World) : Calls Try.prog 58 #[.int .i64 n, .int .i64 l, .int .i64 h] w fun e w' => e = .returned (.bool (inb n l h)) ∧ w = w' := inRange_any n l h w

set_option maxRecDepth 20000 in
set_option maxHeartbeats 400000 in
theorem valid_any (w : World) (xi xs xn : Int) :
    Calls Try.prog 41 #[.agg #[.int .i64 xi, .int .i64 xs, .int .i64 xn]] w fun e w' => e = .returned (.bool (okSam ⟨xi, xs, xn⟩)) ∧ w.grownBy w' none := by
  have HG := Lib.hid (World.grownBy_alloc w (.cells #[.int .i64 xi, .int .i64 xs, .int .i64 xn] 44 (0, 0)) none)
  by_cases hA : 1 ≤ xi ∧ xi ≤ 99
  · by_cases hB : 1 ≤ xs ∧ xs ≤ 50
    · by_cases hC : 0 ≤ xn ∧ xn ≤ 1000
      · skip
        have h0 : inb xi 1 99 = true := decide_eq_true hA
        have h1 : inb xs 1 50 = true := decide_eq_true hB
        have h2 : inb xn 0 1000 = true := decide_eq_true hC
        have HR : Hid (okSam ⟨xi, xs, xn⟩ = true) := by show okSam _ = _; unfold okSam; dsimp only; rw [decide_eq_true hA, decide_eq_true hB, decide_eq_true hC]; rfl
        clear hA hB hC
        go_enter Try.func41, Try.ntmps41
        go_wp2_with fail
        refine (inR_b _ _ _ _).mono ?_
        rintro e w2 ⟨rfl, rfl⟩
        go_wp2_with fail
        refine (inR_b _ _ _ _).mono ?_
        rintro e w2 ⟨rfl, rfl⟩
        go_wp2_with fail
        refine (inR_b _ _ _ _).mono ?_
        rintro e w2 ⟨rfl, rfl⟩
        go_wp2
        go_ret
        exact ⟨ret_bool HR.out.symm, HG.out⟩
      · skip
        have h0 : inb xi 1 99 = true := decide_eq_true hA
        have h1 : inb xs 1 50 = true := decide_eq_true hB
        have h2 : inb xn 0 1000 = false := decide_eq_false hC
        have HR : Hid (okSam ⟨xi, xs, xn⟩ = false) := by show okSam _ = _; unfold okSam; dsimp only; rw [decide_eq_true hA, decide_eq_true hB, decide_eq_false hC]; rfl
        clear hA hB hC
        go_enter Try.func41, Try.ntmps41
        go_wp2_with fail
        refine (inR_b _ _ _ _).mono ?_
        rintro e w2 ⟨rfl, rfl⟩
        go_wp2_with fail
        refine (inR_b _ _ _ _).mono ?_
        rintro e w2 ⟨rfl, rfl⟩
        go_wp2_with fail
        refine (inR_b _ _ _ _).mono ?_
        rintro e w2 ⟨rfl, rfl⟩
        go_wp2
        go_ret
        exact ⟨ret_bool HR.out.symm, HG.out⟩
    · skip
      have h0 : inb xi 1 99 = true := decide_eq_true hA
      have h1 : inb xs 1 50 = false := decide_eq_false hB
      have HR : Hid (okSam ⟨xi, xs, xn⟩ = false) := by show okSam _ = _; unfold okSam; dsimp only; rw [decide_eq_true hA, decide_eq_false hB]; simp
      clear hA hB
      go_enter Try.func41, Try.ntmps41
      go_wp2_with fail
      refine (inR_b _ _ _ _).mono ?_
      rintro e w2 ⟨rfl, rfl⟩
      go_wp2_with fail
      refine (inR_b _ _ _ _).mono ?_
      rintro e w2 ⟨rfl, rfl⟩
      go_wp2
      go_ret
      exact ⟨ret_bool HR.out.symm, HG.out⟩
  · skip
    have h0 : inb xi 1 99 = false := decide_eq_false hA
    have HR : Hid (okSam ⟨xi, xs, xn⟩ = false) := by show okSam _ = _; unfold okSam; dsimp only; rw [decide_eq_false hA]; simp
    clear hA
    go_enter Try.func41, Try.ntmps41
    go_wp2_with fail
    refine (inR_b _ _ _ _).mono ?_
    rintro e w2 ⟨rfl, rfl⟩
    go_wp2
    go_ret
    exact ⟨ret_bool HR.out.symm, HG.out⟩

/-- The Id before the jth member; 0: none. -/
def before (L : List I3) : Nat → Int
  | 0 => 0
  | j + 1 => (L.getD j zI3).x0

set_option maxRecDepth 20000 in
set_option maxHeartbeats 1000000 in
theorem iAreSamples_any (w : World) (v : Value) (L : List I3) (hv : SeesG enc3 w v L) :
    Calls Try.prog 14 #[v] w fun e w' => e = .returned (.bool (areSam L)) ∧ w.grownBy w' none := by
  have hl := hv.len
  have HV := Lib.hid hv
  obtain ⟨a, cap, rfl, _⟩ := hv
  by_cases hq : L.length ≤ 12
  · have hb : decide (12 < (L.length : Int)) = false := decide_eq_false (by omega)
    have HQ := Lib.hid hq
    go_enter Try.func14, Try.ntmps14
    go_wp2
    go_loopw [3, 11] (fun p i wr => ∃ j : Nat, j ≤ L.length ∧ i = .int .i64 j ∧ p = .int .i64 (before L j) ∧ Hid (upTo L j) ∧ Hid (w.grownBy wr none)) (fun _ i _ => L.length - (intOf i).toNat)
    case atStart => exact ⟨0, Nat.zero_le _, rfl, rfl, upTo_zero L, World.grownBy.refl _ _⟩
    case round =>
      obtain ⟨j, hj, rfl, rfl, HU, HG⟩ := hrel
      by_cases hlt : j < L.length
      · obtain ⟨b, o, rfl, _, _⟩ := HV.out.at_row hlt
        obtain ⟨x, hx⟩ : ∃ x, L.getD j zI3 = x := ⟨_, rfl⟩
        obtain ⟨d0, d1, d2⟩ := at3_in HV.out HG.out hlt hx
        have HX := Lib.hid hx
        have hbn : before L (j + 1) = x.x0 := by rw [← hx]; rfl
        have HBN := Lib.hid hbn
        clear hx hbn
        obtain ⟨xi, xs, xn⟩ := x
        dsimp only at d0 d1 d2
        obtain ⟨p, hp⟩ : ∃ p, p = before L j := ⟨_, rfl⟩
        rw [← hp]
        have HP := Lib.hid hp
        clear hp
        have HG1 := Lib.hid (grownN_trans HG.out (World.grownBy_alloc wr (.cells #[.int .i64 xi, .int .i64 xs, .int .i64 xn] 44 (0, 0)) none))
        have HB := Lib.hid (box_new wr #[.int .i64 xi, .int .i64 xs, .int .i64 xn] 44)
        have hv := fun w => valid_any w xi xs xn
        cases hok : okSam ⟨xi, xs, xn⟩
        · have HR : Hid (areSam L = false) := sam_bad hlt (.inl (by rw [show zI3 = zI3 from rfl, HX.out]; exact hok))
          rw [hok] at hv
          have HVA := Lib.hid hv
          clear hv hok
          go_wp2_with (go_at_call 41; refine (HVA.out _).mono ?_; rintro e w3 ⟨rfl, hg⟩; have HG3 := Lib.hid (grownN_trans HG1.out hg); clear hg)
          go_ret
          exact ⟨ret_bool HR.out.symm, HG3.out⟩
        · rw [hok] at hv
          have HVA := Lib.hid hv
          have hxo := ok_of hok
          have HOK := Lib.hid hok
          clear hv hok
          by_cases ho : xi ≤ p
          · have HR : Hid (areSam L = false) := sam_bad hlt (.inr (by
              have hp := HP.out
              match j, hp with
              | 0, hp => exact absurd ho (by rw [hp]; simp only [before]; have := hxo.1; dsimp only at this; omega)
              | k + 1, hp => refine ⟨by omega, ?_⟩; rw [show zI3 = zI3 from rfl, HX.out, Nat.add_sub_cancel, show (L.getD k zI3).x0 = p from hp.symm]; dsimp only; omega))
            clear hxo
            go_wp2_with (go_at_call 41; refine (HVA.out _).mono ?_; rintro e w3 ⟨rfl, hg⟩; have HG3 := Lib.hid (grownN_trans HG1.out hg); obtain ⟨q0, q1, q2⟩ := (HB.out.grown hg).three; clear hg)
            go_ret
            exact ⟨ret_bool HR.out.symm, HG3.out⟩
          · have HU2 : Hid (upTo L (j + 1)) := upTo_next HU.out (by rw [show zI3 = zI3 from rfl, HX.out]; exact HOK.out) (fun h0 => by
              have hp := HP.out
              match j, hp, h0 with
              | k + 1, hp, _ => rw [show zI3 = zI3 from rfl, HX.out, Nat.add_sub_cancel, show (L.getD k zI3).x0 = p from hp.symm]; dsimp only; omega)
            clear hxo
            go_wp2_with (go_at_call 41; refine (HVA.out _).mono ?_; rintro e w3 ⟨rfl, hg⟩; have HG3 := Lib.hid (grownN_trans HG1.out hg); obtain ⟨q0, q1, q2⟩ := (HB.out.grown hg).three; clear hg)
            go_roundw
            case rel => exact ⟨j + 1, by omega, by go_num, by rw [HBN.out], HU2, HG3⟩
            case measure => simp [intOf]; omega
      · have : j = L.length := by omega
        subst this
        have HR : Hid (areSam L = true) := sam_yes HQ.out HU.out
        go_wp2
        go_ret
        exact ⟨ret_bool HR.out.symm, HG.out⟩
  · have hb : decide (12 < (L.length : Int)) = true := decide_eq_true (by omega)
    have HR : Hid (areSam L = false) := sam_long hq
    clear hq
    go_enter Try.func14, Try.ntmps14
    go_wp2
    go_ret
    exact ⟨ret_bool HR.out.symm, World.grownBy.refl _ _⟩

set_option maxRecDepth 20000 in
set_option maxHeartbeats 400000 in
theorem weighs_m (w : World) (xi xs xn : Int) :
    Calls Try.prog 45 #[.agg #[.int .i64 xi, .int .i64 xs, .int .i64 xn]] w fun e w' => e = .returned (.int .i64 xs) ∧ w.grownBy w' none := by
  have HG := Lib.hid (World.grownBy_alloc w (.cells #[.int .i64 xi, .int .i64 xs, .int .i64 xn] 44 (0, 0)) none)
  go_enter Try.func45, Try.ntmps45
  go_wp2
  go_ret
  exact ⟨rfl, HG.out⟩
set_option maxRecDepth 20000 in
set_option maxHeartbeats 1000000 in
theorem sum_weighs (w : World) (v u : Value) (L : List I3) (ids : List Int) (hv : SeesG enc3 w v L) (hu : Sees .i64 w u ids) :
    Calls Try.prog 44 #[v, u, .func (.func 45) #[] #[]] w fun e w' => e = .returned (.int .i64 (pickTo (·.x1) L ids L.length)) ∧ w.grownBy w' none := by
  have hl := hv.len
  have hl2 := hu.len
  have HV := Lib.hid hv
  have HU := Lib.hid hu
  obtain ⟨a, cap, rfl, _⟩ := hv
  obtain ⟨ua, un, ucap, rfl, HN⟩ := hu.shape
  have hl3 : un ≤ 9223372036854775807 := by rw [← HN.out]; exact hl2
  clear hu hl2
  go_enter Try.func44, Try.ntmps44
  go_wp2
  go_step3
  go_wp2
  go_step3
  go_wp2
  go_loopw [7, 14] (fun s i wr => ∃ j : Nat, j ≤ L.length ∧ i = .int .i64 j ∧ s = .int .i64 (pickTo (·.x1) L ids j) ∧ Hid (w.grownBy wr none)) (fun _ i _ => L.length - (intOf i).toNat)
  case atStart => exact ⟨0, Nat.zero_le _, rfl, rfl, World.grownBy.refl _ _⟩
  case round =>
    rename_i _ _ wr
    obtain ⟨j, hj, rfl, rfl, HG⟩ := hrel
    obtain ⟨p, hp⟩ : ∃ p, p = pickTo (·.x1) L ids j := ⟨_, rfl⟩
    rw [← hp]
    have HP := Lib.hid hp
    clear hp
    by_cases hlt : j < L.length
    · obtain ⟨b, o, rfl, _, _⟩ := HV.out.at_row hlt
      obtain ⟨x, hx⟩ : ∃ x, L.getD j zI3 = x := ⟨_, rfl⟩
      obtain ⟨d0, d1, d2⟩ := at3_in HV.out HG.out hlt hx
      have HX := Lib.hid hx
      clear hx
      obtain ⟨xi, xs, xn⟩ := x
      dsimp only at d0 d1 d2
      have hga := World.grownBy_alloc wr (.cells #[.int .i64 xi, .int .i64 xs, .int .i64 xn] 44 (0, 0)) none
      have HGA := Lib.hid (grownN_trans HG.out hga)
      have HB := Lib.hid (box_new wr #[.int .i64 xi, .int .i64 xs, .int .i64 xn] 44)
      clear hga
      go_wp2
      generalize wr.alloc (.cells #[.int .i64 xi, .int .i64 xs, .int .i64 xn] 44 (0, 0)) = w1 at *
      go_loopw [7, 20] (fun s i wz => ∃ m : Nat, m ≤ un ∧ i = .int .i64 m ∧ s = .int .i64 p ∧ Hid (∀ q, q < m → ids.getD q 0 ≠ xi) ∧ Hid (w1.grownBy wz none)) (fun _ i _ => un - (intOf i).toNat)
      case atStart => exact ⟨0, Nat.zero_le _, rfl, rfl, fun q h => absurd h (Nat.not_lt_zero _), World.grownBy.refl _ _⟩
      case round =>
        rename_i _ _ wz
        obtain ⟨m, hm, rfl, rfl, HE, HZ⟩ := hrel
        obtain ⟨e0, e1, e2⟩ := (HB.out.grown HZ.out).three
        by_cases hlm : m < un
        · obtain ⟨y, hy⟩ : ∃ y, y = ids.getD m 0 := ⟨_, rfl⟩
          obtain ⟨ub, uo, rfl, hcj⟩ := (HU.out.grown (grownN_trans HGA.out HZ.out)).at_row (j := m) (by rw [HN.out]; exact hlm)
          rw [← hy] at hcj
          have HY := Lib.hid hy
          clear hy
          by_cases hne : xi = y
          · have hd : decide (xi ∈ ids) = true := by rw [decide_eq_true_eq, hne, HY.out]; exact mem_getD (by rw [HN.out]; exact hlm)
            have HR : Hid (pickTo (·.x1) L ids (j + 1) = wrap64 (p + xs)) := by show _ = _; simp only [pickTo]; rw [HX.out]; dsimp only; rw [hd, ← HP.out]; rfl
            have HM := Lib.hid (fun w => weighs_m w xi xs xn)
            clear hd
            subst hne
            go_wp2_with (go_at_call 45; refine (HM.out _).mono ?_; rintro e w3 ⟨rfl, hg⟩; have HG3 := Lib.hid (grownN_trans (grownN_trans HGA.out HZ.out) hg); clear hg)
            go_roundw
            case rel => exact ⟨j + 1, by omega, by go_num, by rw [HR.out], HG3⟩
            case measure => simp [intOf]; omega
          · have HE2 : Hid (∀ q, q < m + 1 → ids.getD q 0 ≠ xi) := fun q hq => by
              by_cases h : q = m
              · subst h; rw [← HY.out]; exact fun e => hne e.symm
              · exact HE.out q (by omega)
            go_wp2
            go_roundw
            case rel => exact ⟨m + 1, by omega, by go_num, rfl, HE2, HZ⟩
            case measure => simp [intOf]; omega
        · have hmn : un = m := by omega
          subst hmn
          have hd : decide (xi ∈ ids) = false := by
            rw [decide_eq_false_iff_not]
            intro h
            obtain ⟨q, hq, e⟩ := List.getElem_of_mem h
            exact HE.out q (by rw [← HN.out]; exact hq) (by simp [hq, e])
          have HR : Hid (pickTo (·.x1) L ids (j + 1) = p) := by show _ = _; simp only [pickTo]; rw [HX.out]; dsimp only; rw [hd, ← HP.out]; rfl
          clear hd
          go_wp2
          go_roundw
          case rel => exact ⟨j + 1, by omega, by go_num, by rw [HR.out], grownN_trans HGA.out HZ.out⟩
          case measure => simp [intOf]; omega
    · have : j = L.length := by omega
      subst this
      go_wp2
      try rw [Exit.noGoto_ret]
      go_ret
      exact ⟨ret_i64 HP.out, HG.out⟩
set_option maxRecDepth 20000 in
set_option maxHeartbeats 400000 in
theorem isWorth_m (w : World) (xi xs xn : Int) :
    Calls Try.prog 46 #[.agg #[.int .i64 xi, .int .i64 xs, .int .i64 xn]] w fun e w' => e = .returned (.int .i64 xn) ∧ w.grownBy w' none := by
  have HG := Lib.hid (World.grownBy_alloc w (.cells #[.int .i64 xi, .int .i64 xs, .int .i64 xn] 44 (0, 0)) none)
  go_enter Try.func46, Try.ntmps46
  go_wp2
  go_ret
  exact ⟨rfl, HG.out⟩
set_option maxRecDepth 20000 in
set_option maxHeartbeats 1000000 in
theorem sum_isWorth (w : World) (v u : Value) (L : List I3) (ids : List Int) (hv : SeesG enc3 w v L) (hu : Sees .i64 w u ids) :
    Calls Try.prog 44 #[v, u, .func (.func 46) #[] #[]] w fun e w' => e = .returned (.int .i64 (pickTo (·.x2) L ids L.length)) ∧ w.grownBy w' none := by
  have hl := hv.len
  have hl2 := hu.len
  have HV := Lib.hid hv
  have HU := Lib.hid hu
  obtain ⟨a, cap, rfl, _⟩ := hv
  obtain ⟨ua, un, ucap, rfl, HN⟩ := hu.shape
  have hl3 : un ≤ 9223372036854775807 := by rw [← HN.out]; exact hl2
  clear hu hl2
  go_enter Try.func44, Try.ntmps44
  go_wp2
  go_step3
  go_wp2
  go_step3
  go_wp2
  go_loopw [7, 14] (fun s i wr => ∃ j : Nat, j ≤ L.length ∧ i = .int .i64 j ∧ s = .int .i64 (pickTo (·.x2) L ids j) ∧ Hid (w.grownBy wr none)) (fun _ i _ => L.length - (intOf i).toNat)
  case atStart => exact ⟨0, Nat.zero_le _, rfl, rfl, World.grownBy.refl _ _⟩
  case round =>
    rename_i _ _ wr
    obtain ⟨j, hj, rfl, rfl, HG⟩ := hrel
    obtain ⟨p, hp⟩ : ∃ p, p = pickTo (·.x2) L ids j := ⟨_, rfl⟩
    rw [← hp]
    have HP := Lib.hid hp
    clear hp
    by_cases hlt : j < L.length
    · obtain ⟨b, o, rfl, _, _⟩ := HV.out.at_row hlt
      obtain ⟨x, hx⟩ : ∃ x, L.getD j zI3 = x := ⟨_, rfl⟩
      obtain ⟨d0, d1, d2⟩ := at3_in HV.out HG.out hlt hx
      have HX := Lib.hid hx
      clear hx
      obtain ⟨xi, xs, xn⟩ := x
      dsimp only at d0 d1 d2
      have hga := World.grownBy_alloc wr (.cells #[.int .i64 xi, .int .i64 xs, .int .i64 xn] 44 (0, 0)) none
      have HGA := Lib.hid (grownN_trans HG.out hga)
      have HB := Lib.hid (box_new wr #[.int .i64 xi, .int .i64 xs, .int .i64 xn] 44)
      clear hga
      go_wp2
      generalize wr.alloc (.cells #[.int .i64 xi, .int .i64 xs, .int .i64 xn] 44 (0, 0)) = w1 at *
      go_loopw [7, 20] (fun s i wz => ∃ m : Nat, m ≤ un ∧ i = .int .i64 m ∧ s = .int .i64 p ∧ Hid (∀ q, q < m → ids.getD q 0 ≠ xi) ∧ Hid (w1.grownBy wz none)) (fun _ i _ => un - (intOf i).toNat)
      case atStart => exact ⟨0, Nat.zero_le _, rfl, rfl, fun q h => absurd h (Nat.not_lt_zero _), World.grownBy.refl _ _⟩
      case round =>
        rename_i _ _ wz
        obtain ⟨m, hm, rfl, rfl, HE, HZ⟩ := hrel
        obtain ⟨e0, e1, e2⟩ := (HB.out.grown HZ.out).three
        by_cases hlm : m < un
        · obtain ⟨y, hy⟩ : ∃ y, y = ids.getD m 0 := ⟨_, rfl⟩
          obtain ⟨ub, uo, rfl, hcj⟩ := (HU.out.grown (grownN_trans HGA.out HZ.out)).at_row (j := m) (by rw [HN.out]; exact hlm)
          rw [← hy] at hcj
          have HY := Lib.hid hy
          clear hy
          by_cases hne : xi = y
          · have hd : decide (xi ∈ ids) = true := by rw [decide_eq_true_eq, hne, HY.out]; exact mem_getD (by rw [HN.out]; exact hlm)
            have HR : Hid (pickTo (·.x2) L ids (j + 1) = wrap64 (p + xn)) := by show _ = _; simp only [pickTo]; rw [HX.out]; dsimp only; rw [hd, ← HP.out]; rfl
            have HM := Lib.hid (fun w => isWorth_m w xi xs xn)
            clear hd
            subst hne
            go_wp2_with (go_at_call 46; refine (HM.out _).mono ?_; rintro e w3 ⟨rfl, hg⟩; have HG3 := Lib.hid (grownN_trans (grownN_trans HGA.out HZ.out) hg); clear hg)
            go_roundw
            case rel => exact ⟨j + 1, by omega, by go_num, by rw [HR.out], HG3⟩
            case measure => simp [intOf]; omega
          · have HE2 : Hid (∀ q, q < m + 1 → ids.getD q 0 ≠ xi) := fun q hq => by
              by_cases h : q = m
              · subst h; rw [← HY.out]; exact fun e => hne e.symm
              · exact HE.out q (by omega)
            go_wp2
            go_roundw
            case rel => exact ⟨m + 1, by omega, by go_num, rfl, HE2, HZ⟩
            case measure => simp [intOf]; omega
        · have hmn : un = m := by omega
          subst hmn
          have hd : decide (xi ∈ ids) = false := by
            rw [decide_eq_false_iff_not]
            intro h
            obtain ⟨q, hq, e⟩ := List.getElem_of_mem h
            exact HE.out q (by rw [← HN.out]; exact hq) (by simp [hq, e])
          have HR : Hid (pickTo (·.x2) L ids (j + 1) = p) := by show _ = _; simp only [pickTo]; rw [HX.out]; dsimp only; rw [hd, ← HP.out]; rfl
          clear hd
          go_wp2
          go_roundw
          case rel => exact ⟨j + 1, by omega, by go_num, by rw [HR.out], grownN_trans HGA.out HZ.out⟩
          case measure => simp [intOf]; omega
    · have : j = L.length := by omega
      subst this
      go_wp2
      try rw [Exit.noGoto_ret]
      go_ret
      exact ⟨ret_i64 HP.out, HG.out⟩
theorem iWeightOf_any (w : World) (v u : Value) (L : List I3) (ids : List Int) (hv : SeesG enc3 w v L) (hu : Sees .i64 w u ids) :
    Calls Try.prog 18 #[v, u] w fun e w' => e = .returned (.int .i64 (pickTo (·.x1) L ids L.length)) ∧ w.grownBy w' none := by
  have HA := Lib.hid (sum_weighs w v u L ids hv hu)
  go_enter Try.func18, Try.ntmps18
  go_wp2_with fail
  refine HA.out.mono ?_
  rintro e w2 ⟨rfl, hg⟩
  have HG2 := Lib.hid hg
  clear hg
  go_wp2
  go_ret
  exact ⟨rfl, HG2.out⟩
theorem iWorthOf_any (w : World) (v u : Value) (L : List I3) (ids : List Int) (hv : SeesG enc3 w v L) (hu : Sees .i64 w u ids) :
    Calls Try.prog 21 #[v, u] w fun e w' => e = .returned (.int .i64 (pickTo (·.x2) L ids L.length)) ∧ w.grownBy w' none := by
  have HA := Lib.hid (sum_isWorth w v u L ids hv hu)
  go_enter Try.func21, Try.ntmps21
  go_wp2_with fail
  refine HA.out.mono ?_
  rintro e w2 ⟨rfl, hg⟩
  have HG2 := Lib.hid hg
  clear hg
  go_wp2
  go_ret
  exact ⟨rfl, HG2.out⟩
end Go.Proofs.Ytadfjnpcpgniaaa.SamI
