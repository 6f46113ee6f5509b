/- Contracts of the program's functions of chapter 7: members, crews, sums. Contracts of the model's functions of chapter 7. -/
import Derived.Test.YtbpiojnehomljaaG36
import Derived.Test.YtbpiojnehomljaaRowM
import Derived.IntWalk
import Derived.Deep.QuietTactic
import Derived.BigQuiet
namespace Go.Proofs.Ytbpiojnehomljaa.CrI
open Go.RowKit Kit Rw Rg Crw Md

def inb (n l h : Int) : Bool := decide (l ≤ n ∧ n ≤ h)
theorem inR_b (n l h : Int) (w : World) : Calls Try.prog 69 #[.int .i64 n, .int .i64 l, .int .i64 h] w fun e w' => e = .returned (.bool (inb n l h)) ∧ w = w' := inRange_any n l h w

set_option maxRecDepth 20000 in
set_option maxHeartbeats 400000 in
theorem valid_any (w : World) (xi xs xn : Int) (xb : Bool) :
    Calls Try.prog 97 #[.agg #[.int .i64 xi, .int .i64 xs, .int .i64 xn, .bool xb]] w fun e w' => e = .returned (.bool (okMem ⟨xi, xs, xn, xb⟩)) ∧ w.grownBy w' none := by
  have HG := Lib.hid (World.grownBy_alloc w (.cells #[.int .i64 xi, .int .i64 xs, .int .i64 xn, .bool xb] 113 (0, 0)) none)
  by_cases hA : 1 ≤ xi ∧ xi ≤ 99
  · by_cases hB : 0 ≤ xs ∧ xs ≤ 100
    · by_cases hC : 1 ≤ xn ∧ xn ≤ 10
      · skip
        have h0 : inb xi 1 99 = true := decide_eq_true hA
        have h1 : inb xs 0 100 = true := decide_eq_true hB
        have h2 : inb xn 1 10 = true := decide_eq_true hC
        have HR : Hid (okMem ⟨xi, xs, xn, xb⟩ = true) := by show okMem _ = _; unfold okMem; dsimp only; rw [decide_eq_true hA, decide_eq_true hB, decide_eq_true hC]; rfl
        clear hA hB hC
        go_enter Try.func97, Try.ntmps97
        go_wp2_with fail
        refine (inR_b _ _ _ _).mono ?_
        rintro e w2 ⟨rfl, rfl⟩
        go_wp2_with fail
        refine (inR_b _ _ _ _).mono ?_
        rintro e w2 ⟨rfl, rfl⟩
        go_wp2_with fail
        refine (inR_b _ _ _ _).mono ?_
        rintro e w2 ⟨rfl, rfl⟩
        go_wp2
        go_ret
        exact ⟨ret_bool HR.out.symm, HG.out⟩
      · skip
        have h0 : inb xi 1 99 = true := decide_eq_true hA
        have h1 : inb xs 0 100 = true := decide_eq_true hB
        have h2 : inb xn 1 10 = false := decide_eq_false hC
        have HR : Hid (okMem ⟨xi, xs, xn, xb⟩ = false) := by show okMem _ = _; unfold okMem; dsimp only; rw [decide_eq_true hA, decide_eq_true hB, decide_eq_false hC]; rfl
        clear hA hB hC
        go_enter Try.func97, Try.ntmps97
        go_wp2_with fail
        refine (inR_b _ _ _ _).mono ?_
        rintro e w2 ⟨rfl, rfl⟩
        go_wp2_with fail
        refine (inR_b _ _ _ _).mono ?_
        rintro e w2 ⟨rfl, rfl⟩
        go_wp2_with fail
        refine (inR_b _ _ _ _).mono ?_
        rintro e w2 ⟨rfl, rfl⟩
        go_wp2
        go_ret
        exact ⟨ret_bool HR.out.symm, HG.out⟩
    · skip
      have h0 : inb xi 1 99 = true := decide_eq_true hA
      have h1 : inb xs 0 100 = false := decide_eq_false hB
      have HR : Hid (okMem ⟨xi, xs, xn, xb⟩ = false) := by show okMem _ = _; unfold okMem; dsimp only; rw [decide_eq_true hA, decide_eq_false hB]; simp
      clear hA hB
      go_enter Try.func97, Try.ntmps97
      go_wp2_with fail
      refine (inR_b _ _ _ _).mono ?_
      rintro e w2 ⟨rfl, rfl⟩
      go_wp2_with fail
      refine (inR_b _ _ _ _).mono ?_
      rintro e w2 ⟨rfl, rfl⟩
      go_wp2
      go_ret
      exact ⟨ret_bool HR.out.symm, HG.out⟩
  · skip
    have h0 : inb xi 1 99 = false := decide_eq_false hA
    have HR : Hid (okMem ⟨xi, xs, xn, xb⟩ = false) := by show okMem _ = _; unfold okMem; dsimp only; rw [decide_eq_false hA]; simp
    clear hA
    go_enter Try.func97, Try.ntmps97
    go_wp2_with fail
    refine (inR_b _ _ _ _).mono ?_
    rintro e w2 ⟨rfl, rfl⟩
    go_wp2
    go_ret
    exact ⟨ret_bool HR.out.symm, HG.out⟩

theorem four {w : World} {b : Nat} {x y z u : Value} {T : TypeId} (h : Box w b #[x, y, z, u] T) : w.cell? ⟨b, 0, none⟩ = some x ∧ w.cell? ⟨b, 1, none⟩ = some y ∧ w.cell? ⟨b, 2, none⟩ = some z ∧ w.cell? ⟨b, 3, none⟩ = some u := ⟨h.cell 0, h.cell 1, h.cell 2, h.cell 3⟩
/-- The Id before the jth member; 0: none. -/
def before (L : List Mem) : Nat → Int
  | 0 => 0
  | j + 1 => (L.getD j dM).id

set_option maxRecDepth 20000 in
set_option maxHeartbeats 1000000 in
theorem iAreCrew_any (w : World) (v : Value) (L : List Mem) (hv : SeesG encM w v L) :
    Calls Try.prog 62 #[v] w fun e w' => e = .returned (.bool (areCrew L)) ∧ w.grownBy w' none := by
  have hl := hv.len
  have HV := Lib.hid hv
  obtain ⟨a, cap, rfl, _⟩ := hv
  by_cases hq : 1 ≤ L.length ∧ L.length ≤ 8
  · have hb : inb (L.length : Int) 1 8 = true := decide_eq_true (by omega)
    have HQ := Lib.hid hq
    go_enter Try.func62, Try.ntmps62
    go_wp2_with fail
    refine (inR_b _ _ _ _).mono ?_
    rintro e w2 ⟨rfl, rfl⟩
    go_wp2
    go_loopw [3, 12] (fun p i wr => ∃ j : Nat, j ≤ L.length ∧ i = .int .i64 j ∧ p = .int .i64 (before L j) ∧ Hid (upTo L j) ∧ Hid (w.grownBy wr none)) (fun _ i _ => L.length - (intOf i).toNat)
    case atStart => exact ⟨0, Nat.zero_le _, rfl, rfl, upTo_zero L, World.grownBy.refl _ _⟩
    case round =>
      obtain ⟨j, hj, rfl, rfl, HU, HG⟩ := hrel
      by_cases hlt : j < L.length
      · obtain ⟨b, o, rfl, _, _⟩ := HV.out.at_row hlt
        obtain ⟨x, hx⟩ : ∃ x, L.getD j zM = x := ⟨_, rfl⟩
        obtain ⟨d0, d1, d2, d3⟩ := atM_in HV.out HG.out hlt hx
        have HX := Lib.hid hx
        have hbn : before L (j + 1) = x.id := by rw [← hx]; rfl
        have HBN := Lib.hid hbn
        clear hx hbn
        obtain ⟨xi, xs, xn, xb⟩ := x
        dsimp only at d0 d1 d2 d3
        obtain ⟨p, hp⟩ : ∃ p, p = before L j := ⟨_, rfl⟩
        rw [← hp]
        have HP := Lib.hid hp
        clear hp
        have HG1 := Lib.hid (grownN_trans HG.out (World.grownBy_alloc wr (.cells #[.int .i64 xi, .int .i64 xs, .int .i64 xn, .bool xb] 113 (0, 0)) none))
        have HB := Lib.hid (box_new wr #[.int .i64 xi, .int .i64 xs, .int .i64 xn, .bool xb] 113)
        have hv := fun w => valid_any w xi xs xn xb
        cases hok : okMem ⟨xi, xs, xn, xb⟩
        · have HR : Hid (areCrew L = false) := crew_bad hlt (.inl (by rw [show dM = zM from rfl, HX.out]; exact hok))
          rw [hok] at hv
          have HVA := Lib.hid hv
          clear hv hok
          go_wp2_with (go_at_call 97; refine (HVA.out _).mono ?_; rintro e w3 ⟨rfl, hg⟩; have HG3 := Lib.hid (grownN_trans HG1.out hg); clear hg)
          go_ret
          exact ⟨ret_bool HR.out.symm, HG3.out⟩
        · rw [hok] at hv
          have HVA := Lib.hid hv
          have hxo := ok_of hok
          have HOK := Lib.hid hok
          clear hv hok
          by_cases ho : xi ≤ p
          · have HR : Hid (areCrew L = false) := crew_bad hlt (.inr (by
              have hp := HP.out
              match j, hp with
              | 0, hp => exact absurd ho (by rw [hp]; simp only [before]; have := hxo.1; dsimp only at this; omega)
              | k + 1, hp => refine ⟨by omega, ?_⟩; rw [show dM = zM from rfl, HX.out, Nat.add_sub_cancel, show (L.getD k zM).id = p from hp.symm]; dsimp only; omega))
            clear hxo
            go_wp2_with (go_at_call 97; refine (HVA.out _).mono ?_; rintro e w3 ⟨rfl, hg⟩; have HG3 := Lib.hid (grownN_trans HG1.out hg); obtain ⟨q0, q1, q2, q3⟩ := four (HB.out.grown hg); clear hg)
            go_ret
            exact ⟨ret_bool HR.out.symm, HG3.out⟩
          · have HU2 : Hid (upTo L (j + 1)) := upTo_next HU.out (by rw [show dM = zM from rfl, HX.out]; exact HOK.out) (fun h0 => by
              have hp := HP.out
              match j, hp, h0 with
              | k + 1, hp, _ => rw [show dM = zM from rfl, HX.out, Nat.add_sub_cancel, show (L.getD k zM).id = p from hp.symm]; dsimp only; omega)
            clear hxo
            go_wp2_with (go_at_call 97; refine (HVA.out _).mono ?_; rintro e w3 ⟨rfl, hg⟩; have HG3 := Lib.hid (grownN_trans HG1.out hg); obtain ⟨q0, q1, q2, q3⟩ := four (HB.out.grown hg); clear hg)
            go_roundw
            case rel => exact ⟨j + 1, by omega, by go_num, by rw [HBN.out], HU2, HG3⟩
            case measure => simp [intOf]; omega
      · have : j = L.length := by omega
        subst this
        have HR : Hid (areCrew L = true) := crew_yes HQ.out HU.out
        go_wp2
        go_ret
        exact ⟨ret_bool HR.out.symm, HG.out⟩
  · have hb : inb (L.length : Int) 1 8 = false := decide_eq_false (by omega)
    have HR : Hid (areCrew L = false) := crew_long hq
    clear hq
    go_enter Try.func62, Try.ntmps62
    go_wp2_with fail
    refine (inR_b _ _ _ _).mono ?_
    rintro e w2 ⟨rfl, rfl⟩
    go_wp2
    go_ret
    exact ⟨ret_bool HR.out.symm, World.grownBy.refl _ _⟩

set_option maxRecDepth 20000 in
set_option maxHeartbeats 400000 in
theorem eats_m (w : World) (xi xs xn : Int) (xb : Bool) :
    Calls Try.prog 99 #[.agg #[.int .i64 xi, .int .i64 xs, .int .i64 xn, .bool xb]] w fun e w' => e = .returned (.int .i64 (eats ⟨xi, xs, xn, xb⟩)) ∧ w.grownBy w' none := by
  have HG := Lib.hid (World.grownBy_alloc w (.cells #[.int .i64 xi, .int .i64 xs, .int .i64 xn, .bool xb] 113 (0, 0)) none)
  cases xb <;>
  · go_enter Try.func99, Try.ntmps99
    go_wp2
    go_ret
    exact ⟨rfl, HG.out⟩

set_option maxRecDepth 20000 in
set_option maxHeartbeats 1000000 in
theorem sum_eats (w : World) (v : Value) (L : List Mem) (hv : SeesG encM w v L) :
    Calls Try.prog 98 #[v, .func (.func 99) #[] #[]] w fun e w' => e = .returned (.int .i64 (needOf L)) ∧ w.grownBy w' none := by
  have hl := hv.len
  have HV := Lib.hid hv
  have HA := Lib.hid (iAreCrew_any w v L hv)
  obtain ⟨a, cap, rfl, _⟩ := hv
  cases hc : areCrew L
  · have HZ := Lib.hid (needOf_zero hc)
    rw [hc] at HA
    clear hc
    go_enter Try.func98, Try.ntmps98
    go_wp2_with fail
    refine HA.out.mono ?_
    rintro e w2 ⟨rfl, hg⟩
    have HG2 := Lib.hid hg
    clear hg
    go_wp2
    go_ret
    exact ⟨ret_i64 HZ.out.symm, HG2.out⟩
  · have HF : Hid (needOf L = sumTo eats L L.length) := by show _ = _; unfold needOf; rw [if_pos hc]
    have HC := Lib.hid hc
    rw [hc] at HA
    clear hc
    go_enter Try.func98, Try.ntmps98
    go_wp2_with fail
    refine HA.out.mono ?_
    rintro e w2 ⟨rfl, hg⟩
    have HG2 := Lib.hid hg
    clear hg
    go_wp2
    go_loopw [5, 14] (fun s i wr => ∃ j : Nat, j ≤ L.length ∧ i = .int .i64 j ∧ s = .int .i64 (sumTo eats L j) ∧ Hid (w.grownBy wr none)) (fun _ i _ => L.length - (intOf i).toNat)
    case atStart => exact ⟨0, Nat.zero_le _, rfl, by rw [sumTo_zero], HG2⟩
    case round =>
      obtain ⟨j, hj, rfl, rfl, HG⟩ := hrel
      have hsm := sum_small HC.out (fun j hj => eats_at HC.out hj) hj
      obtain ⟨y, hy⟩ : ∃ y, y = sumTo eats L j := ⟨_, rfl⟩
      rw [← hy] at hsm ⊢
      have HY := Lib.hid hy
      clear hy
      by_cases hlt : j < L.length
      · obtain ⟨b, o, rfl, _, _⟩ := HV.out.at_row hlt
        obtain ⟨x, hx⟩ : ∃ x, L.getD j zM = x := ⟨_, rfl⟩
        have ha := eats_at HC.out hlt
        have hn := sumTo_next (f := eats) hlt
        rw [show dM = zM from rfl, hx] at ha hn
        have HN := Lib.hid hn
        obtain ⟨d0, d1, d2, d3⟩ := atM_in HV.out HG.out hlt hx
        clear hx hn
        obtain ⟨xi, xs, xn, xb⟩ := x
        dsimp only at d0 d1 d2 d3
        have HG1 := Lib.hid (grownN_trans HG.out (World.grownBy_alloc wr (.cells #[.int .i64 xi, .int .i64 xs, .int .i64 xn, .bool xb] 113 (0, 0)) none))
        obtain ⟨z, hz⟩ : ∃ z, z = eats ⟨xi, xs, xn, xb⟩ := ⟨_, rfl⟩
        have hm := fun w => eats_m w xi xs xn xb
        rw [← hz] at ha hm HN
        have HM := Lib.hid hm
        clear hz hm
        go_wp2_with (go_at_call 99; refine (HM.out _).mono ?_; rintro e w3 ⟨rfl, hg⟩; have HG3 := Lib.hid (grownN_trans HG1.out hg); clear hg)
        go_roundw
        case rel => exact ⟨j + 1, by omega, by go_num, by rw [HN.out, ← HY.out], HG3⟩
        case measure => simp [intOf]; omega
      · have : j = L.length := by omega
        subst this
        go_wp2
        go_ret
        exact ⟨ret_i64 (by rw [HF.out, HY.out]), HG.out⟩

theorem iNeedOf_any (w : World) (v : Value) (L : List Mem) (hv : SeesG encM w v L) :
    Calls Try.prog 63 #[v] w fun e w' => e = .returned (.int .i64 (needOf L)) ∧ w.grownBy w' none := by
  have HA := Lib.hid (sum_eats w v L hv)
  go_enter Try.func63, Try.ntmps63
  go_wp2_with fail
  refine HA.out.mono ?_
  rintro e w2 ⟨rfl, hg⟩
  have HG2 := Lib.hid hg
  clear hg
  go_wp2
  go_ret
  exact ⟨rfl, HG2.out⟩

end Go.Proofs.Ytbpiojnehomljaa.CrI

namespace Go.Proofs.Ytbpiojnehomljaa.CrS
open Go.RowKit Kit Rw Rg Crw Md

theorem quietly {P : Program} {f : FuncId} {args : Array Value} {w : World} {v : Value} (h : Calls P f args w fun e w' => e = .returned v ∧ w = w') : Calls P f args w fun e w' => e = .returned v ∧ w' = w := h.mono fun _ _ h => ⟨h.1, h.2.symm⟩
def inb (n l h : Int) : Bool := decide (l ≤ n ∧ n ≤ h)
theorem l1In_b (n l h : Int) (w : World) : Calls Try.prog 66 #[.int .i64 n, .int .i64 l, .int .i64 h] w fun e w' => e = .returned (.bool (inb n l h)) ∧ w' = w := quietly (l1In_any n l h w)
/-- The cells of one member, in a world that has grown. -/
theorem atM_grown {w wr : World} {b o n cap : Nat} {L : List Mem} (h : SeesG encM w (.slice (some ⟨b, o, none⟩) n cap) L) (hg : w.grownBy wr none) {j : Nat} (hj : j < L.length) {x : Mem} (hx : L.getD j dM = x) :
    wr.cell? ⟨b, o + j * 4, none⟩ = some (.int .i64 x.id) ∧ wr.cell? ⟨b, o + j * 4 + 1, none⟩ = some (.int .i64 x.str) ∧ wr.cell? ⟨b, o + j * 4 + 2, none⟩ = some (.int .i64 x.need) ∧ wr.cell? ⟨b, o + j * 4 + 3, none⟩ = some (.bool x.ill) := by
  obtain ⟨e0, e1, e2, e3⟩ := (h.grown hg).atM hj
  rw [show (⟨0, 0, 0, false⟩ : Mem) = dM from rfl, hx] at e0 e1 e2 e3
  simp only [Nat.add_assoc] at e1 e2 e3 ⊢
  exact ⟨e0, e1, e2, e3⟩

set_option maxRecDepth 20000 in
set_option maxHeartbeats 1000000 in
theorem sAreCrew_any (w : World) (v : Value) (L : List Mem) (hv : SeesG encM w v L) :
    Calls Try.prog 57 #[v] w fun e w' => e = .returned (.bool (areCrew L)) ∧ w.grownBy w' none := by
  have hl := hv.len
  have HV := Lib.hid hv
  obtain ⟨a, cap, rfl, _⟩ := hv
  go_enter Try.func57, Try.ntmps57
  go_wp2
  go_loopw [3] (fun i wr => ∃ j : Nat, j ≤ L.length ∧ i = .int .i64 j ∧ Hid (upTo L j) ∧ Hid (w.grownBy wr none)) (fun i _ => L.length - (intOf i).toNat)
  case atStart => exact ⟨0, Nat.zero_le _, rfl, upTo_zero L, World.grownBy.refl _ _⟩
  case round =>
    obtain ⟨j, hj, rfl, HU, HG⟩ := hrel
    by_cases hlt : j < L.length
    · obtain ⟨b, o, rfl, _, _⟩ := HV.out.at_row hlt
      obtain ⟨x, hx⟩ : ∃ x, L.getD j dM = x := ⟨_, rfl⟩
      obtain ⟨d0, d1, d2, d3⟩ := atM_grown HV.out HG.out hlt hx
      have HX := Lib.hid hx
      clear hx
      obtain ⟨xi, xs, xn, xb⟩ := x
      dsimp only at d0 d1 d2 d3
      by_cases hA : 1 ≤ xi ∧ xi ≤ 99
      · by_cases hB : 0 ≤ xs ∧ xs ≤ 100
        · by_cases hC : 1 ≤ xn ∧ xn ≤ 10
          · have HOK : Hid (okMem (L.getD j dM) = true) := by show _ = _; rw [HX.out]; unfold okMem; rw [decide_eq_true hA, decide_eq_true hB, decide_eq_true hC]; rfl
            have h0 : inb xi 1 99 = true := decide_eq_true hA
            have h1 : inb xs 0 100 = true := decide_eq_true hB
            have h2 : inb xn 1 10 = true := decide_eq_true hC
            by_cases h0 : j = 0
            · have hj0 : (j : Int) ≤ 0 := by omega
              have hjd : decide (0 < j) = false := decide_eq_false (by omega)
              have HU2 : Hid (upTo L (j + 1)) := upTo_next HU.out HOK.out (fun h => absurd h (by omega))
              clear hA hB hC h0
              go_wp2
              go_quiet (first | (go_at_call 66; refine Calls.quiet_of_same (l1In_b _ _ _ _)))
              go_wp2
              go_roundw
              case rel => exact ⟨j + 1, by omega, by go_num, HU2, grown_drewN HG.out _⟩
              case measure => simp [intOf]; omega
            · obtain ⟨y, hy⟩ : ∃ y, L.getD (j - 1) dM = y := ⟨_, rfl⟩
              have hk : j - 1 < L.length := by omega
              obtain ⟨k, hkk⟩ : ∃ k, k = j - 1 := ⟨_, rfl⟩
              have hki : (j : Int) - 1 = k := by omega
              rw [← hkk] at hy hk
              obtain ⟨f0, _, _, _⟩ := atM_grown HV.out HG.out hk hy
              have HY := Lib.hid hy
              have HKK := Lib.hid hkk
              clear hy hkk
              obtain ⟨yi, ys, yn, yb⟩ := y
              dsimp only at f0
              have hj0 : (0 : Int) < j := by omega
              have hjd : decide (0 < j) = true := decide_eq_true (by omega)
              clear hA hB hC
              by_cases hq : yi < xi
              · have HU2 : Hid (upTo L (j + 1)) := upTo_next HU.out HOK.out (fun _ => by rw [HX.out, ← HKK.out, HY.out]; exact hq)
                go_wp2
                go_quiet (first | (go_at_call 66; refine Calls.quiet_of_same (l1In_b _ _ _ _)))
                go_wp2
                go_roundw
                case rel => exact ⟨j + 1, by omega, by go_num, HU2, grown_drewN HG.out _⟩
                case measure => simp [intOf]; omega
              · have HR : Hid (areCrew L = false) := crew_bad hlt (by right; rw [HX.out, ← HKK.out, HY.out]; exact ⟨by omega, hq⟩)
                go_wp2
                go_quiet (first | (go_at_call 66; refine Calls.quiet_of_same (l1In_b _ _ _ _)))
                go_wp2
                go_ret
                exact ⟨ret_bool HR.out.symm, grown_drewN HG.out _⟩
          · skip
            have HR : Hid (areCrew L = false) := crew_bad hlt (by left; rw [HX.out]; unfold okMem; rw [decide_eq_true hA, decide_eq_true hB, decide_eq_false hC]; rfl)
            have h0 : inb xi 1 99 = true := decide_eq_true hA
            have h1 : inb xs 0 100 = true := decide_eq_true hB
            have h2 : inb xn 1 10 = false := decide_eq_false hC
            clear hA hB hC
            go_wp2
            go_quiet (first | (go_at_call 66; refine Calls.quiet_of_same (l1In_b _ _ _ _)))
            go_wp2
            go_ret
            exact ⟨ret_bool HR.out.symm, grown_drewN HG.out _⟩
        · skip
          have HR : Hid (areCrew L = false) := crew_bad hlt (by left; rw [HX.out]; unfold okMem; rw [decide_eq_true hA, decide_eq_false hB]; simp)
          have h0 : inb xi 1 99 = true := decide_eq_true hA
          have h1 : inb xs 0 100 = false := decide_eq_false hB
          clear hA hB
          go_wp2
          go_quiet (first | (go_at_call 66; refine Calls.quiet_of_same (l1In_b _ _ _ _)))
          go_wp2
          go_ret
          exact ⟨ret_bool HR.out.symm, grown_drewN HG.out _⟩
      · skip
        have HR : Hid (areCrew L = false) := crew_bad hlt (by left; rw [HX.out]; unfold okMem; rw [decide_eq_false hA]; simp)
        have h0 : inb xi 1 99 = false := decide_eq_false hA
        clear hA
        go_wp2
        go_quiet (first | (go_at_call 66; refine Calls.quiet_of_same (l1In_b _ _ _ _)))
        go_wp2
        go_ret
        exact ⟨ret_bool HR.out.symm, grown_drewN HG.out _⟩
    · have : j = L.length := by omega
      subst this
      have hs := fun w => l1In_any (L.length : Int) 1 8 w
      by_cases hq : 1 ≤ L.length ∧ L.length ≤ 8
      · have HR : Hid (areCrew L = true) := crew_yes hq HU.out
        rw [decide_eq_true (show (1 : Int) ≤ L.length ∧ (L.length : Int) ≤ 8 by omega)] at hs
        have HS := Lib.hid hs
        clear hs hq
        go_wp2_with (go_at_call 66; refine (HS.out _).mono ?_; rintro e w3 ⟨rfl, rfl⟩)
        go_ret
        exact ⟨ret_bool HR.out.symm, HG.out⟩
      · have HR : Hid (areCrew L = false) := crew_long hq
        rw [decide_eq_false (show ¬ ((1 : Int) ≤ L.length ∧ (L.length : Int) ≤ 8) by omega)] at hs
        have HS := Lib.hid hs
        clear hs hq
        go_wp2_with (go_at_call 66; refine (HS.out _).mono ?_; rintro e w3 ⟨rfl, rfl⟩)
        go_ret
        exact ⟨ret_bool HR.out.symm, HG.out⟩

set_option maxRecDepth 20000 in
set_option maxHeartbeats 800000 in
theorem sNeedOf_any (w : World) (v : Value) (L : List Mem) (hv : SeesG encM w v L) :
    Calls Try.prog 59 #[v] w fun e w' => e = .returned (.int .i64 (needOf L)) ∧ w.grownBy w' none := by
  have hl := hv.len
  have HV := Lib.hid hv
  have HA := Lib.hid (fun w hv => sAreCrew_any w v L hv)
  obtain ⟨a, cap, rfl, _⟩ := hv
  cases hc : areCrew L
  · have HZ := Lib.hid (needOf_zero hc)
    rw [hc] at HA
    clear hc
    go_enter Try.func59, Try.ntmps59
    go_wp2
    go_loopw [3, 4] (fun s i wr => s = .int .i64 0 ∧ i = .int .i64 0 ∧ Hid (w.grownBy wr none)) (fun _ _ _ => 0)
    case atStart => exact ⟨rfl, rfl, World.grownBy.refl _ _⟩
    case round =>
      obtain ⟨rfl, rfl, HG⟩ := hrel
      by_cases h0 : 0 < L.length
      · go_wp2_with (go_at_call 57; refine (HA.out _ (HV.out.grown HG.out)).mono ?_; rintro e w3 ⟨rfl, hg⟩; have HG3 := Lib.hid (grownN_trans HG.out hg); clear hg)
        go_ret
        exact ⟨ret_i64 HZ.out.symm, HG3.out⟩
      · go_wp2
        go_ret
        exact ⟨ret_i64 HZ.out.symm, HG.out⟩
  · have HF : Hid (needOf L = sumTo eats L L.length) := by show _ = _; unfold needOf; rw [if_pos hc]
    have HC := Lib.hid hc
    rw [hc] at HA
    clear hc
    go_enter Try.func59, Try.ntmps59
    go_wp2
    go_loopw [3, 4] (fun s i wr => ∃ j : Nat, j ≤ L.length ∧ i = .int .i64 j ∧ s = .int .i64 (sumTo eats L j) ∧ Hid (w.grownBy wr none)) (fun _ i _ => L.length - (intOf i).toNat)
    case atStart => exact ⟨0, Nat.zero_le _, rfl, by rw [sumTo_zero], World.grownBy.refl _ _⟩
    case round =>
      obtain ⟨j, hj, rfl, rfl, HG⟩ := hrel
      have hsm := sum_small HC.out (fun j hj => eats_at HC.out hj) hj
      obtain ⟨y, hy⟩ : ∃ y, y = sumTo eats L j := ⟨_, rfl⟩
      rw [← hy] at hsm ⊢
      have HY := Lib.hid hy
      clear hy
      by_cases hlt : j < L.length
      · obtain ⟨b, o, rfl, _, _⟩ := HV.out.at_row hlt
        obtain ⟨x, hx⟩ : ∃ x, L.getD j dM = x := ⟨_, rfl⟩
        have ha := eats_at HC.out hlt
        have hn := sumTo_next (f := eats) hlt
        have hcr := crew_at HC.out hlt
        rw [hx] at ha hn hcr
        have HN := Lib.hid hn
        have HX := Lib.hid hx
        clear hx hn
        obtain ⟨xi, xs, xn, xb⟩ := x
        dsimp only at hcr
        obtain ⟨hc1, hc2, hc3⟩ := hcr
        go_wp2_with (go_at_call 57; refine (HA.out _ (HV.out.grown HG.out)).mono ?_; rintro e w3 ⟨rfl, hg⟩; have HG3 := Lib.hid (grownN_trans HG.out hg); clear hg; obtain ⟨d0, d1, d2, d3⟩ := atM_grown HV.out HG3.out hlt HX.out; dsimp only at d0 d1 d2 d3)
        go_roundw
        case rel => exact ⟨j + 1, by omega, by go_num, by rw [HN.out, ← HY.out]; rfl, HG3⟩
        case measure => simp [intOf]; omega
      · have : j = L.length := by omega
        subst this
        go_wp2
        go_ret
        exact ⟨ret_i64 (by rw [HF.out, HY.out]), HG.out⟩

end Go.Proofs.Ytbpiojnehomljaa.CrS
