/- Contracts of MeetDay, of the program and of its model. -/
import Derived.Test.YtbgbnbnfmlpemaaAway
import Derived.Test.YtbgbnbnfmlpemaaWayL
import Derived.Test.YtbgbnbnfmlpemaaWayV
import Derived.Test.YtbgbnbnfmlpemaaMin
import Derived.IntWalk
namespace Go.Proofs.Ytbgbnbnfmlpemaa.Awy
open Go.RowKit Kit Rw Ld Gr GrI Bfs Wf Sr LandI WayI

def inb (n l h : Int) : Bool := decide (l ≤ n ∧ n ≤ h)
theorem inR_b (n l h : Int) (w : World) : Calls Try.prog 48 #[.int .i64 n, .int .i64 l, .int .i64 h] w fun e w' => e = .returned (.bool (inb n l h)) ∧ w = w' := Md.inRange_any n l h w
theorem l1In_b (n l h : Int) (w : World) : Calls Try.prog 44 #[.int .i64 n, .int .i64 l, .int .i64 h] w fun e w' => e = .returned (.bool (inb n l h)) ∧ w = w' := Md.l1In_any n l h w
def atA (L : List Int) (n : Int) : Int := if 0 ≤ n ∧ n ≤ 63 then L.getD n.toNat 0 else -1
theorem atA_days (W H : Int) (X : List Int) (a n : Int) : atA (awTo W H X a 64) n = daysOf W H X a n := by
  unfold atA
  by_cases h : 0 ≤ n ∧ n ≤ 63
  · rw [if_pos h]
    have := awTo_get (W := W) (H := H) (X := X) (a := a) (m := n.toNat) (by omega)
    rw [this, Int.toNat_of_nonneg h.1]
  · rw [if_neg h]
    unfold daysOf
    rw [if_neg]
    intro q
    obtain ⟨p, h', m, _, _, e, hm, _, h64, _⟩ := open_nat q.2
    omega
theorem to_any (w : World) (B : Nat) (L : List Int) (n : Int) (hb : Box w B (cellsI L) 75) (hl : L.length = 64) :
    Calls Try.prog 51 #[.pointer (some ⟨B, 0, none⟩), .int .i64 n] w fun e w' => e = .returned (.int .i64 (atA L n)) ∧ w.grownBy w' none := by
  by_cases h : 0 ≤ n ∧ n ≤ 63
  · have hbb : inb n 0 63 = true := decide_eq_true h
    have hr : atA L n = L.getD n.toNat 0 := if_pos h
    obtain ⟨k, rfl⟩ : ∃ k : Nat, n = k := ⟨n.toNat, by omega⟩
    have hk : k < 64 := by omega
    have hkI : (k : Int) < 64 := by omega
    have hc := (hb.cell k).trans (cellsI_get (by rw [hl]; exact hk))
    rw [Int.toNat_natCast] at hr
    obtain ⟨z, hz⟩ : ∃ z, z = L.getD k 0 := ⟨_, rfl⟩
    rw [← hz] at hr hc
    have HR := Lib.hid hr
    clear hb hr h hz hl
    go_enter Try.func51, Try.ntmps51
    go_wp2_with (go_at_call 48; refine (inR_b _ _ _ _).mono ?_; rintro e w6 ⟨rfl, rfl⟩; try rw [hbb])
    go_ret
    exact ⟨ret_i64 HR.out.symm, World.grownBy.refl _ _⟩
  · have hbb : inb n 0 63 = false := decide_eq_false h
    have HR : Hid (atA L n = -1) := if_neg h
    clear hb h
    go_enter Try.func51, Try.ntmps51
    go_wp2_with (go_at_call 48; refine (inR_b _ _ _ _).mono ?_; rintro e w6 ⟨rfl, rfl⟩; try rw [hbb])
    go_ret
    exact ⟨ret_i64 HR.out.symm, World.grownBy.refl _ _⟩

theorem ret_2i {p : Int × Int} {a b : Int} (h : p = (a, b)) : Ending.returned (.tuple #[.int .i64 a, .int .i64 b]) = .returned (.tuple #[.int .i64 p.1, .int .i64 p.2]) := by rw [h]
def cellAt (Y : List Int) (d : Nat) : Int := Y.getD (min d (Y.length - 1)) 0
noncomputable def hitB (W H : Int) (X : List Int) (a : Int) (Y : List Int) (s d : Nat) : Bool := decide (0 ≤ daysOf W H X a (cellAt Y d) ∧ daysOf W H X a (cellAt Y d) ≤ (d : Int) - (s : Int))
def scan (P : Nat → Bool) (c : Nat → Int) : Nat → Nat → Int × Int
  | 0, _ => (-1, -1)
  | n + 1, d => if P d = true then ((d : Int), c d) else scan P c n (d + 1)
noncomputable def meetOf (W H : Int) (X : List Int) (a : Int) (Y : List Int) (s : Int) : Int × Int := if isWayOf W H X Y = true ∧ (0 ≤ s ∧ s ≤ 100) then scan (hitB W H X a Y s.toNat) (cellAt Y) (201 - s.toNat) s.toNat else (-1, -1)
theorem scan_hit {P : Nat → Bool} {c : Nat → Int} {j : Nat} (hj : j ≤ 200) (h : P j = true) : scan P c (201 - j) j = ((j : Int), c j) := by
  obtain ⟨m, hm⟩ : ∃ m, 201 - j = m + 1 := ⟨200 - j, by omega⟩
  rw [hm]; unfold scan; rw [if_pos h]
theorem scan_miss {P : Nat → Bool} {c : Nat → Int} {j : Nat} (hj : j ≤ 200) (h : P j = false) : scan P c (201 - j) j = scan P c (201 - (j + 1)) (j + 1) := by
  obtain ⟨m, hm⟩ : ∃ m, 201 - j = m + 1 := ⟨200 - j, by omega⟩
  rw [hm, show 201 - (j + 1) = m by omega]; rw [scan, if_neg (by rw [h]; exact Bool.false_ne_true)]
theorem least_at {j n : Nat} (h : 0 < n) : Mn.least (j : Int) ((n : Int) - 1) = ((min j (n - 1) : Nat) : Int) := by
  unfold Mn.least
  split <;> omega
theorem seesAt {w w' : World} {b o n c : Nat} {L : List Int} {i : Nat} (h : Sees .i64 w (.slice (some ⟨b, o, none⟩) n c) L) (hg : w.grownBy w' none) (hi : i < L.length) : w'.cell? ⟨b, o + i, none⟩ = some (.int .i64 (L.getD i 0)) := by
  obtain ⟨b', o', e, hc⟩ := (h.grown hg).at_row hi
  cases e
  exact hc
theorem sMin_b (a b : Int) (w : World) :
    Calls Try.prog 45 #[.int .i64 a, .int .i64 b] w fun e w' => e = .returned (.int .i64 (Mn.least a b)) ∧ w = w' := by
  by_cases h : b < a
  · rw [Mn.least_lt h]
    go_enter Try.func45, Try.ntmps45
    go_wp2
    go_ret
    exact ⟨rfl, rfl⟩
  · rw [Mn.least_ge (by omega)]
    go_enter Try.func45, Try.ntmps45
    go_wp2
    go_ret
    exact ⟨rfl, rfl⟩

set_option maxRecDepth 20000 in
set_option maxHeartbeats 2000000 in
theorem iMeet_any (w : World) (W H a s : Int) (v u : Value) (X Y : List Int) (hv : Sees .i64 w v X) (hu : Sees .i64 w u Y) :
    Calls Try.prog 25 #[.agg #[.int .i64 W, .int .i64 H, v], .int .i64 a, u, .int .i64 s] w fun e w' => e = .returned (.tuple #[.int .i64 (meetOf W H X a Y s).1, .int .i64 (meetOf W H X a Y s).2]) ∧ w.grownBy w' none := by
  have hul := hu.len
  have hg0 := World.grownBy_alloc w (.cells #[.int .i64 W, .int .i64 H, v] 27 (0, 0)) (none : Option Nat)
  have HB := Lib.hid (box_new w #[.int .i64 W, .int .i64 H, v] 27)
  have HV := Lib.hid (hv.grown hg0)
  have HU := Lib.hid (hu.grown hg0)
  have HG := Lib.hid hg0
  have hiw := isWay_any _ W H v u X Y (hv.grown hg0) (hu.grown hg0)
  obtain ⟨va, vn, vc, hvv, HVN⟩ := hv.shape
  obtain ⟨ua, un, uc, huu, HUN⟩ := hu.shape
  subst hvv huu
  have hun : un ≤ 9223372036854775807 := by rw [← HUN.out]; exact hul
  cases hw : isWayOf W H X Y
  · have HR : Hid (meetOf W H X a Y s = (-1, -1)) := by show _ = _; unfold meetOf; rw [hw]; rfl
    rw [hw] at hiw
    have HIW := Lib.hid hiw
    obtain ⟨c0, c1, c2⟩ := HB.out.three
    clear hv hu hg0 hiw hw
    go_enter Try.func25, Try.ntmps25
    go_wp2_with fail
    generalize w.alloc (.cells #[.int .i64 W, .int .i64 H, .slice va vn vc] 27 (0, 0)) = w1 at *
    refine HIW.out.mono ?_
    rintro e w2 ⟨rfl, hg⟩
    have HG2 := Lib.hid (grownN_trans HG.out hg)
    clear hg
    go_wp2
    go_ret2
    exact ⟨ret_2i HR.out, HG2.out⟩
  · have hP : IsWayP W H X Y := by unfold isWayOf at hw; exact @of_decide_eq_true _ (Classical.propDecidable _) hw
    have hY : 0 < Y.length := hP.1
    have hX : 0 < X.length := by
      obtain ⟨p, h', m, _, _, _, _, _, _, h1⟩ := open_nat (hP.2.1 0 hY)
      exact h1
    obtain ⟨vb, vo, e, hvc⟩ := hv.at_row (j := 0) hX
    subst e
    obtain ⟨ub, uo, e, _⟩ := hu.at_row (j := 0) hY
    subst e
    have hvb := World.block_lt_of_cell? w _ hvc
    have HVB : Hid (vb < w.heap.size) := hvb
    rw [hw] at hiw
    have HIW := Lib.hid hiw
    have HW := Lib.hid hw
    have HY := Lib.hid hY
    by_cases hs : 0 ≤ s ∧ s ≤ 100
    · have hbb : inb s 0 100 = true := decide_eq_true hs
      obtain ⟨k, rfl⟩ : ∃ k : Nat, s = k := ⟨s.toNat, by omega⟩
      have HR : Hid (meetOf W H X a Y (k : Int) = scan (hitB W H X a Y k) (cellAt Y) (201 - k) k) := by show _ = _; unfold meetOf; rw [if_pos ⟨hw, hs⟩, Int.toNat_natCast]
      have hk : k ≤ 100 := by omega
      have hkI : (k : Int) ≤ 100 := by omega
      obtain ⟨c0, c1, c2⟩ := HB.out.three
      clear hv hu hg0 hiw hw hs hP hY hX hvc hvb
      go_enter Try.func25, Try.ntmps25
      go_wp2_with fail
      generalize w.alloc (.cells #[.int .i64 W, .int .i64 H, .slice (some ⟨vb, vo, none⟩) vn vc] 27 (0, 0)) = w1 at *
      refine HIW.out.mono ?_
      rintro e w2 ⟨rfl, hg⟩
      have HG2 := Lib.hid hg
      clear hg c0 c1 c2
      obtain ⟨c0, c1, c2⟩ := (HB.out.grown HG2.out).three
      go_wp2_with (go_at_call 48; refine (inR_b _ _ _ _).mono ?_; rintro e w6 ⟨rfl, rfl⟩; try rw [hbb])
      refine (away_any _ W H a _ X (HV.out.grown HG2.out) (.inr ⟨vb, rfl, Nat.lt_of_lt_of_le HVB.out (grownN_trans HG.out HG2.out).size⟩)).mono ?_
      rintro e w3 ⟨rfl, hrow, hg⟩
      have HROW := Lib.hid hrow
      have HG3 := Lib.hid (grownN_trans HG2.out hg)
      clear hg hrow c0 c1 c2
      generalize w2.heap.size + 1 = B at *
      go_wp2
      go_loopw [11] (fun i wr => ∃ j : Nat, k ≤ j ∧ j ≤ 201 ∧ i = .int .i64 j ∧ Hid (meetOf W H X a Y (k : Int) = scan (hitB W H X a Y k) (cellAt Y) (201 - j) j) ∧ Hid (w3.grownBy wr none)) (fun i _ => 201 - (intOf i).toNat)
      case atStart => exact ⟨k, Nat.le_refl _, by omega, rfl, HR, World.grownBy.refl _ _⟩
      case round =>
        obtain ⟨j, hkj, hj, rfl, HM, HGR⟩ := hrel
        by_cases hlt : j ≤ 200
        · have hjI : (j : Int) ≤ 200 := by omega
          have hkjI : (k : Int) ≤ (j : Int) := by omega
          obtain ⟨i, hi⟩ : ∃ i, i = min j (Y.length - 1) := ⟨_, rfl⟩
          have hmn := Mn.min_any (j : Int) ((un : Int) - 1) wr
          rw [least_at (by rw [← HUN.out]; exact HY.out), ← HUN.out, ← hi, HUN.out] at hmn
          have HMN := Lib.hid hmn
          have hiY : i < Y.length := by have := HY.out; omega
          have hiu : i < un := by rw [← HUN.out]; exact hiY
          have hiuI : (i : Int) < (un : Int) := by omega
          obtain ⟨y, hy⟩ : ∃ y, y = Y.getD i 0 := ⟨_, rfl⟩
          have HCA : Hid (cellAt Y j = y) := by show _ = _; unfold cellAt; rw [← hi, hy]
          have HAT := Lib.hid (fun w' (hg : w1.grownBy w' none) => seesAt HU.out hg hiY)
          rw [← hy] at HAT
          obtain ⟨n, hn⟩ : ∃ n, n = daysOf W H X a y := ⟨_, rfl⟩
          have HTO := Lib.hid (fun w' (hg : w3.grownBy w' none) => to_any w' B _ y (HROW.out.grown hg) (awTo_len W H X a 64))
          rw [atA_days, ← hn] at HTO
          by_cases hh : 0 ≤ n ∧ n ≤ (j : Int) - (k : Int)
          · have hb2 : inb n 0 ((j : Int) - (k : Int)) = true := decide_eq_true hh
            have HRR : Hid (meetOf W H X a Y (k : Int) = ((j : Int), y)) := by
              show _ = _
              rw [HM.out, scan_hit hlt (by unfold hitB; rw [HCA.out, ← hn]; exact decide_eq_true hh), HCA.out]
            clear hmn hi hy hn hh hiY
            go_wp2_with fail
            refine HMN.out.mono ?_
            rintro e w5 ⟨rfl, hg⟩
            have HG5 := Lib.hid (grownN_trans HGR.out hg)
            have hat := HAT.out _ (grownN_trans HG3.out HG5.out)
            clear hg
            go_wp2_with fail
            refine (HTO.out _ HG5.out).mono ?_
            rintro e w6 ⟨rfl, hg⟩
            have HG6 := Lib.hid (grownN_trans HG.out (grownN_trans HG3.out (grownN_trans HG5.out hg)))
            clear hg hat
            go_wp2_with (go_at_call 48; refine (inR_b _ _ _ _).mono ?_; rintro e w7 ⟨rfl, rfl⟩; try rw [hb2])
            go_ret2
            exact ⟨ret_2i HRR.out, HG6.out⟩
          · have hb2 : inb n 0 ((j : Int) - (k : Int)) = false := decide_eq_false hh
            have HM2 : Hid (meetOf W H X a Y (k : Int) = scan (hitB W H X a Y k) (cellAt Y) (201 - (j + 1)) (j + 1)) := by
              show _ = _
              rw [HM.out, scan_miss hlt (by unfold hitB; rw [HCA.out, ← hn]; exact decide_eq_false hh)]
            clear hmn hi hy hn hh hiY
            go_wp2_with fail
            refine HMN.out.mono ?_
            rintro e w5 ⟨rfl, hg⟩
            have HG5 := Lib.hid (grownN_trans HGR.out hg)
            have hat := HAT.out _ (grownN_trans HG3.out HG5.out)
            clear hg
            go_wp2_with fail
            refine (HTO.out _ HG5.out).mono ?_
            rintro e w6 ⟨rfl, hg⟩
            have HG6 := Lib.hid (grownN_trans HG5.out hg)
            clear hg hat
            go_wp2_with (go_at_call 48; refine (inR_b _ _ _ _).mono ?_; rintro e w7 ⟨rfl, rfl⟩; try rw [hb2])
            go_roundw
            case rel => exact ⟨j + 1, by omega, by omega, by go_num, HM2, HG6⟩
            case measure => simp [intOf]; omega
        · have hjj : j = 201 := by omega
          subst hjj
          have HRR : Hid (meetOf W H X a Y (k : Int) = (-1, -1)) := by show _ = _; rw [HM.out]; rfl
          have HG6 := Lib.hid (grownN_trans HG.out (grownN_trans HG3.out HGR.out))
          go_wp2
          go_ret2
          exact ⟨ret_2i HRR.out, HG6.out⟩
    · have hbb : inb s 0 100 = false := decide_eq_false hs
      have HR : Hid (meetOf W H X a Y s = (-1, -1)) := by show _ = _; unfold meetOf; rw [if_neg (fun q => hs q.2)]
      obtain ⟨c0, c1, c2⟩ := HB.out.three
      clear hv hu hg0 hiw hw hs hP hY hX hvc hvb
      go_enter Try.func25, Try.ntmps25
      go_wp2_with fail
      generalize w.alloc (.cells #[.int .i64 W, .int .i64 H, .slice (some ⟨vb, vo, none⟩) vn vc] 27 (0, 0)) = w1 at *
      refine HIW.out.mono ?_
      rintro e w2 ⟨rfl, hg⟩
      have HG2 := Lib.hid (grownN_trans HG.out hg)
      clear hg
      go_wp2_with (go_at_call 48; refine (inR_b _ _ _ _).mono ?_; rintro e w6 ⟨rfl, rfl⟩; try rw [hbb])
      go_ret2
      exact ⟨ret_2i HR.out, HG2.out⟩
end Go.Proofs.Ytbgbnbnfmlpemaa.Awy
