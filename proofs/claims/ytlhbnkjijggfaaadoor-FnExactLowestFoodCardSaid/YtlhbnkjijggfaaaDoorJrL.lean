/- Contracts of what was eaten between two pages, of the lowest food, and of the first day at a cell, of the program and of its model. -/
import Derived.Test.YtlhbnkjijggfaaaDoorJrS
import Derived.Test.YtlhbnkjijggfaaaDoorJrK
import Derived.Test.YtlhbnkjijggfaaaDoorMin
import Derived.Deep.QuietTactic
import Derived.BigQuiet
namespace Go.Proofs.YtlhbnkjijggfaaaDoor.Jrn
open Go.RowKit Kit Rw Rg Md Four Hs

theorem sMin_any (a b : Int) (w : World) : Calls Tryd.prog 64 #[.int .i64 a, .int .i64 b] w fun e w' => e = .returned (.int .i64 (Mn.least a b)) ∧ w.grownBy w' none := by
  by_cases h : b < a
  · have HR : Hid (Mn.least a b = b) := Mn.least_lt h
    go_enter Tryd.func64, Tryd.ntmps64
    go_wp2
    go_ret
    exact ⟨ret_i64 HR.out.symm, World.grownBy.refl _ _⟩
  · have HR : Hid (Mn.least a b = a) := Mn.least_ge (by omega)
    go_enter Tryd.func64, Tryd.ntmps64
    go_wp2
    go_ret
    exact ⟨ret_i64 HR.out.symm, World.grownBy.refl _ _⟩
theorem page_bd {L : List I4} (h : isJ L = true) {j : Nat} (hj : j < L.length) : 0 ≤ (L.getD j zI4).x0 ∧ (L.getD j zI4).x0 ≤ 10000 ∧ 0 ≤ (L.getD j zI4).x2 ∧ (L.getD j zI4).x2 ≤ 10000 := by
  have h1 := (isJ_out h).2
  have h2 := mf_out (h1 j hj)
  have h3 := prev_bd (L := L) (n := j) (fun k hk => h1 k (by omega))
  omega

/-! eaten between two pages -/
def inL (L : List I4) (i : Int) : Bool := inb i 0 ((L.length : Int) - 1)
theorem inL_out {L : List I4} {i : Int} (h : inL L i = true) : ∃ j : Nat, i = j ∧ j < L.length := by
  unfold inL inb at h
  simp at h
  exact ⟨i.toNat, by omega, by omega⟩
def eaten (L : List I4) (i k : Int) : Int := if (isJ L && (inL L i && inL L k)) = true then (L.getD i.toNat zI4).x2 - (L.getD k.toNat zI4).x2 else 0
theorem eaten_no {L : List I4} {i k : Int} (h : (isJ L && (inL L i && inL L k)) = false) : eaten L i k = 0 := if_neg (by rw [h]; decide)
theorem eaten_yes {L : List I4} {i k : Int} (h : (isJ L && (inL L i && inL L k)) = true) : eaten L i k = (L.getD i.toNat zI4).x2 - (L.getD k.toNat zI4).x2 := if_pos h

set_option maxRecDepth 20000 in
set_option maxHeartbeats 2000000 in
theorem iEaten_any (w : World) (v : Value) (L : List I4) (i k : Int) (hi : -9223372036854775808 ≤ i ∧ i ≤ 9223372036854775807) (hk : -9223372036854775808 ≤ k ∧ k ≤ 9223372036854775807) (hv : SeesG enc4 w v L) (hc : VC w) :
    Calls Tryd.prog 27 #[v, .int .i64 i, .int .i64 k] w fun e w' => e = .returned (.int .i64 (eaten L i k)) ∧ w.grownBy w' none := by
  have HJ := Lib.hid (iIsJ_any w v L hv hc)
  have HV := Lib.hid hv
  have hl := hv.len
  have H1 := Lib.hid fun w => inR_b i 0 ((L.length : Int) - 1) w
  have H2 := Lib.hid fun w => inR_b k 0 ((L.length : Int) - 1) w
  have hlw : IntKind.i64.wrap ((L.length : Int) - 1) = (L.length : Int) - 1 := IntWalk.i64_in _ (by omega)
  obtain ⟨a, cap, rfl, _⟩ := hv
  clear hc
  cases hj : isJ L
  · have HR : Hid (eaten L i k = 0) := eaten_no (by rw [hj]; rfl)
    rw [hj] at HJ
    clear hj
    go_enter Tryd.func27, Tryd.ntmps27
    go_wp2_with fail
    refine HJ.out.mono ?_
    rintro e w1 ⟨rfl, hg⟩
    have HG := Lib.hid hg
    clear hg
    go_wp2
    go_ret
    exact ⟨ret_i64 HR.out.symm, HG.out⟩
  · cases h1 : inL L i
    · have HR : Hid (eaten L i k = 0) := eaten_no (by rw [hj, h1]; rfl)
      rw [hj] at HJ
      have h1' : inb i 0 ((L.length : Int) - 1) = false := h1
      rw [h1'] at H1
      clear hj h1 h1'
      go_enter Tryd.func27, Tryd.ntmps27
      go_wp2_with fail
      refine HJ.out.mono ?_
      rintro e w1 ⟨rfl, hg⟩
      have HG := Lib.hid hg
      clear hg
      go_wp2_with fail
      refine (H1.out _).mono ?_
      rintro e w2 ⟨rfl, rfl⟩
      go_wp2
      go_ret
      exact ⟨ret_i64 HR.out.symm, HG.out⟩
    · cases h2 : inL L k
      · have HR : Hid (eaten L i k = 0) := eaten_no (by rw [hj, h1, h2]; rfl)
        rw [hj] at HJ
        have h1' : inb i 0 ((L.length : Int) - 1) = true := h1
        have h2' : inb k 0 ((L.length : Int) - 1) = false := h2
        rw [h1'] at H1
        rw [h2'] at H2
        clear hj h1 h1' h2 h2'
        go_enter Tryd.func27, Tryd.ntmps27
        go_wp2_with fail
        refine HJ.out.mono ?_
        rintro e w1 ⟨rfl, hg⟩
        have HG := Lib.hid hg
        clear hg
        go_wp2_with fail
        refine (H1.out _).mono ?_
        rintro e w2 ⟨rfl, rfl⟩
        go_wp2_with fail
        refine (H2.out _).mono ?_
        rintro e w2 ⟨rfl, rfl⟩
        go_wp2
        go_ret
        exact ⟨ret_i64 HR.out.symm, HG.out⟩
      · have hry := eaten_yes (L := L) (i := i) (k := k) (by rw [hj, h1, h2]; rfl)
        obtain ⟨p, rfl, hp⟩ := inL_out h1
        obtain ⟨q, rfl, hq⟩ := inL_out h2
        have hbp := page_bd hj hp
        have hbq := page_bd hj hq
        rw [Int.toNat_natCast, Int.toNat_natCast] at hry
        obtain ⟨b, o, rfl, _, _⟩ := HV.out.at_row hp
        have hx0 := fun w' (hg : w.grownBy w' none) => (at4_in HV.out hg hp rfl).2.2.1
        have hy0 := fun w' (hg : w.grownBy w' none) => (at4_in HV.out hg hq rfl).2.2.1
        obtain ⟨x, hx⟩ : ∃ x, x = (L.getD p zI4).x2 := ⟨_, rfl⟩
        obtain ⟨y, hy⟩ : ∃ y, y = (L.getD q zI4).x2 := ⟨_, rfl⟩
        rw [← hx] at hx0 hbp hry
        rw [← hy] at hy0 hbq hry
        have HX := Lib.hid hx0
        have HY := Lib.hid hy0
        have HR := Lib.hid hry
        have hwr : IntKind.i64.wrap (x - y) = x - y := IntWalk.i64_in _ (by omega)
        rw [hj] at HJ
        have h1' : inb (p : Int) 0 ((L.length : Int) - 1) = true := h1
        have h2' : inb (q : Int) 0 ((L.length : Int) - 1) = true := h2
        rw [h1'] at H1
        rw [h2'] at H2
        have hp0 : (0 : Int) ≤ (p : Int) := by omega
        have hp1 : (p : Int) < (L.length : Int) := by omega
        have hq0 : (0 : Int) ≤ (q : Int) := by omega
        have hq1 : (q : Int) < (L.length : Int) := by omega
        clear hj h1 h1' h2 h2' hx hy hx0 hy0 hry hbp hbq hi hk
        go_enter Tryd.func27, Tryd.ntmps27
        go_wp2_with fail
        refine HJ.out.mono ?_
        rintro e w1 ⟨rfl, hg⟩
        have HG := Lib.hid hg
        clear hg
        go_wp2_with fail
        refine (H1.out _).mono ?_
        rintro e w2 ⟨rfl, rfl⟩
        go_wp2_with fail
        refine (H2.out _).mono ?_
        rintro e w2 ⟨rfl, rfl⟩
        have d0 := HX.out _ HG.out
        have d1 := HY.out _ HG.out
        go_wp2
        go_quiet (fail)
        go_wp2
        go_ret
        exact ⟨ret_i64 HR.out.symm, grown_drewN HG.out _⟩
set_option maxRecDepth 20000 in
set_option maxHeartbeats 2000000 in
theorem sEaten_any (w : World) (v : Value) (L : List I4) (i k : Int) (hi : -9223372036854775808 ≤ i ∧ i ≤ 9223372036854775807) (hk : -9223372036854775808 ≤ k ∧ k ≤ 9223372036854775807) (hv : SeesG enc4 w v L) :
    Calls Tryd.prog 26 #[v, .int .i64 i, .int .i64 k] w fun e w' => e = .returned (.int .i64 (eaten L i k)) ∧ w.grownBy w' none := by
  have HJ := Lib.hid (sIsJ_any _ v L hv)
  have HV := Lib.hid hv
  have hl := hv.len
  have H1 := Lib.hid fun w => inS_b i 0 ((L.length : Int) - 1) w
  have H2 := Lib.hid fun w => inS_b k 0 ((L.length : Int) - 1) w
  have hlw : IntKind.i64.wrap ((L.length : Int) - 1) = (L.length : Int) - 1 := IntWalk.i64_in _ (by omega)
  obtain ⟨a, cap, rfl, _⟩ := hv
  cases h1 : inL L i
  · have HR : Hid (eaten L i k = 0) := eaten_no (by rw [h1]; simp)
    have h1' : inb i 0 ((L.length : Int) - 1) = false := h1
    rw [h1'] at H1
    clear h1 h1'
    go_enter Tryd.func26, Tryd.ntmps26
    go_wp2_with fail
    refine (H1.out _).mono ?_
    rintro e w2 ⟨rfl, rfl⟩
    go_wp2
    go_ret
    exact ⟨ret_i64 HR.out.symm, World.grownBy.refl _ _⟩
  · cases h2 : inL L k
    · have HR : Hid (eaten L i k = 0) := eaten_no (by rw [h2]; simp)
      have h1' : inb i 0 ((L.length : Int) - 1) = true := h1
      have h2' : inb k 0 ((L.length : Int) - 1) = false := h2
      rw [h1'] at H1
      rw [h2'] at H2
      clear h1 h1' h2 h2'
      go_enter Tryd.func26, Tryd.ntmps26
      go_wp2_with fail
      refine (H1.out _).mono ?_
      rintro e w2 ⟨rfl, rfl⟩
      go_wp2_with fail
      refine (H2.out _).mono ?_
      rintro e w2 ⟨rfl, rfl⟩
      go_wp2
      go_ret
      exact ⟨ret_i64 HR.out.symm, World.grownBy.refl _ _⟩
    · cases hj : isJ L
      · have HR : Hid (eaten L i k = 0) := eaten_no (by rw [hj]; rfl)
        rw [hj] at HJ
        have h1' : inb i 0 ((L.length : Int) - 1) = true := h1
        have h2' : inb k 0 ((L.length : Int) - 1) = true := h2
        rw [h1'] at H1
        rw [h2'] at H2
        clear hj h1 h1' h2 h2'
        go_enter Tryd.func26, Tryd.ntmps26
        go_wp2_with fail
        refine (H1.out _).mono ?_
        rintro e w2 ⟨rfl, rfl⟩
        go_wp2_with fail
        refine (H2.out _).mono ?_
        rintro e w2 ⟨rfl, rfl⟩
        go_wp2_with fail
        refine HJ.out.mono ?_
        rintro e w1 ⟨rfl, hg⟩
        have HG := Lib.hid hg
        clear hg
        go_wp2
        go_ret
        exact ⟨ret_i64 HR.out.symm, HG.out⟩
      · have hry := eaten_yes (L := L) (i := i) (k := k) (by rw [hj, h1, h2]; rfl)
        obtain ⟨p, rfl, hp⟩ := inL_out h1
        obtain ⟨q, rfl, hq⟩ := inL_out h2
        have hbp := page_bd hj hp
        have hbq := page_bd hj hq
        rw [Int.toNat_natCast, Int.toNat_natCast] at hry
        obtain ⟨b, o, rfl, _, _⟩ := HV.out.at_row hp
        have hx0 := fun w' (hg : w.grownBy w' none) => (at4_in HV.out hg hp rfl).2.2.1
        have hy0 := fun w' (hg : w.grownBy w' none) => (at4_in HV.out hg hq rfl).2.2.1
        obtain ⟨x, hx⟩ : ∃ x, x = (L.getD p zI4).x2 := ⟨_, rfl⟩
        obtain ⟨y, hy⟩ : ∃ y, y = (L.getD q zI4).x2 := ⟨_, rfl⟩
        rw [← hx] at hx0 hbp hry
        rw [← hy] at hy0 hbq hry
        have HX := Lib.hid hx0
        have HY := Lib.hid hy0
        have HR := Lib.hid hry
        have hwr : IntKind.i64.wrap (x - y) = x - y := IntWalk.i64_in _ (by omega)
        rw [hj] at HJ
        have h1' : inb (p : Int) 0 ((L.length : Int) - 1) = true := h1
        have h2' : inb (q : Int) 0 ((L.length : Int) - 1) = true := h2
        rw [h1'] at H1
        rw [h2'] at H2
        have hp0 : (0 : Int) ≤ (p : Int) := by omega
        have hp1 : (p : Int) < (L.length : Int) := by omega
        have hq0 : (0 : Int) ≤ (q : Int) := by omega
        have hq1 : (q : Int) < (L.length : Int) := by omega
        clear hj h1 h1' h2 h2' hx hy hx0 hy0 hry hbp hbq hi hk
        go_enter Tryd.func26, Tryd.ntmps26
        go_wp2_with fail
        refine (H1.out _).mono ?_
        rintro e w2 ⟨rfl, rfl⟩
        go_wp2_with fail
        refine (H2.out _).mono ?_
        rintro e w2 ⟨rfl, rfl⟩
        go_wp2_with fail
        refine HJ.out.mono ?_
        rintro e w1 ⟨rfl, hg⟩
        have HG := Lib.hid hg
        clear hg
        have d0 := HX.out _ HG.out
        have d1 := HY.out _ HG.out
        go_wp2
        go_quiet (fail)
        go_wp2
        go_ret
        exact ⟨ret_i64 HR.out.symm, grown_drewN HG.out _⟩



/-! the lowest food -/
def lowTo (L : List I4) : Nat → Int
  | 0 => (L.getD 0 zI4).x2
  | j + 1 => Mn.least (lowTo L j) (L.getD j zI4).x2
theorem lowTo_next (L : List I4) (j : Nat) : lowTo L (j + 1) = Mn.least (lowTo L j) (L.getD j zI4).x2 := rfl
theorem lowTo_one (L : List I4) : lowTo L 1 = (L.getD 0 zI4).x2 := by
  show Mn.least (L.getD 0 zI4).x2 (L.getD 0 zI4).x2 = _
  exact Mn.least_ge (by omega)
def lowest (L : List I4) : Int := if 0 < L.length ∧ isJ L = true then lowTo L L.length else -1
theorem lowest_none {L : List I4} (h : ¬ 0 < L.length) : lowest L = -1 := if_neg (fun e => h e.1)
theorem lowest_no {L : List I4} (h : isJ L = false) : lowest L = -1 := if_neg (fun e => by rw [h] at e; exact absurd e.2 (by decide))
theorem lowest_yes {L : List I4} (h : 0 < L.length) (hj : isJ L = true) : lowest L = lowTo L L.length := if_pos ⟨h, hj⟩

set_option maxRecDepth 20000 in
set_option maxHeartbeats 1000000 in
theorem sLowest_any (w : World) (v : Value) (L : List I4) (hv : SeesG enc4 w v L) :
    Calls Tryd.prog 28 #[v] w fun e w' => e = .returned (.int .i64 (lowest L)) ∧ w.grownBy w' none := by
  have HJ := Lib.hid (sIsJ_any w v L hv)
  have HV := Lib.hid hv
  have hl := hv.len
  obtain ⟨a, cap, rfl, _⟩ := hv
  by_cases h0 : 0 < L.length
  rotate_left
  · have HR : Hid (lowest L = -1) := lowest_none h0
    have hz : L.length = 0 := by omega
    go_enter Tryd.func28, Tryd.ntmps28
    go_wp2
    go_ret
    exact ⟨ret_i64 HR.out.symm, World.grownBy.refl _ _⟩
  · have hnz : ¬ L.length = 0 := by omega
    have hnI : ¬ (L.length : Int) = 0 := by omega
    have hnb : ((L.length : Int) == 0) = false := by simpa using hnz
    cases hj : isJ L
    · have HR : Hid (lowest L = -1) := lowest_no hj
      rw [hj] at HJ
      clear hj
      go_enter Tryd.func28, Tryd.ntmps28
      go_wp2_with fail
      refine HJ.out.mono ?_
      rintro e w1 ⟨rfl, hg⟩
      have HG := Lib.hid hg
      clear hg
      go_wp2
      go_ret
      exact ⟨ret_i64 HR.out.symm, HG.out⟩
    · have HR := Lib.hid (lowest_yes h0 hj)
      rw [hj] at HJ
      clear hj
      obtain ⟨b, o, rfl, _, _⟩ := HV.out.at_row h0
      have hlI : (0 : Int) < (L.length : Int) := by omega
      go_enter Tryd.func28, Tryd.ntmps28
      go_wp2_with fail
      refine HJ.out.mono ?_
      rintro e w1 ⟨rfl, hg⟩
      have HG := Lib.hid hg
      obtain ⟨e0, e1, e2, e3⟩ := at4_in HV.out hg h0 rfl
      rw [Nat.zero_mul] at e0 e1 e2 e3
      rw [← lowTo_one L] at e2
      clear hg
      go_wp2
      go_loopw [3, 4] (fun s i wr => ∃ j : Nat, 1 ≤ j ∧ j ≤ L.length ∧ i = .int .i64 j ∧ s = .int .i64 (lowTo L j) ∧ Hid (w.grownBy wr none)) (fun _ i _ => L.length - (intOf i).toNat)
      case atStart => exact ⟨1, Nat.le_refl _, by omega, rfl, rfl, HG.out⟩
      case round =>
        rename_i _ _ wr
        obtain ⟨j, hj1, hj, rfl, rfl, HGW⟩ := hrel
        by_cases hlt : j < L.length
        · obtain ⟨x, hx⟩ : ∃ x, L.getD j zI4 = x := ⟨_, rfl⟩
          obtain ⟨d0, d1, d2, d3⟩ := at4_in HV.out HGW.out hlt hx
          have HN := Lib.hid (lowTo_next L j)
          rw [hx] at HN
          obtain ⟨s, hs⟩ : ∃ s, s = lowTo L j := ⟨_, rfl⟩
          rw [← hs] at HN ⊢
          obtain ⟨x0, x1, x2, x3⟩ := x
          dsimp only at HN d0 d1 d2 d3
          have hjI : (0 : Int) ≤ (j : Int) := by omega
          have hjl : (j : Int) < (L.length : Int) := by omega
          clear hs hx e0 e1 e2 e3
          go_wp2_with fail
          refine (sMin_any s x2 wr).mono ?_
          rintro e w3 ⟨rfl, hg⟩
          have HG3 := Lib.hid (grownN_trans HGW.out hg)
          clear hg
          go_wp2
          go_roundw
          case rel => exact ⟨j + 1, by omega, by omega, by go_num, by rw [HN.out], HG3⟩
          case measure => simp [intOf]; omega
        · have hjl : j = L.length := by omega
          have hnl : ¬ ((j : Int) < (L.length : Int)) := by omega
          go_wp2
          go_ret
          exact ⟨ret_i64 (by rw [HR.out]), HGW.out⟩

set_option maxRecDepth 20000 in
set_option maxHeartbeats 1000000 in
theorem low1_any (w : World) (s x0 x1 x2 x3 : Int) :
    Calls Tryd.prog 66 #[.int .i64 s, .agg #[.int .i64 x0, .int .i64 x1, .int .i64 x2, .int .i64 x3]] w fun e w' => e = .returned (.int .i64 (Mn.least s x2)) ∧ w.grownBy w' none := by
  have HG := Lib.hid (World.grownBy_alloc w (.cells #[.int .i64 x0, .int .i64 x1, .int .i64 x2, .int .i64 x3] 64 (0, 0)) none)
  obtain ⟨c0, c1, c2, c3⟩ := four (box_new w #[.int .i64 x0, .int .i64 x1, .int .i64 x2, .int .i64 x3] 64)
  go_enter Tryd.func66, Tryd.ntmps66
  go_wp2_with fail
  refine (Mn.min_any s x2 _).mono ?_
  rintro e w3 ⟨rfl, hg⟩
  have HG3 := Lib.hid (grownN_trans HG.out hg)
  clear hg
  go_wp2
  go_ret
  exact ⟨rfl, HG3.out⟩

set_option maxRecDepth 20000 in
set_option maxHeartbeats 1000000 in
theorem foldLow_any (w : World) (v : Value) (L : List I4) (hv : SeesG enc4 w v L) :
    Calls Tryd.prog 65 #[v, .int .i64 (lowTo L 0), .func (.func 66) #[] #[]] w fun e w' => e = .returned (.int .i64 (lowTo L L.length)) ∧ w.grownBy w' none := by
  have hl := hv.len
  have HV := Lib.hid hv
  obtain ⟨a, cap, rfl, _⟩ := hv
  go_enter Tryd.func65, Tryd.ntmps65
  go_wp2
  go_loopw [1, 11] (fun s i wr => ∃ j : Nat, j ≤ L.length ∧ i = .int .i64 j ∧ s = .int .i64 (lowTo L j) ∧ Hid (w.grownBy wr none)) (fun _ i _ => L.length - (intOf i).toNat)
  case atStart => exact ⟨0, Nat.zero_le _, rfl, rfl, World.grownBy.refl _ _⟩
  case round =>
    rename_i _ _ wr
    obtain ⟨j, hj, rfl, rfl, HG⟩ := hrel
    by_cases hlt : j < L.length
    · obtain ⟨b, o, rfl, _, _⟩ := HV.out.at_row hlt
      obtain ⟨x, hx⟩ : ∃ x, L.getD j zI4 = x := ⟨_, rfl⟩
      obtain ⟨d0, d1, d2, d3⟩ := at4_in HV.out HG.out hlt hx
      have HN := Lib.hid (lowTo_next L j)
      rw [hx] at HN
      obtain ⟨s, hs⟩ : ∃ s, s = lowTo L j := ⟨_, rfl⟩
      rw [← hs] at HN ⊢
      clear hs hx
      obtain ⟨x0, x1, x2, x3⟩ := x
      dsimp only at HN d0 d1 d2 d3
      have HG2 := Lib.hid (World.grownBy_alloc wr (.cells #[.int .i64 x0, .int .i64 x1, .int .i64 x2, .int .i64 x3] 64 (0, 0)) none)
      go_wp2_with fail
      refine (low1_any _ s x0 x1 x2 x3).mono ?_
      rintro e w5 ⟨rfl, hg⟩
      have HG5 := Lib.hid (grownN_trans (grownN_trans HG.out HG2.out) hg)
      clear hg
      go_wp2
      go_roundw
      case rel => exact ⟨j + 1, by omega, by go_num, by rw [HN.out], HG5⟩
      case measure => simp [intOf]; omega
    · have : j = L.length := by omega
      subst this
      go_wp2
      go_ret
      exact ⟨rfl, HG.out⟩

set_option maxRecDepth 20000 in
set_option maxHeartbeats 1000000 in
theorem iLowest_any (w : World) (v : Value) (L : List I4) (hv : SeesG enc4 w v L) (hc : VC w) :
    Calls Tryd.prog 29 #[v] w fun e w' => e = .returned (.int .i64 (lowest L)) ∧ w.grownBy w' none := by
  have HJ := Lib.hid (iIsJ_any w v L hv hc)
  have HV := Lib.hid hv
  have hl := hv.len
  have HFO := Lib.hid fun w' (hg : w.grownBy w' none) => foldLow_any w' v L (hv.grown hg)
  obtain ⟨a, cap, rfl, _⟩ := hv
  clear hc
  by_cases h0 : 0 < L.length
  rotate_left
  · have HR : Hid (lowest L = -1) := lowest_none h0
    have hz : L.length = 0 := by omega
    go_enter Tryd.func29, Tryd.ntmps29
    go_wp2
    go_ret
    exact ⟨ret_i64 HR.out.symm, World.grownBy.refl _ _⟩
  · have hnz : ¬ L.length = 0 := by omega
    have hnI : ¬ (L.length : Int) = 0 := by omega
    have hnb : ((L.length : Int) == 0) = false := by simpa using hnz
    cases hj : isJ L
    · have HR : Hid (lowest L = -1) := lowest_no hj
      rw [hj] at HJ
      clear hj
      go_enter Tryd.func29, Tryd.ntmps29
      go_wp2_with fail
      refine HJ.out.mono ?_
      rintro e w1 ⟨rfl, hg⟩
      have HG := Lib.hid hg
      clear hg
      go_wp2
      go_ret
      exact ⟨ret_i64 HR.out.symm, HG.out⟩
    · have HR := Lib.hid (lowest_yes h0 hj)
      rw [hj] at HJ
      clear hj
      obtain ⟨b, o, rfl, _, _⟩ := HV.out.at_row h0
      have hlI : (0 : Int) < (L.length : Int) := by omega
      go_enter Tryd.func29, Tryd.ntmps29
      go_wp2_with fail
      refine HJ.out.mono ?_
      rintro e w1 ⟨rfl, hg⟩
      have HG := Lib.hid hg
      have HFO2 := Lib.hid (HFO.out _ hg)
      obtain ⟨e0, e1, e2, e3⟩ := at4_in HV.out hg h0 rfl
      rw [Nat.zero_mul] at e0 e1 e2 e3
      have e2' : w1.cell? ⟨b, o + 0 + 2, none⟩ = some (.int .i64 (lowTo L 0)) := e2
      obtain ⟨s, hs⟩ : ∃ s, s = lowTo L 0 := ⟨_, rfl⟩
      rw [← hs] at HFO2 e2'
      clear hg e2 hs
      go_wp2_with fail
      refine HFO2.out.mono ?_
      rintro e w3 ⟨rfl, hg⟩
      have HG3 := Lib.hid (grownN_trans HG.out hg)
      clear hg
      go_wp2
      go_ret
      exact ⟨ret_i64 HR.out.symm, HG3.out⟩

/-! the first day at a cell -/
def firstTo (L : List I4) (c : Int) : Nat → Int
  | 0 => -1
  | j + 1 => if firstTo L c j < 0 ∧ (L.getD j zI4).x1 = c then (L.getD j zI4).x0 else firstTo L c j
theorem first_yes {L : List I4} {c : Int} {j : Nat} (h : firstTo L c j < 0) (k : (L.getD j zI4).x1 = c) : firstTo L c (j + 1) = (L.getD j zI4).x0 := if_pos ⟨h, k⟩
theorem first_no {L : List I4} {c : Int} {j : Nat} (h : ¬ (firstTo L c j < 0 ∧ (L.getD j zI4).x1 = c)) : firstTo L c (j + 1) = firstTo L c j := if_neg h
theorem first_stay {L : List I4} {c : Int} {j : Nat} (h : 0 ≤ firstTo L c j) : ∀ d, firstTo L c (j + d) = firstTo L c j
  | 0 => rfl
  | d + 1 => by
    have := first_stay h d
    rw [← Nat.add_assoc, first_no (by rw [this]; omega), this]
def firstAt (L : List I4) (c : Int) : Int := if isJ L = true then firstTo L c L.length else -1
theorem firstAt_no {L : List I4} {c : Int} (h : isJ L = false) : firstAt L c = -1 := if_neg (by rw [h]; decide)
theorem firstAt_yes {L : List I4} {c : Int} (h : isJ L = true) : firstAt L c = firstTo L c L.length := if_pos h

set_option maxRecDepth 20000 in
set_option maxHeartbeats 1000000 in
theorem sFirst_any (w : World) (v : Value) (L : List I4) (c : Int) (hv : SeesG enc4 w v L) :
    Calls Tryd.prog 30 #[v, .int .i64 c] w fun e w' => e = .returned (.int .i64 (firstAt L c)) ∧ w.grownBy w' none := by
  have HJ := Lib.hid fun w' hv => sIsJ_any w' v L hv
  have HV := Lib.hid hv
  have hl := hv.len
  obtain ⟨a, cap, rfl, _⟩ := hv
  cases hj : isJ L
  · have HR : Hid (firstAt L c = -1) := firstAt_no hj
    rw [hj] at HJ
    clear hj
    go_enter Tryd.func30, Tryd.ntmps30
    go_wp2
    go_loopw [5] (fun i wr => i = .int .i64 0 ∧ wr = w) (fun _ _ => 0)
    case atStart => exact ⟨rfl, rfl⟩
    case round =>
      obtain ⟨rfl, rfl⟩ := hrel
      by_cases h0 : 0 < L.length
      · have hlI : (0 : Int) < (L.length : Int) := by omega
        go_wp2_with fail
        refine (HJ.out _ HV.out).mono ?_
        rintro e w1 ⟨rfl, hg⟩
        have HG := Lib.hid hg
        clear hg
        go_wp2
        go_ret
        exact ⟨ret_i64 HR.out.symm, HG.out⟩
      · have hlI : ¬ ((0 : Int) < (L.length : Int)) := by omega
        go_wp2
        go_ret
        exact ⟨ret_i64 HR.out.symm, World.grownBy.refl _ _⟩
  · have HR := Lib.hid (firstAt_yes (c := c) hj)
    have HPG := Lib.hid fun j (h : j < L.length) => page_bd hj h
    rw [hj] at HJ
    clear hj
    go_enter Tryd.func30, Tryd.ntmps30
    go_wp2
    go_loopw [5] (fun i wr => ∃ j : Nat, j ≤ L.length ∧ i = .int .i64 j ∧ Hid (firstTo L c j = -1) ∧ Hid (w.grownBy wr none)) (fun i _ => L.length - (intOf i).toNat)
    case atStart => exact ⟨0, Nat.zero_le _, rfl, rfl, World.grownBy.refl _ _⟩
    case round =>
      rename_i wr
      obtain ⟨j, hj, rfl, HF, HGW⟩ := hrel
      by_cases hlt : j < L.length
      · obtain ⟨b, o, rfl, _, _⟩ := HV.out.at_row hlt
        have hjI : (0 : Int) ≤ (j : Int) := by omega
        have hjl : (j : Int) < (L.length : Int) := by omega
        by_cases he : (L.getD j zI4).x1 = c
        · have HE : Hid (firstAt L c = (L.getD j zI4).x0) := by
            show _ = _
            have h1 := first_yes (L := L) (c := c) (j := j) (by rw [HF.out]; decide) he
            have h2 := (HPG.out j hlt).1
            have h3 := first_stay (L := L) (c := c) (j := j + 1) (by rw [h1]; exact h2) (L.length - (j + 1))
            rw [HR.out, ← h1, ← h3]
            congr 1
            omega
          obtain ⟨x, hx⟩ : ∃ x, L.getD j zI4 = x := ⟨_, rfl⟩
          have hat := fun w' (hg : w.grownBy w' none) => at4_in HV.out hg hlt hx
          rw [hx] at HE he
          have HAT := Lib.hid hat
          obtain ⟨x0, x1, x2, x3⟩ := x
          dsimp only at HE he HAT
          subst he
          clear hx hat
          go_wp2_with fail
          refine (HJ.out _ (HV.out.grown HGW.out)).mono ?_
          rintro e w1 ⟨rfl, hg⟩
          have HG := Lib.hid (grownN_trans HGW.out hg)
          clear hg
          obtain ⟨d0, d1, d2, d3⟩ := HAT.out _ HG.out
          go_wp2
          go_ret
          exact ⟨ret_i64 HE.out.symm, HG.out⟩
        · have HN : Hid (firstTo L c (j + 1) = -1) := by show _ = _; rw [first_no (fun h => he h.2), HF.out]
          obtain ⟨x, hx⟩ : ∃ x, L.getD j zI4 = x := ⟨_, rfl⟩
          have hat := fun w' (hg : w.grownBy w' none) => at4_in HV.out hg hlt hx
          rw [hx] at he
          have HAT := Lib.hid hat
          obtain ⟨x0, x1, x2, x3⟩ := x
          dsimp only at he HAT
          have heb : (x1 == c) = false := by simpa using he
          clear hx hat
          go_wp2_with fail
          refine (HJ.out _ (HV.out.grown HGW.out)).mono ?_
          rintro e w1 ⟨rfl, hg⟩
          have HG := Lib.hid (grownN_trans HGW.out hg)
          clear hg
          obtain ⟨d0, d1, d2, d3⟩ := HAT.out _ HG.out
          go_wp2
          go_roundw
          case rel => exact ⟨j + 1, by omega, by go_num, HN, HG⟩
          case measure => simp [intOf]; omega
      · have hjl : j = L.length := by omega
        have HE : Hid (firstAt L c = -1) := by show _ = _; rw [HR.out, ← hjl]; exact HF.out
        have hnl : ¬ ((j : Int) < (L.length : Int)) := by omega
        go_wp2
        go_ret
        exact ⟨ret_i64 HE.out.symm, HGW.out⟩

set_option maxRecDepth 20000 in
set_option maxHeartbeats 1000000 in
theorem first1_any (w : World) (C : Nat) (c s x0 x1 x2 x3 : Int) (hc : w.cell? ⟨C, 0, none⟩ = some (.int .i64 c)) (hC : C < w.heap.size) :
    Calls Tryd.prog 68 #[.int .i64 s, .agg #[.int .i64 x0, .int .i64 x1, .int .i64 x2, .int .i64 x3], .pointer (some ⟨C, 0, none⟩)] w fun e w' => e = .returned (.int .i64 (if s < 0 ∧ x1 = c then x0 else s)) ∧ w.grownBy w' none := by
  have HG := Lib.hid (World.grownBy_alloc w (.cells #[.int .i64 x0, .int .i64 x1, .int .i64 x2, .int .i64 x3] 64 (0, 0)) none)
  obtain ⟨c0, c1, c2, c3⟩ := four (box_new w #[.int .i64 x0, .int .i64 x1, .int .i64 x2, .int .i64 x3] 64)
  have hcc : (w.alloc (.cells #[.int .i64 x0, .int .i64 x1, .int .i64 x2, .int .i64 x3] 64 (0, 0))).cell? ⟨C, 0, none⟩ = some (.int .i64 c) := by
    rw [← hc]
    simp only [World.cell?, HG.out.block _ hC (fun e => by cases e)]
  clear hc hC
  by_cases hs : s < 0
  · by_cases hx : x1 = c
    · have HR : Hid ((if s < 0 ∧ x1 = c then x0 else s) = x0) := if_pos ⟨hs, hx⟩
      obtain rfl : c = x1 := hx.symm
      go_enter Tryd.func68, Tryd.ntmps68
      go_wp2
      go_ret
      first | exact ⟨ret_i64 HR.out.symm, HG.out⟩ | exact ⟨rfl, HG.out⟩
    · have HR : Hid ((if s < 0 ∧ x1 = c then x0 else s) = s) := if_neg (fun h => hx h.2)
      have hxb : (x1 == c) = false := by simpa using hx
      go_enter Tryd.func68, Tryd.ntmps68
      go_wp2
      go_ret
      first | exact ⟨ret_i64 HR.out.symm, HG.out⟩ | exact ⟨rfl, HG.out⟩
  · have HR : Hid ((if s < 0 ∧ x1 = c then x0 else s) = s) := if_neg (fun h => hs h.1)
    go_enter Tryd.func68, Tryd.ntmps68
    go_wp2
    go_ret
    first | exact ⟨ret_i64 HR.out.symm, HG.out⟩ | exact ⟨rfl, HG.out⟩

set_option maxRecDepth 20000 in
set_option maxHeartbeats 1000000 in
theorem foldFirst_any (w : World) (C : Nat) (c : Int) (v : Value) (L : List I4) (hv : SeesG enc4 w v L) (hb : Box w C #[.int .i64 c] 3) :
    Calls Tryd.prog 65 #[v, .int .i64 (-1), .func (.func 68) #[] #[.pointer (some ⟨C, 0, none⟩)]] w fun e w' => e = .returned (.int .i64 (firstTo L c L.length)) ∧ w.grownBy w' none := by
  have hl := hv.len
  have HV := Lib.hid hv
  have HB := Lib.hid hb
  obtain ⟨a, cap, rfl, _⟩ := hv
  clear hb
  go_enter Tryd.func65, Tryd.ntmps65
  go_wp2
  go_loopw [1, 11] (fun s i wr => ∃ j : Nat, j ≤ L.length ∧ i = .int .i64 j ∧ s = .int .i64 (firstTo L c j) ∧ Hid (w.grownBy wr none)) (fun _ i _ => L.length - (intOf i).toNat)
  case atStart => exact ⟨0, Nat.zero_le _, rfl, rfl, World.grownBy.refl _ _⟩
  case round =>
    rename_i _ _ wr
    obtain ⟨j, hj, rfl, rfl, HG⟩ := hrel
    by_cases hlt : j < L.length
    · obtain ⟨b, o, rfl, _, _⟩ := HV.out.at_row hlt
      obtain ⟨x, hx⟩ : ∃ x, L.getD j zI4 = x := ⟨_, rfl⟩
      obtain ⟨d0, d1, d2, d3⟩ := at4_in HV.out HG.out hlt hx
      have HN : Hid (firstTo L c (j + 1) = if firstTo L c j < 0 ∧ x.x1 = c then x.x0 else firstTo L c j) := by show _ = _; rw [← hx]; rfl
      obtain ⟨s, hs⟩ : ∃ s, s = firstTo L c j := ⟨_, rfl⟩
      rw [← hs] at HN ⊢
      clear hs hx
      obtain ⟨x0, x1, x2, x3⟩ := x
      dsimp only at HN d0 d1 d2 d3
      have HG2 := Lib.hid (World.grownBy_alloc wr (.cells #[.int .i64 x0, .int .i64 x1, .int .i64 x2, .int .i64 x3] 64 (0, 0)) none)
      have HB2 := Lib.hid (HB.out.grown (grownN_trans HG.out HG2.out))
      go_wp2_with fail
      refine (first1_any _ C c s x0 x1 x2 x3 (HB2.out.cell 0) HB2.out.lt).mono ?_
      rintro e w5 ⟨rfl, hg⟩
      have HG5 := Lib.hid (grownN_trans (grownN_trans HG.out HG2.out) hg)
      clear hg
      go_wp2
      go_roundw
      case rel => exact ⟨j + 1, by omega, by go_num, by rw [HN.out], HG5⟩
      case measure => simp [intOf]; omega
    · have : j = L.length := by omega
      subst this
      go_wp2
      go_ret
      exact ⟨rfl, HG.out⟩

set_option maxRecDepth 20000 in
set_option maxHeartbeats 1000000 in
theorem iFirst_any (w : World) (v : Value) (L : List I4) (c : Int) (hv : SeesG enc4 w v L) (hc : VC w) :
    Calls Tryd.prog 31 #[v, .int .i64 c] w fun e w' => e = .returned (.int .i64 (firstAt L c)) ∧ w.grownBy w' none := by
  have hmf : ∀ (fn : Fn) (first cap : Array Value) (w : World), (Instr.makeFunc fn first cap).run Tryd.prog w = .ok (.func fn first cap) w := fun _ _ _ _ => rfl
  have hg0 := World.grownBy_alloc w (.cells #[.int .i64 c] 3 (0, 0)) (none : Option Nat)
  have HB := Lib.hid (box_new w #[.int .i64 c] 3)
  have HG0 := Lib.hid hg0
  have HJ := Lib.hid (iIsJ_any _ v L (hv.grown hg0) (hc.grown hg0))
  have HFO := Lib.hid fun w' (hg : (w.alloc (.cells #[.int .i64 c] 3 (0, 0))).grownBy w' none) => foldFirst_any w' w.heap.size c v L ((hv.grown hg0).grown hg) (HB.out.grown hg)
  obtain ⟨a, cap, rfl, _⟩ := hv
  clear hc hg0
  cases hj : isJ L
  · have HR : Hid (firstAt L c = -1) := firstAt_no hj
    rw [hj] at HJ
    clear hj
    go_enter Tryd.func31, Tryd.ntmps31
    go_wp2_with fail
    refine HJ.out.mono ?_
    rintro e w1 ⟨rfl, hg⟩
    have HG := Lib.hid (grownN_trans HG0.out hg)
    clear hg
    go_wp2
    go_ret
    exact ⟨ret_i64 HR.out.symm, HG.out⟩
  · have HR := Lib.hid (firstAt_yes (c := c) hj)
    rw [hj] at HJ
    clear hj
    go_enter Tryd.func31, Tryd.ntmps31
    go_wp2_with fail
    refine HJ.out.mono ?_
    rintro e w1 ⟨rfl, hg⟩
    have HG := Lib.hid (grownN_trans HG0.out hg)
    have HF2 := Lib.hid (HFO.out _ hg)
    clear hg
    go_wp2_with fail
    refine HF2.out.mono ?_
    rintro e w3 ⟨rfl, hg⟩
    have HG3 := Lib.hid (grownN_trans HG.out hg)
    clear hg
    go_wp2
    go_ret
    exact ⟨ret_i64 HR.out.symm, HG3.out⟩
end Go.Proofs.YtlhbnkjijggfaaaDoor.Jrn
