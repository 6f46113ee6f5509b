/- Contracts of how far one was away, of the program and of its model. -/
import Derived.Test.YtbpiojnehomljaaDoorTld
import Derived.Test.YtbpiojnehomljaaDoorWayS
import Derived.Test.YtbpiojnehomljaaDoorWayI
import Derived.Test.YtbpiojnehomljaaDoorWayX
import Derived.Test.YtbpiojnehomljaaDoorRow4
import Derived.Test.YtbpiojnehomljaaDoorMin
import Derived.Deep.RegionHeld3
namespace Go.Proofs.YtbpiojnehomljaaDoor.Far
open Go.RowKit Kit Rw Rg Ld Wf Mn Eas Tld

noncomputable def far (W H : Int) (X : List Int) (b : Int) (L : List I4) : Nat → Int
  | 0 => -1
  | j + 1 => most (far W H X b L j) (daysOf W H X b (L.getD j zI4).x1)
section
variable {W H : Int} {X : List Int} {b : Int} {L : List I4}
theorem far_next (j : Nat) : far W H X b L (j + 1) = most (far W H X b L j) (daysOf W H X b (L.getD j zI4).x1) := rfl
theorem far_one : far W H X b L 1 = daysOf W H X b (L.getD 0 zI4).x1 := by
  rw [far_next]
  show most (-1) _ = _
  have := daysOf_low W H X b (L.getD 0 zI4).x1
  unfold most; split <;> omega
end
theorem ret_i {a b : Int} (h : a = b) : Ending.returned (.int .i64 a) = .returned (.int .i64 b) := by rw [h]
theorem sMost_any (a b : Int) (w : World) :
    Calls Tryd.prog 16 #[.int .i64 a, .int .i64 b] w fun e w' => e = .returned (.int .i64 (most a b)) ∧ w = w' := by
  by_cases h : a < b
  · rw [most_gt h]
    go_enter Tryd.func16, Tryd.ntmps16
    go_wp2
    go_ret
    exact ⟨rfl, rfl⟩
  · rw [most_le (by omega)]
    go_enter Tryd.func16, Tryd.ntmps16
    go_wp2
    go_ret
    exact ⟨rfl, rfl⟩

set_option maxRecDepth 20000 in
set_option maxHeartbeats 2000000 in
theorem sFar_any (w : World) (W H b : Int) (v u : Value) (X : List Int) (L : List I4) (hv : Sees .i64 w v X) (hu : SeesG enc4 w u L) :
    Calls Tryd.prog 7 #[.agg #[.int .i64 W, .int .i64 H, v], .int .i64 b, u] w fun e w' => e = .returned (.int .i64 (far W H X b L L.length)) ∧ w.grownBy w' none := by
  have hl := hu.len
  obtain ⟨va, vn, vc, rfl, HVN⟩ := hv.shape
  have HV := Lib.hid hv
  have HU := Lib.hid hu
  have HG0 := Lib.hid (World.grownBy_alloc w (.cells #[.int .i64 W, .int .i64 H, .slice va vn vc] 29 (0, 0)) none)
  have HB0 := Lib.hid (box_new w #[.int .i64 W, .int .i64 H, .slice va vn vc] 29)
  have HDY := Lib.hid (fun w' (x : Int) hx => WayS.sDays_any w' W H b x (.slice va vn vc) X hx)
  obtain ⟨a, cap, rfl, _⟩ := hu
  clear hv
  go_enter Tryd.func7, Tryd.ntmps7
  go_wp2
  generalize w.alloc (.cells #[.int .i64 W, .int .i64 H, .slice va vn vc] 29 (0, 0)) = W1 at *
  go_loopw [7, 8] (fun s i wr => ∃ j : Nat, j ≤ L.length ∧ i = .int .i64 j ∧ s = .int .i64 (far W H X b L j) ∧ Hid (W1.grownBy wr none)) (fun _ i _ => L.length - (intOf i).toNat)
  case atStart => exact ⟨0, Nat.zero_le _, rfl, rfl, World.grownBy.refl _ _⟩
  case round =>
    rename_i _ _ wr
    obtain ⟨j, hj, rfl, rfl, HG⟩ := hrel
    obtain ⟨s, hs⟩ : ∃ s, s = far W H X b L j := ⟨_, rfl⟩
    rw [← hs]
    have HS := Lib.hid hs
    clear hs
    by_cases hlt : j < L.length
    · have hltI : (j : Int) < (L.length : Int) := by omega
      have hj0 : (0 : Int) ≤ (j : Int) := by omega
      obtain ⟨bb, o, rfl, hr⟩ := HU.out.at_row hlt
      clear hr
      obtain ⟨x, hx⟩ : ∃ x, L.getD j zI4 = x := ⟨_, rfl⟩
      have hD : ∀ w', W1.grownBy w' none → w'.cell? ⟨w.heap.size, 0, none⟩ = some (.int .i64 W) ∧ w'.cell? ⟨w.heap.size, 1, none⟩ = some (.int .i64 H) ∧ w'.cell? ⟨w.heap.size, 2, none⟩ = some (.slice va vn vc) ∧ w'.cell? ⟨bb, o + j * 4 + 1, none⟩ = some (.int .i64 x.x1) := fun w' hg => ⟨(HB0.out.grown hg).cell 0, (HB0.out.grown hg).cell 1, (HB0.out.grown hg).cell 2, (at4_in HU.out (grownN_trans HG0.out hg) hlt hx).2.1⟩
      obtain ⟨y, hy⟩ : ∃ y, y = x.x1 := ⟨_, rfl⟩
      rw [← hy] at hD
      have HD := Lib.hid hD
      obtain ⟨z, hz⟩ : ∃ z, z = daysOf W H X b y := ⟨_, rfl⟩
      have HZ := Lib.hid hz
      have HN : Hid (far W H X b L (j + 1) = most s z) := by show _ = _; rw [far_next, hx, ← hy, ← hz, HS.out]
      have HQ0 := Lib.hid (grownN_trans HG.out (grown_drew (World.grownBy.refl wr none)))
      clear hD hx hy hz
      go_wp2_with fail
      go_region_held3 (fun w' => w'.cell? ⟨w.heap.size, 0, none⟩ = some (.int .i64 W) ∧ w'.cell? ⟨w.heap.size, 1, none⟩ = some (.int .i64 H) ∧ w'.cell? ⟨w.heap.size, 2, none⟩ = some (.slice va vn vc) ∧ w'.cell? ⟨bb, o + j * 4 + 1, none⟩ = some (.int .i64 y))
        (first | exact HD.out _ HQ0.out | exact HD.out _ HQ1.out)
        (first
          | (go_at_call 17; refine (HDY.out _ y (HV.out.grown (grownN_trans HG0.out HQ0.out))).mono ?_; rintro e wA ⟨rfl, hgA⟩; rw [← HZ.out]; have HQ1 := Lib.hid (grownN_trans HQ0.out hgA); clear hgA)
          | (go_at_call 16; refine (sMost_any s z _).mono ?_; rintro e wB ⟨rfl, rfl⟩))
      go_wp2
      go_roundw
      case rel => exact ⟨j + 1, by omega, by go_num, by rw [HN.out], HQ1⟩
      case measure => simp [intOf]; omega
    · have : j = L.length := by omega
      subst this
      go_wp2
      go_ret
      exact ⟨ret_i HS.out, grownN_trans HG0.out HG.out⟩

set_option maxRecDepth 20000 in
set_option maxHeartbeats 2000000 in
theorem tell_any (w : World) (A B : Nat) (W H b p0 p1 p2 p3 : Int) (v : Value) (X : List Int) (hv : Sees .i64 w v X) (hA : Box w A #[.int .i64 W, .int .i64 H, v] 29) (hB : Box w B #[.int .i64 b] 3) :
    Calls Tryd.prog 22 #[.agg #[.int .i64 p0, .int .i64 p1, .int .i64 p2, .int .i64 p3], .pointer (some ⟨A, 0, none⟩), .pointer (some ⟨B, 0, none⟩)] w fun e w' => e = .returned (.int .i64 (daysOf W H X b p1)) ∧ w.grownBy w' none := by
  obtain ⟨va, vn, vc, rfl, HVN⟩ := hv.shape
  have hg := World.grownBy_alloc w (.cells #[.int .i64 p0, .int .i64 p1, .int .i64 p2, .int .i64 p3] 42 (0, 0)) none
  have HG := Lib.hid hg
  have HC := Lib.hid (WayI.days_any _ W H b p1 (.slice va vn vc) X (hv.grown hg))
  obtain ⟨c0, c1, c2⟩ := (hA.grown hg).three
  have d0 := (hB.grown hg).cell 0
  have q := (box_new w #[.int .i64 p0, .int .i64 p1, .int .i64 p2, .int .i64 p3] 42).cell 1
  simp only [List.getElem?_toArray, List.getElem?_cons_succ, List.getElem?_cons_zero] at q d0
  clear hg hA hB hv
  go_enter Tryd.func22, Tryd.ntmps22
  go_wp2_with fail
  refine HC.out.mono ?_
  rintro e w2 ⟨rfl, hg⟩
  have HG2 := Lib.hid (grownN_trans HG.out hg)
  clear hg
  go_wp2
  go_ret
  exact ⟨rfl, HG2.out⟩

set_option maxRecDepth 20000 in
set_option maxHeartbeats 4000000 in
theorem greatest_no (w : World) (A B : Nat) (W H b : Int) (v u : Value) (X : List Int) (L : List I4) (hv : Sees .i64 w v X) (hu : SeesG enc4 w u L) (hA : Box w A #[.int .i64 W, .int .i64 H, v] 29) (hB : Box w B #[.int .i64 b] 3) (h0 : L.length = 0) :
    Calls Tryd.prog 21 #[u, .func (.func 22) #[] #[.pointer (some ⟨A, 0, none⟩), .pointer (some ⟨B, 0, none⟩)]] w fun e w' => (∃ s, e = .returned (.tuple #[.int .i64 0, .iface 63 (.agg #[.string s, .int .i64 (-1)])])) ∧ w.grownBy w' none := by
  have hl := hu.len
  obtain ⟨ua, un, uc, rfl, HUN⟩ := hu.shape
  have hcap := hu.caps
  have hun : un ≤ 9223372036854775807 := by rw [← HUN.out]; exact hl
  have HV := Lib.hid hv
  have HU := Lib.hid hu
  have HA := Lib.hid hA
  have HB := Lib.hid hB
  have HT := Lib.hid (fun w' (p0 p1 p2 p3 : Int) (hg : w.grownBy w' none) => tell_any w' A B W H b p0 p1 p2 p3 v X (hv.grown hg) (hA.grown hg) (hB.grown hg))
  rw [HUN.out] at h0
  clear hv hu hA hB hl
  subst h0
  go_enter Tryd.func21, Tryd.ntmps21
  go_wp2
  go_ret2
  exact ⟨⟨_, rfl⟩, World.grownBy.refl _ _⟩

set_option maxRecDepth 20000 in
set_option maxHeartbeats 4000000 in
theorem greatest_yes (w : World) (A B : Nat) (W H b : Int) (v u : Value) (X : List Int) (L : List I4) (hv : Sees .i64 w v X) (hu : SeesG enc4 w u L) (hA : Box w A #[.int .i64 W, .int .i64 H, v] 29) (hB : Box w B #[.int .i64 b] 3) (h0 : L.length ≠ 0) :
    Calls Tryd.prog 21 #[u, .func (.func 22) #[] #[.pointer (some ⟨A, 0, none⟩), .pointer (some ⟨B, 0, none⟩)]] w fun e w' => e = .returned (.tuple #[.int .i64 (far W H X b L L.length), .nilIface]) ∧ w.grownBy w' none := by
  have hl := hu.len
  obtain ⟨ua, un, uc, rfl, HUN⟩ := hu.shape
  have hcap := hu.caps
  have hun : un ≤ 9223372036854775807 := by rw [← HUN.out]; exact hl
  have HV := Lib.hid hv
  have HU := Lib.hid hu
  have HA := Lib.hid hA
  have HB := Lib.hid hB
  have HT := Lib.hid (fun w' (p0 p1 p2 p3 : Int) (hg : w.grownBy w' none) => tell_any w' A B W H b p0 p1 p2 p3 v X (hv.grown hg) (hA.grown hg) (hB.grown hg))
  rw [HUN.out] at h0 ⊢
  clear hv hu hA hB hl
  have hb0 : ((un : Int) == 0) = false := by simpa using h0
  have hpos : (0 : Int) < (un : Int) := by omega
  have h0l : 0 < L.length := by rw [HUN.out]; omega
  obtain ⟨bb, o, rfl, hr⟩ := HU.out.at_row h0l
  clear hr
  obtain ⟨x, hx⟩ : ∃ x, L.getD 0 zI4 = x := ⟨_, rfl⟩
  obtain ⟨d0, d1, d2, d3⟩ := at4_in HU.out (World.grownBy.refl w none) h0l hx
  simp only [Nat.zero_mul, Nat.add_zero] at d0 d1 d2 d3
  have HX1 : Hid (far W H X b L 1 = daysOf W H X b x.x1) := by show _ = _; rw [far_one, hx]
  obtain ⟨x0, x1, x2, x3⟩ := x
  dsimp only at d0 d1 d2 d3 HX1
  have h1n : (1 : Int) ≤ (un : Int) := by omega
  have h1c : un ≤ uc := hcap.1
  clear hx h0l h0
  go_enter Tryd.func21, Tryd.ntmps21
  go_wp2_with fail
  refine (HT.out w x0 x1 x2 x3 (World.grownBy.refl _ _)).mono ?_
  rintro e w2 ⟨rfl, hg⟩
  rw [← HX1.out]
  have HG2 := Lib.hid hg
  clear hg d0 d1 d2 d3
  by_cases hcc : uc = 1
  · have hu1 : un = 1 := by omega
    subst hu1
    subst hcc
    go_wp2
    refine wp_loop_rounds 1 ?_
    rw [rounds_succ]
    go_wp2
    go_ret2
    exact ⟨rfl, HG2.out⟩
  · go_wp2
    go_loopw [6, 22] (fun s i wr => ∃ j : Nat, j + 1 ≤ un ∧ i = .int .i64 j ∧ s = .int .i64 (far W H X b L (j + 1)) ∧ Hid (w.grownBy wr none)) (fun _ i _ => un - (intOf i).toNat)
    case atStart => exact ⟨0, by omega, rfl, rfl, HG2⟩
    case round =>
      rename_i _ _ wr
      obtain ⟨j, hj, rfl, rfl, HG⟩ := hrel
      obtain ⟨s, hs⟩ : ∃ s, s = far W H X b L (j + 1) := ⟨_, rfl⟩
      rw [← hs]
      have HS := Lib.hid hs
      clear hs
      by_cases hlt : j + 1 < un
      · have hlt1 : j < un - 1 := by omega
        have hc1 : ¬ uc = 1 := by omega
        have hjl : j + 1 < L.length := by rw [HUN.out]; exact hlt
        obtain ⟨x, hx⟩ : ∃ x, L.getD (j + 1) zI4 = x := ⟨_, rfl⟩
        obtain ⟨d0, d1, d2, d3⟩ := at4_in HU.out HG.out hjl hx
        have ho : o + (j + 1) * 4 = o + 4 + j * 4 := by omega
        rw [ho] at d0 d1 d2 d3
        have HNX : Hid (far W H X b L (j + 1 + 1) = most s (daysOf W H X b x.x1)) := by show _ = _; rw [far_next, hx, HS.out]
        obtain ⟨y0, y1, y2, y3⟩ := x
        dsimp only at d0 d1 d2 d3 HNX
        obtain ⟨z, hz⟩ : ∃ z, z = daysOf W H X b y1 := ⟨_, rfl⟩
        have HZ := Lib.hid hz
        rw [← hz] at HNX
        have hgA := World.grownBy_alloc wr (.cells #[.int .i64 y0, .int .i64 y1, .int .i64 y2, .int .i64 y3] 42 (0, 0)) none
        have HGA := Lib.hid (grownN_trans HG.out hgA)
        clear hx hz hjl ho hgA
        go_wp2_with fail
        refine (HT.out _ y0 y1 y2 y3 HGA.out).mono ?_
        rintro e w5 ⟨rfl, hg⟩
        rw [← HZ.out]
        have HG5 := Lib.hid (grownN_trans HGA.out hg)
        clear hg
        go_wp2_with fail
        refine (max_any s z _).mono ?_
        rintro e w6 ⟨rfl, hg⟩
        have HG6 := Lib.hid (grownN_trans HG5.out hg)
        clear hg
        go_wp2
        go_roundw
        case rel => exact ⟨j + 1, by omega, by go_num, by rw [HNX.out], HG6⟩
        case measure => simp [intOf]; omega
      · have hju : un = j + 1 := by omega
        subst hju
        have hlt1 : ¬ j < j + 1 - 1 := by omega
        go_wp2
        go_ret2
        exact ⟨by rw [HS.out]; rfl, HG.out⟩

set_option maxRecDepth 20000 in
set_option maxHeartbeats 2000000 in
theorem iFar_any (w : World) (W H b : Int) (v u : Value) (X : List Int) (L : List I4) (hv : Sees .i64 w v X) (hu : SeesG enc4 w u L) (hE : ErrT w) :
    Calls Tryd.prog 10 #[.agg #[.int .i64 W, .int .i64 H, v], .int .i64 b, u] w fun e w' => e = .returned (.int .i64 (far W H X b L L.length)) ∧ w.grownBy w' none := by
  have hg1 := World.grownBy_alloc w (.cells #[.int .i64 W, .int .i64 H, v] 29 (0, 0)) none
  have hg2 := World.grownBy_alloc (w.alloc (.cells #[.int .i64 W, .int .i64 H, v] 29 (0, 0))) (.cells #[.int .i64 b] 3 (0, 0)) none
  have bA := (box_new w #[.int .i64 W, .int .i64 H, v] 29).grown hg2
  have bB := box_new (w.alloc (.cells #[.int .i64 W, .int .i64 H, v] 29 (0, 0))) #[.int .i64 b] 3
  rw [World.size_alloc] at bB
  have hgg := grownN_trans hg1 hg2
  have HG := Lib.hid hgg
  have HE := Lib.hid (errT_grown hE hgg)
  have hno := greatest_no _ w.heap.size (w.heap.size + 1) W H b v u X L (hv.grown hgg) (hu.grown hgg) bA bB
  have hys := greatest_yes _ w.heap.size (w.heap.size + 1) W H b v u X L (hv.grown hgg) (hu.grown hgg) bA bB
  obtain ⟨va, vn, vc, rfl, _⟩ := hv.shape
  obtain ⟨ua, un, uc, rfl, HUN⟩ := hu.shape
  have HF0 : Hid (L.length = 0 → far W H X b L L.length = -1) := fun h => by rw [h]; rfl
  by_cases h0 : L.length = 0
  · have HC := Lib.hid (hno h0)
    have HR : Hid (far W H X b L L.length = -1) := HF0.out h0
    clear hg1 hg2 bA bB hgg hno hys hv hu hE h0
    go_enter Tryd.func10, Tryd.ntmps10
    go_wp2_with fail
    refine HC.out.mono ?_
    rintro e w2 ⟨⟨s, rfl⟩, hg⟩
    have HG2 := Lib.hid (grownN_trans HG.out hg)
    have HE2 := Lib.hid (errT_grown HE.out hg)
    clear hg
    go_wp2_with fail
    refine (told_hit w2 0 (-1) s HE2.out).mono ?_
    rintro e w3 ⟨rfl, hg⟩
    have HG3 := Lib.hid (grownN_trans HG2.out hg)
    clear hg
    go_wp2
    go_ret
    exact ⟨ret_i HR.out.symm, HG3.out⟩
  · have HC := Lib.hid (hys h0)
    clear hg1 hg2 bA bB hgg hno hys hv hu hE h0
    go_enter Tryd.func10, Tryd.ntmps10
    go_wp2_with fail
    refine HC.out.mono ?_
    rintro e w2 ⟨rfl, hg⟩
    have HG2 := Lib.hid (grownN_trans HG.out hg)
    clear hg
    go_wp2_with fail
    refine (told_nil w2 _).mono ?_
    rintro e w3 ⟨rfl, hg⟩
    have HG3 := Lib.hid (grownN_trans HG2.out hg)
    clear hg
    go_wp2
    go_ret
    exact ⟨rfl, HG3.out⟩
end Go.Proofs.YtbpiojnehomljaaDoor.Far
