/- Contracts of shares of storms and of open cells, of the program and of its model. -/
import Derived.Test.YtoanhnklemlfmaaDoorEas
import Derived.Test.YtoanhnklemlfmaaDoorStI
import Derived.Test.YtoanhnklemlfmaaDoorStormS
import Derived.Test.YtoanhnklemlfmaaDoorLandI
import Derived.Test.YtoanhnklemlfmaaDoorLandS
import Derived.Test.YtoanhnklemlfmaaDoorCountS
import Derived.Deep.RegionHeld3
namespace Go.Proofs.YtoanhnklemlfmaaDoor.Mea
open Go.RowKit Kit Rw Rg Ld Stm StormS StI Eas

theorem ret_i {a b : Int} (h : a = b) : Ending.returned (.int .i64 a) = .returned (.int .i64 b) := by rw [h]
set_option maxRecDepth 20000 in
theorem told_nil (w : World) (m : Int) :
    Calls Tryd.prog 98 #[.int .i64 m, .nilIface] w fun e w' => e = .returned (.int .i64 m) ∧ w.grownBy w' none := by
  have HG := Lib.hid (World.grownBy_alloc w (.cells #[.string ⟨#[]⟩, .int .i64 0] 158 (0, 0)) none)
  go_enter Tryd.func98, Tryd.ntmps98
  go_wp2_with fail
  refine (as_nil _ _).mono ?_
  rintro e w2 ⟨rfl, rfl⟩
  go_wp2
  go_ret
  exact ⟨rfl, HG.out⟩
set_option maxRecDepth 20000 in
set_option maxHeartbeats 1000000 in
theorem told_hit (w : World) (m n : Int) (s : ByteArray) (hE : ErrT w) :
    Calls Tryd.prog 98 #[.int .i64 m, .iface 158 (.agg #[.string s, .int .i64 n])] w fun e w' => e = .returned (.int .i64 n) ∧ w.grownBy w' none := by
  have hg := World.grownBy_alloc w (.cells #[.string ⟨#[]⟩, .int .i64 0] 158 (0, 0)) none
  have HG := Lib.hid hg
  have HC := Lib.hid (as_hit w.heap.size s n _ _ _ (errT_grown hE hg) (box_new w #[.string ⟨#[]⟩, .int .i64 0] 158))
  clear hg hE
  go_enter Tryd.func98, Tryd.ntmps98
  go_wp2_with fail
  refine HC.out.mono ?_
  rintro e w2 ⟨rfl, hb, hg⟩
  have HG2 := Lib.hid (grown_new HG.out hg (fun c hc => by injection hc; omega))
  have c1 := hb.cell 1
  clear hb hg HC
  go_wp2
  go_ret
  exact ⟨rfl, HG2.out⟩
set_option maxRecDepth 20000 in
theorem pct_no (w : World) (m n : Int) (h : n = 0) :
    Calls Tryd.prog 99 #[.int .i64 m, .int .i64 n] w fun e w' => (∃ s, e = .returned (.tuple #[.int .i64 0, .iface 158 (.agg #[.string s, .int .i64 0])])) ∧ w = w' := by
  subst h
  go_enter Tryd.func99, Tryd.ntmps99
  go_wp2
  go_ret2
  exact ⟨⟨_, rfl⟩, rfl⟩
def pct (m n : Int) : Int := (100 * m) / n
set_option maxRecDepth 20000 in
theorem pct_yes (w : World) (m n : Int) (h : 0 < n) (hm : 0 ≤ m ∧ m ≤ 1000000000) (hn : n ≤ 1000000000) :
    Calls Tryd.prog 99 #[.int .i64 m, .int .i64 n] w fun e w' => e = .returned (.tuple #[.int .i64 (pct m n), .nilIface]) ∧ w = w' := by
  have q1 : IntKind.i64.wrap (100 * m) = 100 * m := IntWalk.i64_in _ (by omega)
  have t1 : (100 * m).tdiv n = pct m n := Int.tdiv_eq_ediv_of_nonneg (by omega)
  have hp : 0 ≤ pct m n ∧ pct m n ≤ 100000000000 := ⟨Int.ediv_nonneg (by omega) (by omega), Int.le_trans (Int.ediv_le_self _ (by omega)) (by omega)⟩
  have q2 : IntKind.i64.wrap (pct m n) = pct m n := IntWalk.i64_in _ (by omega)
  have hle : ¬ n ≤ 0 := by omega
  have hne : ¬ (n = 0) := by omega
  have hne2 : (n == 0) = false := by simpa using hne
  clear hp hm hn
  go_enter Tryd.func99, Tryd.ntmps99
  go_wp2
  go_ret2
  exact ⟨rfl, rfl⟩

def shareOf (L : List Bool) : Int := if L.length = 0 then 0 else pct (storms L) L.length
theorem share_no {L : List Bool} (h : L.length = 0) : shareOf L = 0 := if_pos h
theorem share_yes {L : List Bool} (h : L.length ≠ 0) : shareOf L = pct (storms L) L.length := if_neg h
set_option maxRecDepth 20000 in
set_option maxHeartbeats 1000000 in
theorem iStorm_any (w : World) (v : Value) (L : List Bool) (hv : SeesG encB w v L) (hn : L.length ≤ 2000000) (hE : ErrT w) :
    Calls Tryd.prog 51 #[v] w fun e w' => e = .returned (.int .i64 (shareOf L)) ∧ w.grownBy w' none := by
  have hc := iStorms_any w v L hv
  have hsl := storms_le L
  obtain ⟨va, vn, vc, rfl, HVN⟩ := hv.shape
  have hvn : vn ≤ 2000000 := by rw [← HVN.out]; exact hn
  have hsl : storms L ≤ vn := by rw [← HVN.out]; exact hsl
  have HE := Lib.hid hE
  by_cases h0 : vn = 0
  · have HR : Hid (shareOf L = 0) := share_no (by rw [HVN.out]; exact h0)
    have HC := Lib.hid hc
    subst h0
    clear hc hv hn hE hsl
    go_enter Tryd.func51, Tryd.ntmps51
    go_wp2_with fail
    refine HC.out.mono ?_
    rintro e w2 ⟨rfl, rfl⟩
    go_wp2_with fail
    refine (pct_no w _ 0 rfl).mono ?_
    rintro e w3 ⟨⟨s, rfl⟩, rfl⟩
    go_wp2_with fail
    refine (told_hit w 0 0 s HE.out).mono ?_
    rintro e w4 ⟨rfl, hg⟩
    have HG := Lib.hid hg
    clear hg
    go_wp2
    go_ret
    exact ⟨ret_i HR.out.symm, HG.out⟩
  · have HR : Hid (shareOf L = pct (storms L) vn) := by show _ = _; rw [share_yes (by rw [HVN.out]; exact h0), HVN.out]
    obtain ⟨m, hm⟩ : ∃ m, m = storms L := ⟨_, rfl⟩
    rw [← hm] at hc hsl HR
    have HC := Lib.hid hc
    have HM := Lib.hid (show (0 : Int) ≤ (m : Int) ∧ (m : Int) ≤ 1000000000 by omega)
    have HV1 := Lib.hid (show (0 : Int) < (vn : Int) by omega)
    have HV2 := Lib.hid (show (vn : Int) ≤ 1000000000 by omega)
    clear hc hv hn hE hsl hm h0
    go_enter Tryd.func51, Tryd.ntmps51
    go_wp2_with fail
    refine HC.out.mono ?_
    rintro e w2 ⟨rfl, rfl⟩
    go_wp2_with fail
    refine (pct_yes w m vn HV1.out HM.out HV2.out).mono ?_
    rintro e w3 ⟨rfl, rfl⟩
    go_wp2_with fail
    refine (told_nil w _).mono ?_
    rintro e w4 ⟨rfl, hg⟩
    have HG := Lib.hid hg
    clear hg
    go_wp2
    go_ret
    exact ⟨ret_i HR.out.symm, HG.out⟩
set_option maxRecDepth 20000 in
set_option maxHeartbeats 1000000 in
theorem sStorm_any (w : World) (v : Value) (L : List Bool) (hv : SeesG encB w v L) (hn : L.length ≤ 2000000) :
    Calls Tryd.prog 49 #[v] w fun e w' => e = .returned (.int .i64 (shareOf L)) ∧ w.grownBy w' none := by
  have hc := sStorms_any w v L hv
  have hsl := storms_le L
  obtain ⟨va, vn, vc, rfl, HVN⟩ := hv.shape
  have hvn : vn ≤ 2000000 := by rw [← HVN.out]; exact hn
  have hsl : storms L ≤ vn := by rw [← HVN.out]; exact hsl
  by_cases h0 : vn = 0
  · have HR : Hid (shareOf L = 0) := share_no (by rw [HVN.out]; exact h0)
    subst h0
    clear hc hv hn hsl
    go_enter Tryd.func49, Tryd.ntmps49
    go_wp2
    go_ret
    exact ⟨ret_i HR.out.symm, World.grownBy.refl _ _⟩
  · have HR : Hid (shareOf L = pct (storms L) vn) := by show _ = _; rw [share_yes (by rw [HVN.out]; exact h0), HVN.out]
    obtain ⟨m, hm⟩ : ∃ m, m = storms L := ⟨_, rfl⟩
    rw [← hm] at hc hsl HR
    have HC := Lib.hid hc
    have q1 : IntKind.i64.wrap (100 * (m : Int)) = 100 * (m : Int) := IntWalk.i64_in _ (by omega)
    have t1 : (100 * (m : Int)).tdiv (vn : Int) = pct m vn := Int.tdiv_eq_ediv_of_nonneg (by omega)
    have hp : 0 ≤ pct m vn ∧ pct m vn ≤ 100000000000 := ⟨Int.ediv_nonneg (by omega) (by omega), Int.le_trans (Int.ediv_le_self _ (by omega)) (by omega)⟩
    have q2 : IntKind.i64.wrap (pct m vn) = pct m vn := IntWalk.i64_in _ (by omega)
    have hb0 : ((vn : Int) == 0) = false := by simpa using h0
    have hne : ¬ ((vn : Int) = 0) := by omega
    clear hc hv hn hsl hm h0 hp
    go_enter Tryd.func49, Tryd.ntmps49
    go_wp2_with fail
    refine HC.out.mono ?_
    rintro e w2 ⟨rfl, rfl⟩
    go_wp2
    go_ret
    exact ⟨ret_i HR.out.symm, World.grownBy.refl _ _⟩

/-- How many cells are open, of the first so many. -/
def openTo (X : List Int) : Nat → Nat
  | 0 => 0
  | j + 1 => if X.getD j 0 = 2 then openTo X j else openTo X j + 1
theorem openTo_yes {X : List Int} {j : Nat} (h : X.getD j 0 = 2) : openTo X (j + 1) = openTo X j := if_pos h
theorem openTo_no {X : List Int} {j : Nat} (h : ¬ X.getD j 0 = 2) : openTo X (j + 1) = openTo X j + 1 := if_neg h
theorem openTo_le (X : List Int) : ∀ j, openTo X j ≤ j
  | 0 => Nat.le_refl _
  | j + 1 => by have := openTo_le X j; unfold openTo; split <;> omega
theorem openTo_sum (X : List Int) : ∀ j, j ≤ X.length → openTo X j + ((X.take j).filter fun x => x == 2).length = j
  | 0, _ => by simp [openTo]
  | j + 1, h => by
    have ih := openTo_sum X j (by omega)
    have hx : X.take (j + 1) = X.take j ++ [X.getD j 0] := by
      rw [List.take_succ_eq_append_getElem (by omega), show X.getD j 0 = X[j] by simp [show j < X.length by omega]]
    rw [hx, List.filter_append, List.length_append]
    by_cases h2 : X.getD j 0 = 2
    · rw [openTo_yes h2, h2]; simp; omega
    · rw [openTo_no h2]
      have : ([X.getD j 0].filter fun x => x == 2) = [] := by
        rw [List.filter_cons_of_neg (by simpa using h2), List.filter_nil]
      rw [this]; simp; omega
noncomputable def openOf (W H : Int) (X : List Int) : Int := if isLand W H X = true then pct (openTo X X.length) X.length else 0
theorem open_no {W H : Int} {X : List Int} (h : isLand W H X = false) : openOf W H X = 0 := if_neg (by rw [h]; simp)
theorem open_yes {W H : Int} {X : List Int} (h : isLand W H X = true) : openOf W H X = pct (openTo X X.length) X.length := if_pos h
theorem land_len {W H : Int} {X : List Int} (h : isLand W H X = true) : 1 ≤ X.length ∧ X.length ≤ 64 := by
  obtain ⟨hW, hH, hLen, _⟩ := isLand_of h
  have hA := area hW hH
  rw [← hLen] at hA
  omega
theorem isOpen1 (w : World) (k : Int) :
    Calls Tryd.prog 124 #[.int .i64 k] w fun e w' => e = .returned (.bool (!(k == 2))) ∧ w = w' := by
  by_cases h : k = 2
  · subst h
    go_enter Tryd.func124, Tryd.ntmps124
    go_wp2
    go_ret
    exact ⟨rfl, rfl⟩
  · have h1 : (k == 2) = false := by simpa using h
    have h2 : (k != 2) = true := by simpa using h
    rw [h1]
    clear h
    go_enter Tryd.func124, Tryd.ntmps124
    go_wp2
    go_ret
    exact ⟨rfl, rfl⟩
set_option maxRecDepth 20000 in
set_option maxHeartbeats 1000000 in
theorem countOf_any (w : World) (v : Value) (X : List Int) (hv : Sees .i64 w v X) (hn : X.length ≤ 2000000) :
    Calls Tryd.prog 125 #[v, .func (.func 124) #[] #[]] w fun e w' => e = .returned (.int .i64 (openTo X X.length)) ∧ w.grownBy w' none := by
  obtain ⟨va, vn, vc, rfl, HVN⟩ := hv.shape
  have hvn : vn ≤ 2000000 := by rw [← HVN.out]; exact hn
  have HV := Lib.hid hv
  clear hv hn
  go_enter Tryd.func125, Tryd.ntmps125
  go_wp2
  go_loopw [5, 10] (fun s i wr => ∃ j : Nat, j ≤ vn ∧ i = .int .i64 j ∧ s = .int .i64 (openTo X j) ∧ w = wr) (fun _ i _ => vn - (intOf i).toNat)
  case atStart => exact ⟨0, Nat.zero_le _, rfl, rfl, rfl⟩
  case round =>
    obtain ⟨j, hj, rfl, rfl, rfl⟩ := hrel
    have hle := openTo_le X j
    obtain ⟨s, hs⟩ : ∃ s, s = openTo X j := ⟨_, rfl⟩
    rw [← hs] at hle ⊢
    have HS := Lib.hid hs
    clear hs
    by_cases hlt : j < vn
    · have hjl : j < X.length := by rw [HVN.out]; exact hlt
      obtain ⟨b, o, rfl, hr⟩ := HV.out.at_row hjl
      clear hr
      obtain ⟨k, hk⟩ : ∃ k, k = X.getD j 0 := ⟨_, rfl⟩
      have d0 := HV.out.at' hjl
      rw [← hk] at d0
      have HKD := Lib.hid hk
      clear hk hjl
      by_cases h2 : k = 2
      · have HN : Hid (openTo X (j + 1) = s) := by show _ = _; rw [openTo_yes (by rw [← HKD.out]; exact h2), HS.out]
        subst h2
        go_wp2_with fail
        refine (isOpen1 _ 2).mono ?_
        rintro e w2 ⟨rfl, rfl⟩
        go_wp2
        go_roundw
        case rel => exact ⟨j + 1, by omega, by go_num, by rw [HN.out], by trivial⟩
        case measure => simp [intOf]; omega
      · have HN : Hid (openTo X (j + 1) = s + 1) := by show _ = _; rw [openTo_no (by rw [← HKD.out]; exact h2), HS.out]
        have h1 : (k == 2) = false := by simpa using h2
        clear h2
        go_wp2_with fail
        refine (isOpen1 _ k).mono ?_
        rintro e w2 ⟨rfl, rfl⟩
        go_wp2
        go_roundw
        case rel => exact ⟨j + 1, by omega, by go_num, by rw [HN.out]; go_num, by trivial⟩
        case measure => simp [intOf]; omega
    · have hju : vn = j := by omega
      subst hju
      go_wp2
      go_ret
      exact ⟨ret_i (by rw [HS.out, HVN.out]), World.grownBy.refl _ _⟩
set_option maxRecDepth 20000 in
set_option maxHeartbeats 2000000 in
theorem openShare_no (w : World) (W H : Int) (v : Value) (X : List Int) (hv : Sees .i64 w v X) (h : isLand W H X = false) :
    Calls Tryd.prog 102 #[.agg #[.int .i64 W, .int .i64 H, v]] w fun e w' => (∃ s, e = .returned (.tuple #[.int .i64 0, .iface 158 (.agg #[.string s, .int .i64 0])])) ∧ w.grownBy w' none := by
  have hgr := World.grownBy_alloc w (.cells #[.int .i64 W, .int .i64 H, v] 27 (0, 0)) none
  have HG := Lib.hid hgr
  have HB := Lib.hid (box_new w #[.int .i64 W, .int .i64 H, v] 27)
  obtain ⟨c0, c1, c2⟩ := HB.out.three
  have hs := LandI.isLand_any _ W H _ X (hv.grown hgr)
  rw [h] at hs
  have HS := Lib.hid hs
  obtain ⟨a, cap, rfl, _⟩ := hv
  clear hgr hs h
  go_enter Tryd.func102, Tryd.ntmps102
  go_wp2_with fail
  refine HS.out.mono ?_
  rintro e w2 ⟨rfl, hg⟩
  have HG2 := Lib.hid (grownN_trans HG.out hg)
  clear hg
  go_wp2
  go_ret2
  exact ⟨⟨_, rfl⟩, HG2.out⟩
set_option maxRecDepth 20000 in
set_option maxHeartbeats 2000000 in
theorem openShare_yes (w : World) (W H : Int) (v : Value) (X : List Int) (hv : Sees .i64 w v X) (h : isLand W H X = true) :
    Calls Tryd.prog 102 #[.agg #[.int .i64 W, .int .i64 H, v]] w fun e w' => e = .returned (.tuple #[.int .i64 (pct (openTo X X.length) X.length), .nilIface]) ∧ w.grownBy w' none := by
  have hgr := World.grownBy_alloc w (.cells #[.int .i64 W, .int .i64 H, v] 27 (0, 0)) none
  have HG := Lib.hid hgr
  have HB := Lib.hid (box_new w #[.int .i64 W, .int .i64 H, v] 27)
  have HV := Lib.hid (hv.grown hgr)
  obtain ⟨c0, c1, c2⟩ := HB.out.three
  have hs := LandI.isLand_any _ W H _ X (hv.grown hgr)
  rw [h] at hs
  have HS := Lib.hid hs
  obtain ⟨hl0, hl1⟩ := land_len h
  obtain ⟨va, vn, vc, rfl, HVN⟩ := hv.shape
  rw [HVN.out] at hl0 hl1
  have hop := openTo_le X X.length
  have hct := fun w' hx => countOf_any w' (.slice va vn vc) X hx (by rw [HVN.out]; omega)
  rw [HVN.out] at hct hop
  rw [HVN.out]
  obtain ⟨m, hm⟩ : ∃ m, m = openTo X vn := ⟨_, rfl⟩
  rw [← hm] at hct hop ⊢
  have HCT := Lib.hid hct
  have HM := Lib.hid (show (0 : Int) ≤ (m : Int) ∧ (m : Int) ≤ 1000000000 by omega)
  have HV1 := Lib.hid (show (0 : Int) < (vn : Int) by omega)
  have HV2 := Lib.hid (show (vn : Int) ≤ 1000000000 by omega)
  clear hgr hs h hv hct hm hop
  go_enter Tryd.func102, Tryd.ntmps102
  go_wp2_with fail
  refine HS.out.mono ?_
  rintro e w2 ⟨rfl, hg⟩
  have HG2 := Lib.hid (grownN_trans HG.out hg)
  have HVX := Lib.hid (HV.out.grown hg)
  have HD : Hid (∀ W', w2.grownBy W' none → W'.cell? ⟨w.heap.size, 2, none⟩ = some (.slice va vn vc)) := fun W' hgg => ((HB.out.grown hg).grown hgg).cell 2
  have HQ0 := Lib.hid (grown_drew (World.grownBy.refl w2 none))
  clear hg c0 c1 c2
  go_wp2_with fail
  go_region_held3 (fun w' => w'.cell? ⟨w.heap.size, 2, none⟩ = some (.slice va vn vc))
    (first | exact HD.out _ HQ0.out | exact HD.out _ HQ1.out)
    (first
      | (go_at_call 125; refine (HCT.out _ (HVX.out.grown HQ0.out)).mono ?_; rintro e wA ⟨rfl, hgA⟩; have HQ1 := Lib.hid (grownN_trans HQ0.out hgA); clear hgA)
      | (go_at_call 99; refine (pct_yes _ m vn HV1.out HM.out HV2.out).mono ?_; rintro e wB ⟨rfl, rfl⟩))
  go_wp2
  go_ret2
  exact ⟨rfl, grownN_trans HG2.out HQ1.out⟩
set_option maxRecDepth 20000 in
set_option maxHeartbeats 2000000 in
theorem iOpen_any (w : World) (W H : Int) (v : Value) (X : List Int) (hv : Sees .i64 w v X) (hE : ErrT w) :
    Calls Tryd.prog 54 #[.agg #[.int .i64 W, .int .i64 H, v]] w fun e w' => e = .returned (.int .i64 (openOf W H X)) ∧ w.grownBy w' none := by
  have hgr := World.grownBy_alloc w (.cells #[.int .i64 W, .int .i64 H, v] 27 (0, 0)) none
  have HG := Lib.hid hgr
  have HB := Lib.hid (box_new w #[.int .i64 W, .int .i64 H, v] 27)
  have HE := Lib.hid (errT_grown hE hgr)
  obtain ⟨c0, c1, c2⟩ := HB.out.three
  have hvg := hv.grown hgr
  obtain ⟨a, cap, rfl, _⟩ := hv
  cases h : isLand W H X
  · have HC := Lib.hid (openShare_no _ W H _ X hvg h)
    have HR : Hid (openOf W H X = 0) := open_no h
    clear hgr h hvg hE
    go_enter Tryd.func54, Tryd.ntmps54
    go_wp2_with fail
    refine HC.out.mono ?_
    rintro e w2 ⟨⟨s, rfl⟩, hg⟩
    have HG2 := Lib.hid (grownN_trans HG.out hg)
    have HE2 := Lib.hid (errT_grown HE.out hg)
    clear hg
    go_wp2_with fail
    refine (told_hit w2 0 0 s HE2.out).mono ?_
    rintro e w3 ⟨rfl, hg⟩
    have HG3 := Lib.hid (grownN_trans HG2.out hg)
    clear hg
    go_wp2
    go_ret
    exact ⟨ret_i HR.out.symm, HG3.out⟩
  · have HC := Lib.hid (openShare_yes _ W H _ X hvg h)
    have HR : Hid (openOf W H X = pct (openTo X X.length) X.length) := open_yes h
    clear hgr h hvg hE
    go_enter Tryd.func54, Tryd.ntmps54
    go_wp2_with fail
    refine HC.out.mono ?_
    rintro e w2 ⟨rfl, hg⟩
    have HG2 := Lib.hid (grownN_trans HG.out hg)
    clear hg
    go_wp2_with fail
    refine (told_nil w2 _).mono ?_
    rintro e w3 ⟨rfl, hg⟩
    have HG3 := Lib.hid (grownN_trans HG2.out hg)
    clear hg
    go_wp2
    go_ret
    exact ⟨ret_i HR.out.symm, HG3.out⟩
set_option maxRecDepth 20000 in
set_option maxHeartbeats 2000000 in
theorem sOpen_any (w : World) (W H : Int) (v : Value) (X : List Int) (hv : Sees .i64 w v X) :
    Calls Tryd.prog 53 #[.agg #[.int .i64 W, .int .i64 H, v]] w fun e w' => e = .returned (.int .i64 (openOf W H X)) ∧ w.grownBy w' none := by
  have hgr := World.grownBy_alloc w (.cells #[.int .i64 W, .int .i64 H, v] 27 (0, 0)) none
  have HG := Lib.hid hgr
  have HB := Lib.hid (box_new w #[.int .i64 W, .int .i64 H, v] 27)
  have HV := Lib.hid (hv.grown hgr)
  obtain ⟨c0, c1, c2⟩ := HB.out.three
  have hs := LandS.sIsLand_any _ W H _ X (hv.grown hgr)
  have hct := fun w' hx => LandS.sCount_any w' W H 2 v X hx
  obtain ⟨va, vn, vc, rfl, HVN⟩ := hv.shape
  cases h : isLand W H X
  · rw [h] at hs
    have HS := Lib.hid hs
    have HR : Hid (openOf W H X = 0) := open_no h
    clear hgr h hs hct hv
    go_enter Tryd.func53, Tryd.ntmps53
    go_wp2_with fail
    refine HS.out.mono ?_
    rintro e w2 ⟨rfl, hg⟩
    have HG2 := Lib.hid (grownN_trans HG.out hg)
    clear hg
    go_wp2
    go_ret
    exact ⟨ret_i HR.out.symm, HG2.out⟩
  · rw [h] at hs
    have HS := Lib.hid hs
    obtain ⟨hl0, hl1⟩ := land_len h
    have hsum := openTo_sum X X.length (Nat.le_refl _)
    rw [List.take_length] at hsum
    have hcd : count W H X 2 = ((X.filter fun x => x == 2).length : Int) := by unfold count; rw [if_pos h]
    have HR : Hid (openOf W H X = pct (openTo X vn) vn) := by show _ = _; rw [open_yes h, HVN.out]
    rw [HVN.out] at hl0 hl1 hsum
    obtain ⟨m, hm⟩ : ∃ m, m = openTo X vn := ⟨_, rfl⟩
    obtain ⟨c, hcc⟩ : ∃ c : Nat, c = (X.filter fun x => x == 2).length := ⟨_, rfl⟩
    rw [← hm] at HR
    rw [← hm, ← hcc] at hsum
    rw [hcd, ← hcc] at hct
    have HCT := Lib.hid hct
    have q0 : IntKind.i64.wrap ((vn : Int) - (c : Int)) = (m : Int) := (IntWalk.i64_in _ (by omega)).trans (by omega)
    have q1 : IntKind.i64.wrap (100 * (m : Int)) = 100 * (m : Int) := IntWalk.i64_in _ (by omega)
    have t1 : (100 * (m : Int)).tdiv (vn : Int) = pct m vn := Int.tdiv_eq_ediv_of_nonneg (by omega)
    have hp : 0 ≤ pct m vn ∧ pct m vn ≤ 100000000000 := ⟨Int.ediv_nonneg (by omega) (by omega), Int.le_trans (Int.ediv_le_self _ (by omega)) (by omega)⟩
    have q2 : IntKind.i64.wrap (pct m vn) = pct m vn := IntWalk.i64_in _ (by omega)
    have hb0 : ((vn : Int) == 0) = false := by simp; omega
    have hne : ¬ ((vn : Int) = 0) := by omega
    have hne3 : ¬ (vn = 0) := by omega
    have hne4 : ((vn : Int) == -1) = false := by first | (simp; done) | (simp; omega)
    have hvpos : (0 : Int) < (vn : Int) := by omega
    clear hgr h hs hct hv hm hcc hcd hsum hp
    go_enter Tryd.func53, Tryd.ntmps53
    go_wp2_with fail
    refine HS.out.mono ?_
    rintro e w2 ⟨rfl, hg⟩
    have HG2 := Lib.hid (grownN_trans HG.out hg)
    have HVX := Lib.hid (HV.out.grown hg)
    have HD : Hid (∀ W', w2.grownBy W' none → W'.cell? ⟨w.heap.size, 0, none⟩ = some (.int .i64 W) ∧ W'.cell? ⟨w.heap.size, 1, none⟩ = some (.int .i64 H) ∧ W'.cell? ⟨w.heap.size, 2, none⟩ = some (.slice va vn vc)) := fun W' hgg => ((HB.out.grown hg).grown hgg).three
    have HQ0 := Lib.hid (grown_drew (World.grownBy.refl w2 none))
    clear hg c0 c1 c2
    go_wp2_with fail
    go_region_held3 (fun w' => w'.cell? ⟨w.heap.size, 0, none⟩ = some (.int .i64 W) ∧ w'.cell? ⟨w.heap.size, 1, none⟩ = some (.int .i64 H) ∧ w'.cell? ⟨w.heap.size, 2, none⟩ = some (.slice va vn vc))
      (first | exact HD.out _ HQ0.out | exact HD.out _ HQ1.out)
      (first | (go_at_call 101; refine (HCT.out _ (HVX.out.grown HQ0.out)).mono ?_; rintro e wA ⟨rfl, hgA⟩; have HQ1 := Lib.hid (grownN_trans HQ0.out hgA); clear hgA))
    go_wp2
    go_ret
    exact ⟨ret_i HR.out.symm, grownN_trans HG2.out HQ1.out⟩
end Go.Proofs.YtoanhnklemlfmaaDoor.Mea
