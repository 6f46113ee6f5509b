/- Contracts of the model's Days, Farthest and Reach. Contracts of the program's squareOf, cellOf, of the steps from a square to those beside it, and how a grid's value lies in memory. Contracts of the program's IsLand, IsCell and IsOpen. Contract of the program's gridOf: for a valid land it returns the grid of its squares. Contract of the program's near of a grid: the open squares beside one. -/
import Derived.Test.YtbpiojnehomljaaFromS
import Derived.Test.YtbpiojnehomljaaG14
import Derived.Test.YtbpiojnehomljaaG15
import Derived.Test.YtbpiojnehomljaaMBase
import Derived.IntWalk
import Derived.Deep.QuietTactic
import Derived.BigQuiet
import Derived.Laws.Rows
import Derived.Deep.RegionWith
import Derived.Deep.WholeRow
import Derived.Deep.DeepCutAuto
namespace Go.Proofs.Ytbpiojnehomljaa.WayS
open Go.RowKit Kit Rw Ld Bfs Wf LandS FromS

set_option maxRecDepth 100000 in
set_option maxHeartbeats 1000000 in
theorem sDays_any (w : World) (W H a b : Int) (v : Value) (X : List Int) (hv : Sees .i64 w v X) :
    Calls Try.prog 87 #[.agg #[.int .i64 W, .int .i64 H, v], .int .i64 a, .int .i64 b] w fun e w' => e = .returned (.int .i64 (daysOf W H X a b)) ∧ w.grownBy w' none := by
  obtain ⟨hb0, hv0, hg0⟩ := wb_new (W := W) (H := H) hv
  obtain ⟨c0, c1, c2⟩ := hb0.three
  have HB0 := Lib.hid hb0
  have HV0 := Lib.hid hv0
  have HG0 := Lib.hid hg0
  obtain ⟨va, vn, vc, hvv, HVN⟩ := hv.shape
  subst hvv
  have hs := sIsOpen_any _ W H a _ X hv0
  clear hv hb0 hv0 hg0
  by_cases hA : isOpen W H X a = true
  · rw [hA] at hs
    have HS := Lib.hid hs
    have HA := Lib.hid hA
    clear hs hA
    go_enter Try.func87, Try.ntmps87
    go_wp2_with fail
    refine HS.out.mono ?_
    rintro e w2 ⟨rfl, hg⟩
    have HB2 := Lib.hid (HB0.out.grown hg)
    have HV2 := Lib.hid (HV0.out.grown hg)
    have HG2 := Lib.hid (grownN_trans HG0.out hg)
    clear hg c0 c1 c2
    obtain ⟨c0, c1, c2⟩ := HB2.out.three
    have hs := sIsOpen_any w2 W H b _ X HV2.out
    by_cases hB : isOpen W H X b = true
    · rw [hB] at hs
      have HS := Lib.hid hs
      have HBO := Lib.hid hB
      clear hs hB
      go_wp2_with fail
      refine HS.out.mono ?_
      rintro e w3 ⟨rfl, hg⟩
      have HB3 := Lib.hid (HB2.out.grown hg)
      have HV3 := Lib.hid (HV2.out.grown hg)
      have HG3 := Lib.hid (grownN_trans HG2.out hg)
      have HE : Hid (daysOf W H X a b = at' (distL W X a) b) := by show _ = _; unfold daysOf; rw [if_pos ⟨HA.out, HBO.out⟩]
      obtain ⟨p, h, n, rfl, rfl, rfl, hn, hL, h64, _⟩ := open_nat HA.out
      obtain ⟨p', h', m, hp', hh', rfl, hm, _, _, _⟩ := open_nat HBO.out
      have HL : Hid (isLand p h X = true ∧ n < X.length ∧ m < X.length ∧ X.length ≤ 64) := ⟨hL, hn, hm, h64⟩
      clear hg c0 c1 c2 hL hn hm h64 hp' hh'
      obtain ⟨c0, c1, c2⟩ := HB3.out.three
      go_wp2_with fail
      refine (from_any w3 p h n _ X HV3.out (isOpen_of HA.out).1).mono ?_
      rintro e w4 ⟨u, rfl, ho, hg⟩
      have HG4 := Lib.hid (grownN_trans HG3.out hg)
      have hdl := (dist_is HL.out.1 (a := (n : Int)) (by omega) (by have := HL.out.2.1; omega)).len
      have hml : m < (distL p X n).length := by rw [hdl]; exact HL.out.2.2.1
      obtain ⟨ua, un, uc, hu, HUN⟩ := ho.sees.shape
      subst hu
      obtain ⟨ub, uo, rfl, hc⟩ := ho.sees.at_row hml
      obtain ⟨y, hy⟩ : ∃ y, y = (distL p X n).getD m 0 := ⟨_, rfl⟩
      rw [← hy] at hc
      have HY : Hid (daysOf p h X n m = y) := by show _ = _; rw [HE.out, hy]; rfl
      have hmu : m < un := by rw [← HUN.out]; exact hml
      clear ho hg hdl hml hy c0 c1 c2
      go_wp2
      go_ret
      exact ⟨ret_i64 HY.out.symm, HG4.out⟩
    · have hB2 : isOpen W H X b = false := by simpa using hB
      rw [hB2] at hs
      have HS := Lib.hid hs
      have HE : Hid (daysOf W H X a b = -1) := by show _ = _; unfold daysOf; rw [if_neg (fun h => hB h.2)]
      clear hs hB hB2
      go_wp2_with fail
      refine HS.out.mono ?_
      rintro e w3 ⟨rfl, hg⟩
      have HG3 := Lib.hid (grownN_trans HG2.out hg)
      clear hg
      go_wp2
      go_ret
      exact ⟨ret_i64 HE.out.symm, HG3.out⟩
  · have hA2 : isOpen W H X a = false := by simpa using hA
    rw [hA2] at hs
    have HS := Lib.hid hs
    have HE : Hid (daysOf W H X a b = -1) := by show _ = _; unfold daysOf; rw [if_neg (fun h => hA h.1)]
    clear hs hA hA2
    go_enter Try.func87, Try.ntmps87
    go_wp2_with fail
    refine HS.out.mono ?_
    rintro e w2 ⟨rfl, hg⟩
    have HG2 := Lib.hid (grownN_trans HG0.out hg)
    clear hg
    go_wp2
    go_ret
    exact ⟨ret_i64 HE.out.symm, HG2.out⟩

end Go.Proofs.Ytbpiojnehomljaa.WayS

namespace Go.Proofs.Ytbpiojnehomljaa.GrI
open Go.RowKit Kit Rw Ld Gr

/-- The cells of a grid's value: its width, then its hundred squares. -/
def gcells (p : Nat) (g : List Int) : Array Value := (Value.int .i64 (p : Int) :: g.map (Value.int .u8)).toArray
theorem gcells_size {p : Nat} {g : List Int} (hg : g.length = 100) : (gcells p g).size = 101 := by simp [gcells, hg]
theorem gcells_0 (p : Nat) (g : List Int) : (gcells p g)[0]? = some (.int .i64 (p : Int)) := rfl
theorem gcells_s {p : Nat} {g : List Int} (hg : g.length = 100) {s : Nat} (hs : s < 100) : (gcells p g)[1 + s]? = some (.int .u8 (g.getD s 0)) := by
  rw [show 1 + s = s + 1 by omega]
  simp only [gcells, List.getElem?_toArray, List.getElem?_cons_succ]
  exact getD_map (by omega)
theorem alloc_cell (w : World) (cs : Array Value) (T : TypeId) (j : Nat) : (w.alloc (.cells cs T (0, 0))).cell? ⟨w.heap.size, j, none⟩ = cs[j]? := World.cell?_alloc_new _ _ _ _

set_option maxHeartbeats 1000000 in
theorem squareOf_any (w : World) (p q : Nat) (cs : Array Value) (hp : 1 ≤ p ∧ p ≤ 8) (hq : q < 64) (h0 : cs[0]? = some (.int .i64 (p : Int))) :
    Calls Try.prog 130 #[.agg cs, .int .i64 (q : Int)] w fun e w' => e = .returned (.int .i64 ((sq p q : Nat) : Int)) ∧ w.grownBy w' none := by
  have HG := Lib.hid (World.grownBy_alloc w (.cells cs 144 (0, 0)) none)
  have c0 : (w.alloc (.cells cs 144 (0, 0))).cell? ⟨w.heap.size, 0, none⟩ = some (.int .i64 (p : Int)) := by rw [alloc_cell]; exact h0
  obtain ⟨c, hc⟩ : ∃ c, c = q % p := ⟨_, rfl⟩
  obtain ⟨r, hr⟩ : ∃ r, r = q / p := ⟨_, rfl⟩
  have HE : Hid (((r + 1) * 10 + c + 1 : Nat) = sq p q) := by show _ = _; rw [hc, hr]; rfl
  obtain ⟨hp1, hp8⟩ := hp
  have hc8 : c < p := by rw [hc]; exact Nat.mod_lt _ (by omega)
  have hr64 : r ≤ q := by rw [hr]; exact Nat.div_le_self _ _
  have t1 : (q : Int).tmod (p : Int) = (c : Int) := by rw [Int.tmod_eq_emod_of_nonneg (by omega), hc]; omega
  have t2 : (q : Int).tdiv (p : Int) = (r : Int) := by rw [Int.tdiv_eq_ediv_of_nonneg (by omega), hr]; omega
  have w2 : IntKind.i64.wrap (r : Int) = (r : Int) := IntWalk.i64_in _ (by omega)
  have hne : ¬ ((p : Int) = 0) := by omega
  have hne2 : ((p : Int) == 0) = false := by simpa using hne
  clear h0 hc hr
  go_enter Try.func130, Try.ntmps130
  go_wp2_with fail
  go_quiet (fail)
  go_wp2
  go_ret
  exact ⟨ret_i64 (by rw [← HE.out]; omega), grown_drewN HG.out _⟩

set_option maxHeartbeats 1000000 in
theorem cellOf_any (w : World) (p s : Nat) (cs : Array Value) (hp : 1 ≤ p ∧ p ≤ 8) (hs : s < 100) (h10 : 10 ≤ s) (h1 : 1 ≤ s % 10) (h0 : cs[0]? = some (.int .i64 (p : Int))) :
    Calls Try.prog 133 #[.agg cs, .int .i64 (s : Int)] w fun e w' => e = .returned (.int .i64 ((cl p s : Nat) : Int)) ∧ w.grownBy w' none := by
  have HG := Lib.hid (World.grownBy_alloc w (.cells cs 144 (0, 0)) none)
  have c0 : (w.alloc (.cells cs 144 (0, 0))).cell? ⟨w.heap.size, 0, none⟩ = some (.int .i64 (p : Int)) := by rw [alloc_cell]; exact h0
  obtain ⟨c, hc⟩ : ∃ c, c + 1 = s % 10 := ⟨s % 10 - 1, by omega⟩
  obtain ⟨r, hr⟩ : ∃ r, r + 1 = s / 10 := ⟨s / 10 - 1, by omega⟩
  obtain ⟨k, hk⟩ : ∃ k, k = r * p := ⟨_, rfl⟩
  have HE : Hid (((k + c : Nat) : Int) = ((cl p s : Nat) : Int)) := by show _ = _; unfold cl; rw [← hc, ← hr, hk]; simp
  obtain ⟨hp1, hp8⟩ := hp
  have hk64 : k ≤ 64 := by rw [hk]; exact Nat.mul_le_mul (show r ≤ 8 by omega) hp8
  have t1 : (s : Int).tmod 10 = (c : Int) + 1 := by rw [Int.tmod_eq_emod_of_nonneg (by omega)]; omega
  have t2 : (s : Int).tdiv 10 = (r : Int) + 1 := by rw [Int.tdiv_eq_ediv_of_nonneg (by omega)]; omega
  have t1' : (s : Int) % 10 = (c : Int) + 1 := by omega
  have t2' : (s : Int) / 10 = (r : Int) + 1 := by omega
  have t3 : (r : Int) * (p : Int) = (k : Int) := by rw [hk]; simp
  have hc10 : c < 10 := by omega
  have hr10 : r < 10 := by omega
  clear h0 hc hr hk
  go_enter Try.func133, Try.ntmps133
  go_wp2
  go_ret
  exact ⟨ret_i64 (by rw [← HE.out]; omega), HG.out⟩

/-- The square beside one, by the side's number. -/
def beside (j s : Nat) : Nat := if j = 0 then s - 10 else if j = 1 then s - 1 else if j = 2 then s + 1 else s + 10
theorem above_any (w : World) (s : Nat) (h10 : 10 ≤ s) (hs : s < 100) :
    Calls Try.prog 138 #[.int .i64 (s : Int)] w fun e w' => e = .returned (.int .i64 ((beside 0 s : Nat) : Int)) ∧ w = w' := by
  go_enter Try.func138, Try.ntmps138
  go_wp2
  go_ret
  exact ⟨ret_i64 (by unfold beside; simp; omega), rfl⟩
theorem left_any (w : World) (s : Nat) (h10 : 10 ≤ s) (hs : s < 100) :
    Calls Try.prog 139 #[.int .i64 (s : Int)] w fun e w' => e = .returned (.int .i64 ((beside 1 s : Nat) : Int)) ∧ w = w' := by
  go_enter Try.func139, Try.ntmps139
  go_wp2
  go_ret
  exact ⟨ret_i64 (by unfold beside; simp; omega), rfl⟩
theorem right_any (w : World) (s : Nat) (h10 : 10 ≤ s) (hs : s < 100) :
    Calls Try.prog 140 #[.int .i64 (s : Int)] w fun e w' => e = .returned (.int .i64 ((beside 2 s : Nat) : Int)) ∧ w = w' := by
  go_enter Try.func140, Try.ntmps140
  go_wp2
  go_ret
  exact ⟨ret_i64 (by unfold beside; simp), rfl⟩
theorem below_any (w : World) (s : Nat) (h10 : 10 ≤ s) (hs : s < 100) :
    Calls Try.prog 141 #[.int .i64 (s : Int)] w fun e w' => e = .returned (.int .i64 ((beside 3 s : Nat) : Int)) ∧ w = w' := by
  go_enter Try.func141, Try.ntmps141
  go_wp2
  go_ret
  exact ⟨ret_i64 (by unfold beside; simp), rfl⟩
end Go.Proofs.Ytbpiojnehomljaa.GrI

namespace Go.Proofs.Ytbpiojnehomljaa.LandI
open Go.RowKit Kit Rw Ld Md

theorem inRange_yes {n l h : Int} (w : World) (hd : l ≤ n ∧ n ≤ h) :
    Calls Try.prog 69 #[.int .i64 n, .int .i64 l, .int .i64 h] w fun e w' => e = .returned (.bool true) ∧ w = w' := by
  have := inRange_any n l h w; rwa [decide_eq_true hd] at this
theorem inRange_no {n l h : Int} (w : World) (hd : ¬ (l ≤ n ∧ n ≤ h)) :
    Calls Try.prog 69 #[.int .i64 n, .int .i64 l, .int .i64 h] w fun e w' => e = .returned (.bool false) ∧ w = w' := by
  have := inRange_any n l h w; rwa [decide_eq_false hd] at this

set_option maxHeartbeats 1000000 in
theorem isLand_any (w : World) (W H : Int) (v : Value) (X : List Int) (hv : Sees .i64 w v X) :
    Calls Try.prog 128 #[.agg #[.int .i64 W, .int .i64 H, v]] w fun e w' => e = .returned (.bool (isLand W H X)) ∧ w.grownBy w' none := by
  have hl := hv.len
  have HG := Lib.hid (World.grownBy_alloc w (.cells #[.int .i64 W, .int .i64 H, v] 29 (0, 0)) none)
  have HV := Lib.hid (hv.grown HG.out)
  obtain ⟨c0, c1, c2⟩ := (box_new w #[.int .i64 W, .int .i64 H, v] 29).three
  obtain ⟨a, cap, rfl, _⟩ := hv
  by_cases hW : 1 ≤ W ∧ W ≤ 8
  · by_cases hH : 1 ≤ H ∧ H ≤ 8
    · have hA := area hW hH
      have HW := Lib.hid hW
      have HH := Lib.hid hH
      have hp : IntKind.i64.wrap (W * H) = W * H := IntWalk.i64_in _ (by omega)
      clear hW hH
      by_cases hLen : (X.length : Int) = W * H
      · have hLen2 : ((X.length : Int) == W * H) = true := by simpa using hLen
        have hLen3 : ((X.length : Int) != W * H) = false := by simpa using hLen
        have HLen := Lib.hid hLen
        clear hLen
        go_enter Try.func128, Try.ntmps128
        go_wp2_with (first
          | (go_at_call_of 69 (Value.int IntKind.i64 W); refine (inRange_yes _ HW.out).mono ?_; rintro e w' ⟨rfl, rfl⟩)
          | (go_at_call_of 69 (Value.int IntKind.i64 H); refine (inRange_yes _ HH.out).mono ?_; rintro e w' ⟨rfl, rfl⟩))
        clear hLen2 hLen3 hp
        generalize w.alloc (.cells #[.int .i64 W, .int .i64 H, .slice a X.length cap] 29 (0, 0)) = W1 at *
        go_loop [29] (fun i => ∃ j : Nat, j ≤ X.length ∧ i = .int .i64 j ∧ Hid (∀ m, m < j → 0 ≤ X.getD m 0 ∧ X.getD m 0 ≤ 2)) (fun i => X.length - (intOf i).toNat)
        case atStart => exact ⟨0, Nat.zero_le _, rfl, fun m hm => absurd hm (Nat.not_lt_zero _)⟩
        case round =>
          obtain ⟨j, hj, rfl, HE⟩ := hrel
          by_cases hlt : j < X.length
          · obtain ⟨x, hx⟩ : ∃ x, x = X.getD j 0 := ⟨_, rfl⟩
            obtain ⟨b, o, rfl, hcj⟩ := HV.out.at_row hlt
            rw [← hx] at hcj
            have HX := Lib.hid hx
            clear hx
            by_cases hk : 0 ≤ x ∧ x ≤ 2
            · have HK := Lib.hid hk
              clear hk
              go_wp2_with fail
              refine (inRange_yes _ HK.out).mono ?_
              rintro e w' ⟨rfl, rfl⟩
              go_wp2
              go_round
              case rel =>
                refine ⟨j + 1, by omega, by go_num, fun m hm => ?_⟩
                by_cases h : m = j
                · subst h; rw [← HX.out]; exact HK.out
                · exact HE.out m (by omega)
              case measure => simp [intOf]; omega
            · have HK := Lib.hid hk
              have HL : Hid (isLand W H X = false) := isLand_no (fun h => hk (by rw [HX.out]; exact h.2.2.2 _ (mem_getD hlt)))
              clear hk
              go_wp2_with fail
              refine (inRange_no _ HK.out).mono ?_
              rintro e w' ⟨rfl, rfl⟩
              go_wp2
              go_ret
              exact ⟨ret_bool HL.out.symm, HG.out⟩
          · have HL : Hid (isLand W H X = true) := isLand_mk ⟨HW.out, HH.out, HLen.out, fun k hk => by
              obtain ⟨m, hm, rfl⟩ := List.getElem_of_mem hk
              have := HE.out m (by omega)
              simpa [hm] using this⟩
            go_wp2
            go_ret
            exact ⟨ret_bool HL.out.symm, HG.out⟩
      · have hLen2 : ((X.length : Int) == W * H) = false := by simpa using hLen
        have hLen3 : ((X.length : Int) != W * H) = true := by simpa using hLen
        have HL := Lib.hid (isLand_no (W := W) (H := H) (X := X) (fun h => hLen h.2.2.1))
        clear hLen
        go_enter Try.func128, Try.ntmps128
        go_wp2_with (first
          | (go_at_call_of 69 (Value.int IntKind.i64 W); refine (inRange_yes _ HW.out).mono ?_; rintro e w' ⟨rfl, rfl⟩)
          | (go_at_call_of 69 (Value.int IntKind.i64 H); refine (inRange_yes _ HH.out).mono ?_; rintro e w' ⟨rfl, rfl⟩))
        go_ret
        exact ⟨ret_bool HL.out.symm, HG.out⟩
    · have HW := Lib.hid hW
      have HH := Lib.hid hH
      have HL := Lib.hid (isLand_no (W := W) (H := H) (X := X) (fun h => hH h.2.1))
      clear hW hH
      go_enter Try.func128, Try.ntmps128
      go_wp2_with fail
      refine (inRange_yes _ HW.out).mono ?_
      rintro e w' ⟨rfl, rfl⟩
      go_wp2_with fail
      refine (inRange_no _ HH.out).mono ?_
      rintro e w' ⟨rfl, rfl⟩
      go_wp2
      go_ret
      exact ⟨ret_bool HL.out.symm, HG.out⟩
  · have HW := Lib.hid hW
    have HL := Lib.hid (isLand_no (W := W) (H := H) (X := X) (fun h => hW h.1))
    clear hW
    go_enter Try.func128, Try.ntmps128
    go_wp2_with fail
    refine (inRange_no _ HW.out).mono ?_
    rintro e w' ⟨rfl, rfl⟩
    go_wp2
    go_ret
    exact ⟨ret_bool HL.out.symm, HG.out⟩

set_option maxHeartbeats 400000 in
theorem isCell_any (w : World) (W H n : Int) (v : Value) (X : List Int) (hv : Sees .i64 w v X) :
    Calls Try.prog 115 #[.agg #[.int .i64 W, .int .i64 H, v], .int .i64 n] w fun e w' => e = .returned (.bool (isCell W H X n)) ∧ w.grownBy w' none := by
  have hl := hv.len
  have hgr := World.grownBy_alloc w (.cells #[.int .i64 W, .int .i64 H, v] 29 (0, 0)) none
  have HG := Lib.hid hgr
  have HV := Lib.hid (hv.grown hgr)
  have HB := Lib.hid (box_new w #[.int .i64 W, .int .i64 H, v] 29)
  obtain ⟨c0, c1, c2⟩ := HB.out.three
  obtain ⟨a, cap, rfl, _⟩ := hv
  clear hgr
  have hs := isLand_any _ W H _ X HV.out
  by_cases hL : isLand W H X = true
  · rw [hL] at hs
    have HS := Lib.hid hs
    have HL := Lib.hid hL
    clear hs hL
    go_enter Try.func115, Try.ntmps115
    go_wp2_with fail
    refine HS.out.mono ?_
    rintro e w2 ⟨rfl, hg⟩
    have HG2 := Lib.hid (grownN_trans HG.out hg)
    obtain ⟨d0, d1, d2⟩ := (HB.out.grown hg).three
    clear hg
    go_wp2_with fail
    refine (inRange_any n 0 ((X.length : Int) - 1) _).mono ?_
    rintro e w3 ⟨rfl, rfl⟩
    go_wp2
    go_ret
    refine ⟨ret_bool ?_, HG2.out⟩
    simp [isCell, HL.out]
  · have hL2 : isLand W H X = false := by simpa using hL
    rw [hL2] at hs
    have HS := Lib.hid hs
    have HL := Lib.hid hL2
    clear hs hL hL2
    go_enter Try.func115, Try.ntmps115
    go_wp2_with fail
    refine HS.out.mono ?_
    rintro e w2 ⟨rfl, hg⟩
    have HG2 := Lib.hid (grownN_trans HG.out hg)
    clear hg
    go_wp2
    go_ret
    refine ⟨ret_bool ?_, HG2.out⟩
    simp [isCell, HL.out]

set_option maxHeartbeats 400000 in
theorem isOpen_any (w : World) (W H n : Int) (v : Value) (X : List Int) (hv : Sees .i64 w v X) :
    Calls Try.prog 91 #[.agg #[.int .i64 W, .int .i64 H, v], .int .i64 n] w fun e w' => e = .returned (.bool (isOpen W H X n)) ∧ w.grownBy w' none := by
  have hl := hv.len
  have hgr := World.grownBy_alloc w (.cells #[.int .i64 W, .int .i64 H, v] 29 (0, 0)) none
  have HG := Lib.hid hgr
  have HV := Lib.hid (hv.grown hgr)
  have HB := Lib.hid (box_new w #[.int .i64 W, .int .i64 H, v] 29)
  obtain ⟨c0, c1, c2⟩ := HB.out.three
  obtain ⟨a, cap, rfl, _⟩ := hv
  clear hgr
  have hs := isCell_any _ W H n _ X HV.out
  by_cases hC : isCell W H X n = true
  · rw [hC] at hs
    obtain ⟨hL, h0, h1⟩ := isCell_of hC
    obtain ⟨m, rfl⟩ : ∃ m : Nat, n = m := ⟨n.toNat, by omega⟩
    have hm : m < X.length := by omega
    obtain ⟨x, hx⟩ : ∃ x, x = X.getD m 0 := ⟨_, rfl⟩
    have HX := Lib.hid hx
    have HS := Lib.hid hs
    have HC := Lib.hid hC
    clear hs hC hL hx
    go_enter Try.func91, Try.ntmps91
    go_wp2_with fail
    refine HS.out.mono ?_
    rintro e w2 ⟨rfl, hg⟩
    have HG2 := Lib.hid (grownN_trans HG.out hg)
    obtain ⟨d0, d1, d2⟩ := (HB.out.grown hg).three
    obtain ⟨b, o, rfl, hcj⟩ := (HV.out.grown hg).at_row hm
    rw [← HX.out] at hcj
    clear hg
    go_wp2
    go_ret
    refine ⟨ret_bool ?_, HG2.out⟩
    simp only [isOpen, HC.out, HX.out, Bool.true_and, Int.toNat_natCast]
    rw [Bool.eq_iff_iff]
    simp
  · have hC2 : isCell W H X n = false := by simpa using hC
    rw [hC2] at hs
    have HS := Lib.hid hs
    have HC := Lib.hid hC2
    clear hs hC hC2
    go_enter Try.func91, Try.ntmps91
    go_wp2_with fail
    refine HS.out.mono ?_
    rintro e w2 ⟨rfl, hg⟩
    have HG2 := Lib.hid (grownN_trans HG.out hg)
    clear hg
    go_wp2
    go_ret
    refine ⟨ret_bool ?_, HG2.out⟩
    simp [isOpen, HC.out]
end Go.Proofs.Ytbpiojnehomljaa.LandI

namespace Go.Proofs.Ytbpiojnehomljaa.GrI
open Go.RowKit Kit Rw Ld Gr

theorem gcells_set {p : Nat} {g : List Int} {s : Nat} {x : Int} : (gcells p g).setIfInBounds (1 + s) (.int .u8 x) = gcells p (g.set s x) := by
  rw [show 1 + s = s + 1 by omega]
  simp [gcells, List.map_set]
theorem gcells_one (p : Nat) (g : List Int) : (gcells p g).all (·.oneCell') = true := by
  rw [Array.all_eq_true_iff_forall_mem]
  intro v hv
  simp only [gcells, List.mem_toArray, List.mem_cons, List.mem_map] at hv
  rcases hv with rfl | ⟨x, _, rfl⟩ <;> rfl
theorem grid_info : (Try.prog.info? 144).map (fun i => (i.zero, i.size)) = some (some (.agg (gcells 0 (List.replicate 100 0))), 101) := by kernel_rfl
theorem grid_built (p : Nat) : Try.prog.built 144 [(0, .int .i64 (p : Int))] = some (gcells p (List.replicate 100 0)) := by kernel_rfl
theorem grid_size {cs : Array Value} (h : cs.size = 101) : (Try.prog.info? 144).map (·.size) = some cs.size := by rw [h]; exact (zero_of_info grid_info).2

/-- .. and into one. -/
theorem Box.stores {w : World} {b : Nat} {cs cs' : Array Value} {T : TypeId} (h : Box w b cs T) (hn : cs.size = cs'.size) (h1 : cs'.all (·.oneCell') = true) : (storeCells ⟨b, 0, none⟩ cs'.toList 0).run Try.prog w = .ok () (w.setRow b cs') := by
  have := run_storeCells_from (P := Try.prog) b T cs'.toList 0 cs w h (by simpa using hn.symm) (fun v hv => (Array.all_eq_true_iff_forall_mem.1 h1) v (by simpa using hv))
  simpa using this
theorem rep_set {j : Nat} (hj : j < 100) : (List.replicate j (2 : Int) ++ List.replicate (100 - j) 0).set j 2 = List.replicate (j + 1) 2 ++ List.replicate (100 - (j + 1)) 0 := by
  obtain ⟨k, hk⟩ : ∃ k, 100 - j = k + 1 := ⟨99 - j, by omega⟩
  rw [hk, show 100 - (j + 1) = k by omega, List.set_append, List.length_replicate, if_neg (by omega), Nat.sub_self, List.replicate_succ (n := k), List.set_cons_zero, List.replicate_succ' (n := j), List.append_assoc]
  rfl
/-- Where gridOf stands. -/
structure GS (w wr : World) (p : Nat) (H : Int) (v : Value) (X g : List Int) : Prop where
  land : Box wr w.heap.size #[.int .i64 (p : Int), .int .i64 H, v] 29
  res : Box wr (w.heap.size + 1) (gcells 0 (List.replicate 100 0)) 144
  grid : Box wr (w.heap.size + 2) (gcells p g) 144
  row : Sees .i64 wr v X
  grown : w.grownBy wr none
theorem GS.on {w wr wy : World} {p : Nat} {H : Int} {v : Value} {X g : List Int} (h : GS w wr p H v X g) (hg : wr.grownBy wy none) : GS w wy p H v X g :=
  ⟨h.land.grown hg, h.res.grown hg, h.grid.grown hg, h.row.grown hg, grownN_trans h.grown hg⟩
theorem GS.set {w wr : World} {p : Nat} {H : Int} {v : Value} {X g : List Int} (h : GS w wr p H v X g) (hv : Sees .i64 w v X) (hn : X ≠ []) (s : Nat) (x : Int) : GS w (wr.setCell ⟨w.heap.size + 2, 1 + s, none⟩ (.int .u8 x)) p H v X (g.set s x) := by
  have hk := grown_set wr (w.heap.size + 2) (1 + s) (.int .u8 x)
  refine ⟨h.land.kept hk (by simp), h.res.kept hk (by simp), ?_, ?_, ?_⟩
  · have := box_set h.grid (1 + s) (.int .u8 x); rwa [gcells_set] at this
  · refine h.row.kept hk ?_
    obtain ⟨a, cap, rfl, _, _, _, _, hc⟩ := hv
    rcases hc with h0 | ⟨b, o, rfl, hc⟩
    · exact absurd h0 hn
    · have := World.block_lt_of_cell? w _ (hc 0 (List.length_pos_iff.2 hn))
      exact .inr (by simp [Value.ownBlock]; simp only at this; omega)
  · exact grown_new h.grown hk (fun c hc => by injection hc with hc; omega)

set_option maxRecDepth 100000 in
set_option maxHeartbeats 4000000 in
theorem gridOf_any (w : World) (p : Nat) (H : Int) (v : Value) (X : List Int) (hv : Sees .i64 w v X) (hL : isLand p H X = true) :
    Calls Try.prog 129 #[.agg #[.int .i64 (p : Int), .int .i64 H, v]] w fun e w' => e = .returned (.agg (gcells p (grid p X))) ∧ w.grownBy w' none := by
  obtain ⟨hp, hH, hLen, hX⟩ := isLand_of hL
  have hA := area hp hH
  obtain ⟨h, rfl⟩ : ∃ h : Nat, H = h := ⟨H.toNat, by omega⟩
  have hxl : X.length = p * h := by exact_mod_cast hLen
  have hx1 : 1 ≤ X.length := by omega
  have hx64 : X.length ≤ 64 := by omega
  have hne : X ≠ [] := fun e => by rw [e] at hx1; simp at hx1
  obtain ⟨a, n, cap, hvv, HN⟩ := hv.shape
  subst hvv
  have hn64 : n ≤ 64 := by rw [← HN.out]; exact hx64
  have HV := Lib.hid hv
  have HV0 := Lib.hid hv
  have HX := Lib.hid hX
  have HP : Hid ((1 ≤ p ∧ p ≤ 8) ∧ h ≤ 8 ∧ X.length = p * h ∧ X ≠ []) := ⟨by omega, by omega, hxl, hne⟩
  have hgr := World.grownBy_alloc w (.cells #[.int .i64 (p : Int), .int .i64 (h : Int), .slice a n cap] 29 (0, 0)) none
  obtain ⟨zc, hzc⟩ : ∃ zc, zc = gcells 0 (List.replicate 100 0) := ⟨_, rfl⟩
  have hz59 : ∀ w, (zeroValue 144).run Try.prog w = .ok (.agg zc) w := by rw [hzc]; exact (zero_of_info grid_info).1
  have hzs : zc.size = 101 := by rw [hzc]; rfl
  have hzn : ¬ zc = #[] := fun e => by rw [e] at hzs; simp at hzs
  have HZC := Lib.hid hzc
  have HZ1 : Hid (zc.setIfInBounds 0 (.int .i64 (p : Int)) = gcells p (List.replicate 100 0)) := by show _ = _; rw [hzc]; rfl
  clear hv hL hp hH hLen hA hX hne hxl hx1 hx64 hzc
  have HC := Lib.hid (box_new w #[.int .i64 (p : Int), .int .i64 (h : Int), .slice a n cap] 29)
  go_enter Try.func129, Try.ntmps129
  go_upto_region 1 with (fail)
  have hg2 := World.grownBy_alloc (w.alloc (.cells #[.int .i64 (p : Int), .int .i64 (h : Int), .slice a n cap] 29 (0, 0))) (.cells zc 144 (0, 0)) none
  have HR := Lib.hid (box_new (w.alloc (.cells #[.int .i64 (p : Int), .int .i64 (h : Int), .slice a n cap] 29 (0, 0))) zc 144)
  have HC := Lib.hid (HC.out.grown hg2)
  have HV := Lib.hid (HV.out.grown (grownN_trans hgr hg2))
  have HG := Lib.hid (grownN_trans hgr hg2)
  have HS : Hid (((w.alloc (.cells #[.int .i64 (p : Int), .int .i64 (h : Int), .slice a n cap] 29 (0, 0))).alloc (.cells zc 144 (0, 0))).heap.size = w.heap.size + 2) := by show _ = _; simp
  clear hg2 hgr
  generalize (w.alloc (.cells #[.int .i64 (p : Int), .int .i64 (h : Int), .slice a n cap] 29 (0, 0))).alloc (.cells zc 144 (0, 0)) = W2 at *
  have hst := run_storeCells_new (P := Try.prog) W2 144 zc (zc.setIfInBounds 0 (.int .i64 (p : Int))) (grid_size (by simp [hzs])) (by simp) (by rw [HZ1.out]; exact gcells_one _ _)
  simp only [Array.toList_setIfInBounds] at hst
  obtain ⟨c0, c1, c2⟩ := HC.out.three
  go_wp2_with fail
  have hga := World.grownBy_alloc W2 (.cells (zc.setIfInBounds 0 (.int .i64 (p : Int))) 144 (0, 0)) none
  have hbn := box_new W2 (zc.setIfInBounds 0 (.int .i64 (p : Int))) 144
  rw [HS.out, HZ1.out] at hbn
  rw [HZ1.out] at hga
  have hr : Box W2 (w.heap.size + 1) zc 144 := by have := HR.out; rwa [World.size_alloc] at this
  rw [HZC.out] at hr
  have HQ : Hid (GS w (W2.alloc (.cells (gcells p (List.replicate 100 0)) 144 (0, 0))) p h (.slice a n cap) X (List.replicate 100 0)) :=
    ⟨HC.out.grown hga, hr.grown hga, hbn, HV.out.grown hga, grownN_trans HG.out hga⟩
  rw [HZ1.out, HS.out]
  generalize W2.alloc (.cells (gcells p (List.replicate 100 0)) 144 (0, 0)) = W3 at *
  generalize hg0 : gcells p (List.replicate 100 0) = g0
  clear hg0 hga hbn hr hst c0 c1 c2 HC HR HG HS HZ1 hzs hzn hz59 HZC HV
  go_loopw [10] (fun i wr => ∃ j : Nat, j ≤ 100 ∧ i = .int .i64 j ∧ Hid (GS w wr p h (.slice a n cap) X (List.replicate j 2 ++ List.replicate (100 - j) 0))) (fun i _ => 100 - (intOf i).toNat)
  case atStart => exact ⟨0, Nat.zero_le _, rfl, by show GS _ _ _ _ _ _ _; simpa using HQ.out⟩
  case round =>
    obtain ⟨j, hj, rfl, HQ1⟩ := hrel
    by_cases hlt : j < 100
    · have c1 : wr.cell? ⟨w.heap.size + 2, 1 + j, none⟩ = some (.int .u8 ((List.replicate j 2 ++ List.replicate (100 - j) 0 : List Int).getD j 0)) := by rw [HQ1.out.grid.cell]; exact gcells_s (by simp; omega) hlt
      have f1 := HQ1.out.grid.free (1 + j)
      go_wp2_with fail
      go_roundw
      case rel =>
        refine ⟨j + 1, by omega, by go_num, ?_⟩
        have := HQ1.out.set HV0.out HP.out.2.2.2 j 2
        rwa [rep_set hlt] at this
      case measure => simp [intOf]; omega
    · have hq0 : GS w wr p h (.slice a n cap) X (gridTo p X 0) := by
        have := HQ1.out
        rw [show j = 100 by omega] at this
        simpa [gridTo] using this
      obtain ⟨c0, c1, c2⟩ := hq0.land.three
      have HQ2 := Lib.hid hq0
      clear hq0 HQ1
      go_wp2_with fail
      go_loopw [20] (fun i wr => ∃ j : Nat, j ≤ n ∧ i = .int .i64 j ∧ Hid (GS w wr p h (.slice a n cap) X (gridTo p X j))) (fun i _ => n - (intOf i).toNat)
      case atStart => exact ⟨0, Nat.zero_le _, rfl, HQ2.out⟩
      case round =>
        obtain ⟨j, hj, rfl, HQ3⟩ := hrel
        by_cases hlt : j < n
        · have hjx : j < X.length := by rw [HN.out]; exact hlt
          obtain ⟨x, hx⟩ : ∃ x, x = X.getD j 0 := ⟨_, rfl⟩
          have hxb := HX.out x (by rw [hx]; exact mem_getD hjx)
          obtain ⟨b, o, rfl, hcj⟩ := HQ3.out.row.at_row hjx
          rw [← hx] at hcj
          have HXX := Lib.hid hx
          obtain ⟨hx0, hx2⟩ := hxb
          have hw8 : IntKind.u8.wrap x = x := by unfold IntKind.wrap; simp [IntKind.bits, IntKind.signed]; omega
          clear hx
          obtain ⟨cs, hcs⟩ : ∃ cs, cs = gcells p (gridTo p X j) := ⟨_, rfl⟩
          have hsz : cs.size = 101 := by rw [hcs]; exact gcells_size (gridTo_len _ _ _)
          have HBX : Hid (Box wr (w.heap.size + 2) cs 144) := by rw [hcs]; exact HQ3.out.grid
          have HCS := Lib.hid hcs
          clear hcs
          go_wp2_with (refine wpList_load_part rfl 144 _ rfl (w.heap.size + 2) 0 rfl cs _ HBX.out.part Try.underlying144 rfl (grid_size hsz) ?_)
          refine (squareOf_any wr p j cs HP.out.1 (by omega) (by rw [HCS.out]; rfl)).mono ?_
          rintro e w2 ⟨rfl, hg⟩
          have HQ4 := Lib.hid (HQ3.out.on hg)
          have hb := sq_lt HP.out.1 HP.out.2.1 (show j < p * h by rw [← HP.out.2.2.1]; exact hjx)
          obtain ⟨s, hs⟩ : ∃ s, s = sq p j := ⟨_, rfl⟩
          rw [← hs] at hb ⊢
          have hs100 : s < 100 := by omega
          have HSS := Lib.hid hs
          have d1 : w2.cell? ⟨w.heap.size + 2, 1 + s, none⟩ = some (.int .u8 ((gridTo p X j).getD s 0)) := by rw [HQ4.out.grid.cell]; exact gcells_s (gridTo_len _ _ _) hs100
          have f1 := HQ4.out.grid.free (1 + s)
          clear hg hcj hs hb
          go_wp2_with fail
          go_roundw
          case rel =>
            refine ⟨j + 1, by omega, by go_num, ?_⟩
            have := HQ4.out.set HV0.out HP.out.2.2.2 s x
            rwa [show (gridTo p X j).set s x = gridTo p X (j + 1) by rw [HXX.out, HSS.out]; rfl] at this
          case measure => simp [intOf]; omega
        · have hjn : j = n := by omega
          subst hjn
          have HQ4 : Hid (GS w wr p h (.slice a X.length cap) X (grid p X)) := by have := HQ3.out; rw [← HN.out] at this; exact this
          obtain ⟨cs, hcs⟩ : ∃ cs, cs = gcells p (grid p X) := ⟨_, rfl⟩
          have hsz : cs.size = 101 := by rw [hcs]; exact gcells_size (grid_len _ _)
          have h1c : cs.all (·.oneCell') = true := by rw [hcs]; exact gcells_one _ _
          have HBX : Hid (Box wr (w.heap.size + 2) cs 144) := by rw [hcs]; exact HQ4.out.grid
          have hst := Box.stores (cs' := cs) HQ4.out.res (by rw [hsz]; rfl) h1c
          have HCS := Lib.hid hcs
          clear hcs h1c
          go_wp2_with (refine wpList_load_part rfl 144 _ rfl (w.heap.size + 2) 0 rfl cs _ HBX.out.part Try.underlying144 rfl (grid_size hsz) ?_)
          have hr := box_setRow (cs' := cs) HQ4.out.res
          have hk := grown_setRow wr (w.heap.size + 1) cs
          have hgw : w.grownBy (wr.setRow (w.heap.size + 1) cs) none := grown_new HQ4.out.grown hk (fun c hc => by injection hc with hc; omega)
          refine bodyPost_ret (v := .agg cs) (results_cell_row rfl _ _ (w.heap.size + 1) _ cs (0, 0) _ rfl hr Try.underlying144 rfl (grid_size hsz)) rfl ⟨by rw [HCS.out], hgw⟩
end Go.Proofs.Ytbpiojnehomljaa.GrI

namespace Go.Proofs.Ytbpiojnehomljaa.GrI
open Go.RowKit Kit Rw Ld Gr

theorem info_sq : (Try.prog.info? 150).map (fun i => (i.zero, i.size, i.bytes)) = some (some (.int .i64 0), 1, 8) := by kernel_rfl
/-- The first j sides' open squares. -/
def nsqTo (g : List Int) (s : Nat) : Nat → List Nat
  | 0 => []
  | j + 1 => nsqTo g s j ++ side1 g (beside j s)
theorem nsqTo_4 (g : List Int) (s : Nat) : nsqTo g s 4 = nsq g s := by simp [nsqTo, nsq, beside]
theorem nsqTo_len (g : List Int) (s : Nat) : ∀ j, (nsqTo g s j).length ≤ j
  | 0 => by simp [nsqTo]
  | j + 1 => by
    have := nsqTo_len g s j
    have : (side1 g (beside j s)).length ≤ 1 := by unfold side1; split <;> simp
    simp only [nsqTo, List.length_append]; omega
def ints (L : List Nat) : List Int := L.map (fun t : Nat => (t : Int))
/-- The functions of the sides, by number. -/
def fnOf (j : Nat) : Nat := if j = 0 then 138 else if j = 1 then 139 else if j = 2 then 140 else 141
theorem side_any (w : World) (j s : Nat) (hj : j < 4) (h10 : 10 ≤ s) (hs : s < 100) : Calls Try.prog (fnOf j) #[.int .i64 (s : Int)] w fun e w' => e = .returned (.int .i64 ((beside j s : Nat) : Int)) ∧ w = w' := by
  obtain rfl | rfl | rfl | rfl : j = 0 ∨ j = 1 ∨ j = 2 ∨ j = 3 := by omega
  · exact above_any w s h10 hs
  · exact left_any w s h10 hs
  · exact right_any w s h10 hs
  · exact below_any w s h10 hs
def fns : Array Value := #[.func (.func 138) #[] #[], .func (.func 139) #[] #[], .func (.func 140) #[] #[], .func (.func 141) #[] #[]]
theorem sides_any (w : World) :
    Calls Try.prog 137 #[] w fun e w' => e = .returned (.slice (some ⟨w.heap.size, 0, none⟩) 4 4) ∧ w' = w.alloc (.cells fns 165 (0, 0)) := by
  go_enter Try.func137, Try.ntmps137
  go_wp2
  go_ret
  exact ⟨rfl, rfl⟩

theorem run_callFunc_go {P : Program} {f : FuncId} {fn : Func} (hf : P.funcs[f]? = some fn) (hname : (fn.name == "runtime.NumGoroutine") = false) (hb : fn.body.isNone = false) (args : Array Value) (w : World) : (callFunc f args).run P w = .ok (.enter f args) w := by
  have h1 : fn.name ≠ "runtime.NumGoroutine" := by simpa using hname
  have h2 : ¬ fn.body = none := by intro e; rw [e] at hb; simp at hb
  simp [callFunc, hf, h1, h2]
theorem fn_enters {j : Nat} (hj : j < 4) (args : Array Value) (w : World) : (callFunc (fnOf j) args).run Try.prog w = .ok (.enter (fnOf j) args) w := by
  obtain rfl | rfl | rfl | rfl : j = 0 ∨ j = 1 ∨ j = 2 ∨ j = 3 := by omega
  · exact run_callFunc_go Try.func138 (by kernel_rfl) (by kernel_rfl) args w
  · exact run_callFunc_go Try.func139 (by kernel_rfl) (by kernel_rfl) args w
  · exact run_callFunc_go Try.func140 (by kernel_rfl) (by kernel_rfl) args w
  · exact run_callFunc_go Try.func141 (by kernel_rfl) (by kernel_rfl) args w
/-- Where near stands. -/
structure NS (w wr : World) (cs : Array Value) (v : Value) (L : List Nat) : Prop where
  own : Own .i64 150 wr (w.heap.size + 1) v (ints L)
  grid : Box wr w.heap.size cs 144
  fns : Box wr (w.heap.size + 2) fns 165
  off : v.ownBlock ≠ some (w.heap.size + 2)
  grown : w.grownBy wr none
theorem NS.more {w wx wy : World} {cs : Array Value} {v v' : Value} {L M : List Nat} (h : NS w wx cs v L) (ho : Own .i64 150 wy (w.heap.size + 1) v' (ints M)) (hg : wx.grownBy wy v.ownBlock) (hl : v'.ownBlock = v.ownBlock ∨ ∃ g, v'.ownBlock = some g ∧ wx.heap.size ≤ g) : NS w wy cs v' M := by
  refine ⟨ho, h.grid.kept hg (h.own.off (Nat.lt_succ_self _)), h.fns.kept hg h.off, ?_, grown_new h.grown hg (fun c hc => by have := h.own.lt c hc; omega)⟩
  rcases hl with hl | ⟨g, hl, hle⟩
  · rw [hl]; exact h.off
  · rw [hl]; have := h.fns.lt; intro e; injection e with e; omega

set_option maxRecDepth 100000 in
set_option maxHeartbeats 4000000 in
theorem gnear_any (w : World) (p s : Nat) (cs : Array Value) (g : List Int) (hcs : cs = gcells p g) (hg : g.length = 100) (hs1 : 11 ≤ s) (hs8 : s ≤ 88) :
    Calls Try.prog 132 #[.agg cs, .int .i64 (s : Int)] w fun e w' => ∃ u, e = .returned u ∧ Own .i64 150 w' w.heap.size u (ints (nsq g s)) ∧ w.grownBy w' none := by
  have hgr := World.grownBy_alloc w (.cells cs 144 (0, 0)) none
  have hg2 := World.grownBy_alloc (w.alloc (.cells cs 144 (0, 0))) (.cells #[] 150 (0, 0)) none
  have hg3 := World.grownBy_alloc ((w.alloc (.cells cs 144 (0, 0))).alloc (.cells #[] 150 (0, 0))) (.cells fns 165 (0, 0)) none
  have ho := (own_empty (k := .i64) (E := 150) (w.alloc (.cells cs 144 (0, 0)))).grown hg3
  have hf := box_new ((w.alloc (.cells cs 144 (0, 0))).alloc (.cells #[] 150 (0, 0))) fns 165
  simp only [World.size_alloc] at ho hf
  have hq : NS w (((w.alloc (.cells cs 144 (0, 0))).alloc (.cells #[] 150 (0, 0))).alloc (.cells fns 165 (0, 0))) cs (.slice (some ⟨w.heap.size + 1, 0, none⟩) 0 0) [] :=
    ⟨ho, ((box_new w cs 144).grown hg2).grown hg3, hf, by simp [Value.ownBlock], grownN_trans hgr (grownN_trans hg2 hg3)⟩
  have HQ := Lib.hid hq
  have HCS := Lib.hid hcs
  have HGL := Lib.hid hg
  obtain ⟨i0, hi, hz0, hz1, hz2⟩ := info_parts info_sq
  clear hgr hg2 hg3 ho hf hq hcs hg
  go_enter Try.func132, Try.ntmps132
  go_wp2_with fail
  refine (sides_any _).mono ?_
  rintro e w' ⟨rfl, rfl⟩
  simp only [World.size_alloc]
  generalize ((w.alloc (.cells cs 144 (0, 0))).alloc (.cells #[] 150 (0, 0))).alloc (.cells fns 165 (0, 0)) = W1 at *
  go_wp2_with fail
  go_loopw [5, 12] (fun v i wr => ∃ j : Nat, j ≤ 4 ∧ i = .int .i64 j ∧ Hid (NS w wr cs v (nsqTo g s j))) (fun _ i _ => 4 - (intOf i).toNat)
  case atStart => exact ⟨0, by omega, rfl, HQ.out⟩
  case round =>
    obtain ⟨j, hj, rfl, HN⟩ := hrel
    by_cases hlt : j < 4
    · obtain ⟨t, ht⟩ : ∃ t, t = beside j s := ⟨_, rfl⟩
      have ht99 : t ≤ 99 := by rw [ht]; unfold beside; split <;> (try split) <;> (try split) <;> omega
      obtain ⟨x, hx⟩ : ∃ x, x = g.getD t 0 := ⟨_, rfl⟩
      have cg : wr.cell? ⟨w.heap.size, 1 + t, none⟩ = some (.int .u8 x) := by rw [HN.out.grid.cell, HCS.out, hx]; exact gcells_s HGL.out (by omega)
      have hbase : w.heap.size + 1 ≤ wr.heap.size := HN.out.grid.lt
      have hxl : (ints (nsqTo g s j)).length ≤ 4 := by have := nsqTo_len g s j; simp [ints]; omega
      have hone : x ≠ 2 → ints (nsqTo g s j) ++ [(t : Int)] = ints (nsqTo g s (j + 1)) := fun h => by
        simp only [nsqTo, ints, List.map_append]; congr 1; unfold side1 opn; rw [← ht, ← hx, if_pos (by simpa using h)]; rfl
      have hnone : x = 2 → nsqTo g s j = nsqTo g s (j + 1) := fun h => by
        simp only [nsqTo]; unfold side1 opn; rw [← ht, ← hx, if_neg (by simpa using h)]; simp
      have HT := Lib.hid ht
      have H1 := Lib.hid hone
      obtain ⟨f, hf⟩ : ∃ f, f = fnOf j := ⟨_, rfl⟩
      have cf : wr.cell? ⟨w.heap.size + 2, j, none⟩ = some (.func (.func f) #[] #[]) := by
        rw [HN.out.fns.cell, hf]
        obtain rfl | rfl | rfl | rfl : j = 0 ∨ j = 1 ∨ j = 2 ∨ j = 3 := by omega
        · rfl
        · rfl
        · rfl
        · rfl
      have hen : (callFunc f #[.int .i64 (s : Int)]).run Try.prog wr = .ok (.enter f #[.int .i64 (s : Int)]) wr := by rw [hf]; exact fn_enters hlt _ _
      have HF := Lib.hid hf
      clear ht hx hone hf
      go_wp2_with fail
      rw [HF.out]
      refine (side_any wr j s hlt (by omega) (by omega)).mono ?_
      rintro e w2 ⟨rfl, rfl⟩
      rw [← HF.out, ← HT.out]
      by_cases hx2 : x = 2
      · have H0 : Hid (NS w wr cs u5 (nsqTo g s (j + 1))) := by have := HN.out; rwa [hnone hx2] at this
        clear hnone
        subst hx2
        go_wp2_with fail
        go_roundw
        case rel => exact ⟨j + 1, by omega, by go_num, H0.out⟩
        case measure => simp [intOf]; omega
      · clear hnone
        have hxb : (x == 2) = false := by simpa using hx2
        have H1 := Lib.hid (H1.out hx2)
        go_wp2_with (at_builtin; go_loud (refine wpList_append_one_at _ rfl _ _ 146 rfl (w.heap.size + 1) 150 i0 (.int .i64 0) 8 Try.underlying146 hi hz0 hz1 hz2 rfl .i64 _ (ints (nsqTo g s j)) rfl HN.out.own (t : Int) rfl (i64_mk (by omega)) (by omega) (by decide) hbase ?_); intro v3 w3 hown3 hgrow3 hpl3; have HN2 := Lib.hid (HN.out.more (M := nsqTo g s (j + 1)) (by rw [← H1.out]; exact hown3) hgrow3 hpl3); clear hown3 hgrow3 hpl3)
        go_roundw
        case rel => exact ⟨j + 1, by omega, by go_num, HN2⟩
        case measure => simp [intOf]; omega
    · have hj4 : j = 4 := by omega
      have HN2 : Hid (NS w wr cs u5 (nsq g s)) := by have := HN.out; rwa [hj4, nsqTo_4] at this
      go_wp2_with fail
      go_ret
      exact ⟨_, rfl, HN2.out.own.lower (by omega), HN2.out.grown⟩
end Go.Proofs.Ytbpiojnehomljaa.GrI
