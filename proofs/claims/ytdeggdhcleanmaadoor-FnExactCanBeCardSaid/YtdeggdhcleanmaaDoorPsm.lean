/- Contracts of where one can be and of what is seen: the model's. -/
import Derived.Test.YtdeggdhcleanmaaDoorPch
import Derived.Test.YtdeggdhcleanmaaDoorWayS
import Derived.Test.YtdeggdhcleanmaaDoorApartS
import Derived.Test.YtdeggdhcleanmaaDoorLandS
import Derived.Deep.RegionHeld3
import Derived.IntWalk
import Derived.WalkKit
import Derived.OwnWalk
namespace Go.Proofs.YtdeggdhcleanmaaDoor.Pc
open Go.RowKit Kit Rw Ld Bfs Wf

theorem info_intS : (Tryd.prog.info? 3).map (fun i => (i.zero, i.size, i.bytes)) = some (some (.int .i64 0), 1, 8) := by kernel_rfl
structure PS (w wr : World) (W H : Int) (v u : Value) (L : List Int) : Prop where
  box : Box wr w.heap.size #[.int .i64 W, .int .i64 H, v] 37
  own : Own .i64 3 wr (w.heap.size + 1) u L
  grown : w.grownBy wr none
section
variable {w wr wy : World} {W H : Int} {v u u' : Value} {L L' : List Int}
theorem PS.on (h : PS w wr W H v u L) (hg : wr.grownBy wy none) : PS w wy W H v u L := ⟨h.box.grown hg, h.own.grown hg, grownN_trans h.grown hg⟩
theorem PS.more (h : PS w wr W H v u L) (ho : Own .i64 3 wy (w.heap.size + 1) u' L') (hg : wr.grownBy wy u.ownBlock) : PS w wy W H v u' L' :=
  ⟨h.box.kept hg (h.own.off (Nat.lt_succ_self _)), ho, grown_new h.grown hg (fun c hc => by have := h.own.lt c hc; omega)⟩
theorem PS.start (w : World) (W H : Int) (v : Value) : PS w ((w.alloc (.cells #[.int .i64 W, .int .i64 H, v] 37 (0, 0))).alloc (.cells #[] 3 (0, 0))) W H v (.slice (some ⟨w.heap.size + 1, 0, none⟩) 0 0) [] :=
  ⟨(box_new w #[.int .i64 W, .int .i64 H, v] 37).grown (World.grownBy_alloc _ _ _), by have := own_empty (k := .i64) (E := 3) (w.alloc (.cells #[.int .i64 W, .int .i64 H, v] 37 (0, 0))); simpa using this, grownN_trans (World.grownBy_alloc _ _ _) (World.grownBy_alloc _ _ _)⟩
theorem PS.cells (h : PS w wr W H v u L) : wr.cell? ⟨w.heap.size, 0, none⟩ = some (.int .i64 W) ∧ wr.cell? ⟨w.heap.size, 1, none⟩ = some (.int .i64 H) ∧ wr.cell? ⟨w.heap.size, 2, none⟩ = some v := ⟨h.box.cell 0, h.box.cell 1, h.box.cell 2⟩
end
theorem seenTo_next (W H : Int) (X : List Int) (m f : Int) (k : Nat) : seenTo W H X m f (k + 1) = seenTo W H X m f k ++ (if seesB W H X m f k = true then [(k : Int)] else []) := filt_next _ _
theorem canBeTo_next (W H : Int) (X F : List Int) (s : Int) (k : Nat) : canBeTo W H X F s (k + 1) = canBeTo W H X F s k ++ (if withinB W H X F s k = true then [(k : Int)] else []) := filt_next _ _
noncomputable def anyTo (W H : Int) (X F : List Int) (s : Int) (k j : Nat) : Bool := (List.range j).any fun i => decide (0 ≤ daysOf W H X (F.getD i 0) k ∧ daysOf W H X (F.getD i 0) k ≤ s)
theorem anyTo_next (W H : Int) (X F : List Int) (s : Int) (k j : Nat) : anyTo W H X F s k (j + 1) = (anyTo W H X F s k j || decide (0 ≤ daysOf W H X (F.getD j 0) k ∧ daysOf W H X (F.getD j 0) k ≤ s)) := by
  unfold anyTo; rw [List.range_succ, List.any_append]; simp
theorem anyTo_all (W H : Int) (X F : List Int) (s : Int) (k : Nat) : anyTo W H X F s k F.length = withinB W H X F s k := by
  unfold anyTo withinB
  rw [Bool.eq_iff_iff, List.any_eq_true, List.any_eq_true]
  constructor
  · rintro ⟨i, hi, h⟩
    rw [List.mem_range] at hi
    exact ⟨F.getD i 0, by rw [List.getD_eq_getElem?_getD, List.getElem?_eq_getElem hi]; exact List.getElem_mem hi, h⟩
  · rintro ⟨f, hf, h⟩
    obtain ⟨i, hi, rfl⟩ := List.getElem_of_mem hf
    exact ⟨i, List.mem_range.2 hi, by rw [List.getD_eq_getElem?_getD, List.getElem?_eq_getElem hi]; exact h⟩
theorem within_closed {W H : Int} {X F : List Int} {s : Int} {k : Nat} (h : isOpen W H X k = false) : withinB W H X F s k = false := by
  unfold withinB
  rw [List.any_eq_false]
  intro f hf
  simp only [decide_eq_true_eq]
  rintro ⟨h0, _⟩
  have := (days_at h0).2.1
  rw [h] at this
  cases this

set_option maxRecDepth 20000 in
set_option maxHeartbeats 8000000 in
theorem sSeen_any (w : World) (W H m f : Int) (v : Value) (X : List Int) (hv : Sees .i64 w v X) (hn : X.length ≤ 1000000000) :
    Calls Tryd.prog 28 #[.agg #[.int .i64 W, .int .i64 H, v], .int .i64 m, .int .i64 f] w fun e w' => ∃ r, e = .returned r ∧ Own .i64 3 w' w.heap.size r (seen W H X m f) ∧ w.grownBy w' none := by
  obtain ⟨i0, hi, hz0, hz1, hz2⟩ := info_parts info_intS
  obtain ⟨va, vn, vc, rfl, HVN⟩ := hv.shape
  have hvn : vn ≤ 1000000000 := by rw [← HVN.out]; exact hn
  have HN := Lib.hid hvn
  have HS0 := Lib.hid (PS.start w W H (.slice va vn vc))
  have HCE := Lib.hid fun w' (hg : w.grownBy w' none) => LandS.sIsCell_any w' W H m (.slice va vn vc) X (hv.grown hg)
  have HOP := Lib.hid fun w' (k : Nat) (hg : w.grownBy w' none) => LandS.sIsOpen_any w' W H k (.slice va vn vc) X (hv.grown hg)
  have HAP := Lib.hid fun w' (k : Nat) (hg : w.grownBy w' none) => LandS.sApart_any w' W H m k (.slice va vn vc) X (hv.grown hg)
  clear hv hn hvn
  have c := HS0.out.cells
  obtain ⟨c0, c1, c2⟩ := c
  go_enter Tryd.func28, Tryd.ntmps28
  go_wp2_with fail
  generalize (w.alloc (.cells #[.int .i64 W, .int .i64 H, .slice va vn vc] 37 (0, 0))).alloc (.cells #[] 3 (0, 0)) = W2 at *
  clear c0 c1 c2
  go_loopw [7, 8] (fun u i wr => ∃ k : Nat, k ≤ vn ∧ i = .int .i64 k ∧ (0 < k → isCell W H X m = true) ∧ Hid (PS w wr W H (.slice va vn vc) u (seenTo W H X m f k))) (fun _ i _ => vn - (intOf i).toNat)
  case atStart => exact ⟨0, Nat.zero_le _, rfl, fun h => absurd h (Nat.lt_irrefl _), HS0⟩
  case round =>
    obtain ⟨k, hk, rfl, hcl, HS⟩ := hrel
    obtain ⟨c0, c1, c2⟩ := HS.out.cells
    by_cases hlt : k < vn
    · cases hc : isCell W H X m
      · have hk0 : k = 0 := by
          by_cases h : 0 < k
          · rw [hcl h] at hc; cases hc
          · omega
        subst hk0
        have HR : Hid (seen W H X m f = []) := by show _ = _; unfold seen; rw [if_neg (by rw [hc]; decide)]
        rw [hc] at HCE
        clear hc hcl
        go_wp2_with fail
        refine (HCE.out _ HS.out.grown).mono ?_
        rintro e w3 ⟨rfl, hg⟩
        have HS3 := Lib.hid (HS.out.on hg)
        clear hg c0 c1 c2
        go_wp2
        go_ret
        exact ⟨_, rfl, by rw [HR.out]; exact HS3.out.own.lower (by omega), HS3.out.grown⟩
      · have HCL := Lib.hid hc
        have HCE2 := HCE
        rw [hc] at HCE2
        clear hc hcl
        have hvn := HN.out
        have HLEN := Lib.hid (show (seenTo W H X m f k).length ≤ k from filt_len _ _)
        have HOK := Lib.hid fun w' hg => HOP.out w' k hg
        have HAK := Lib.hid fun w' hg => HAP.out w' k hg
        cases ho : isOpen W H X k
        · have HNX : Hid (seenTo W H X m f (k + 1) = seenTo W H X m f k) := by show _ = _; rw [seenTo_next, if_neg, List.append_nil]; unfold seesB; rw [ho]; simp
          rw [ho] at HOK
          clear ho
          go_wp2_with fail
          refine (HCE2.out _ HS.out.grown).mono ?_
          rintro e w3 ⟨rfl, hg⟩
          have HS3 := Lib.hid (HS.out.on hg)
          clear hg c0 c1 c2
          obtain ⟨c0, c1, c2⟩ := HS3.out.cells
          go_wp2_with fail
          refine (HOK.out _ HS3.out.grown).mono ?_
          rintro e w4 ⟨rfl, hg⟩
          have HS4 := Lib.hid (HS3.out.on hg)
          clear hg c0 c1 c2
          go_wp2_with fail
          go_roundw
          case rel => exact ⟨k + 1, by omega, by go_num, fun _ => by first | exact HCL.out | trivial, by rw [HNX.out]; exact HS4⟩
          case measure => simp [intOf]; omega
        · rw [ho] at HOK
          obtain ⟨z, hz⟩ : ∃ z, z = apart W H X m k := ⟨_, rfl⟩
          rw [← hz] at HAK
          by_cases he : z = f
          · have heb : (z == f) = true := by rw [beq_iff_eq]; exact he
            have HNX : Hid (seenTo W H X m f (k + 1) = seenTo W H X m f k ++ [(k : Int)]) := by show _ = _; rw [seenTo_next, if_pos]; unfold seesB; rw [ho, ← hz, he]; simp
            clear ho hz he
            go_wp2_with fail
            refine (HCE2.out _ HS.out.grown).mono ?_
            rintro e w3 ⟨rfl, hg⟩
            have HS3 := Lib.hid (HS.out.on hg)
            clear hg c0 c1 c2
            obtain ⟨c0, c1, c2⟩ := HS3.out.cells
            go_wp2_with fail
            refine (HOK.out _ HS3.out.grown).mono ?_
            rintro e w4 ⟨rfl, hg⟩
            have HS4 := Lib.hid (HS3.out.on hg)
            clear hg c0 c1 c2
            obtain ⟨c0, c1, c2⟩ := HS4.out.cells
            go_wp2_with fail
            refine (HAK.out _ HS4.out.grown).mono ?_
            rintro e w5 ⟨rfl, hg⟩
            have HS5 := Lib.hid (HS4.out.on hg)
            clear hg c0 c1 c2
            go_wp2_with (at_builtin; go_loud (refine wpList_append_one _ rfl _ _ 24 rfl (w.heap.size + 1) 3 i0 (.int .i64 0) 8 Tryd.underlying24 hi hz0 hz1 hz2 rfl .i64 _ (seenTo W H X m f k) rfl HS5.out.own (k : Int) rfl (i64_mk (by omega)) (by have := HLEN.out; omega) (by decide) HS5.out.box.lt ?_); intro v6 w6 hown6 hgrow6; have HS6 := Lib.hid (HS5.out.more hown6 hgrow6); clear hown6 hgrow6)
            go_roundw
            case rel => exact ⟨k + 1, by omega, by go_num, fun _ => by first | exact HCL.out | trivial, by rw [HNX.out]; exact HS6⟩
            case measure => simp [intOf]; omega
          · have heb : (z == f) = false := by rw [beq_eq_false_iff_ne]; exact he
            have HNX : Hid (seenTo W H X m f (k + 1) = seenTo W H X m f k) := by show _ = _; rw [seenTo_next, if_neg, List.append_nil]; unfold seesB; rw [ho, ← hz]; simpa using he
            clear ho hz he
            go_wp2_with fail
            refine (HCE2.out _ HS.out.grown).mono ?_
            rintro e w3 ⟨rfl, hg⟩
            have HS3 := Lib.hid (HS.out.on hg)
            clear hg c0 c1 c2
            obtain ⟨c0, c1, c2⟩ := HS3.out.cells
            go_wp2_with fail
            refine (HOK.out _ HS3.out.grown).mono ?_
            rintro e w4 ⟨rfl, hg⟩
            have HS4 := Lib.hid (HS3.out.on hg)
            clear hg c0 c1 c2
            obtain ⟨c0, c1, c2⟩ := HS4.out.cells
            go_wp2_with fail
            refine (HAK.out _ HS4.out.grown).mono ?_
            rintro e w5 ⟨rfl, hg⟩
            have HS5 := Lib.hid (HS4.out.on hg)
            clear hg c0 c1 c2
            go_wp2_with fail
            go_roundw
            case rel => exact ⟨k + 1, by omega, by go_num, fun _ => by first | exact HCL.out | trivial, by rw [HNX.out]; exact HS5⟩
            case measure => simp [intOf]; omega
    · have hkn : vn = k := by omega
      subst hkn
      have HR : Hid (seen W H X m f = seenTo W H X m f vn) := by
        show _ = _
        unfold seen
        by_cases h : isCell W H X m = true
        · rw [if_pos h, HVN.out]
        · rw [if_neg h]
          have : vn = 0 := by
            by_cases h0 : 0 < vn
            · exact absurd (hcl h0) h
            · omega
          rw [this]; rfl
      clear hcl
      go_wp2
      go_ret
      exact ⟨_, rfl, by rw [HR.out]; exact HS.out.own.lower (by omega), HS.out.grown⟩

set_option maxRecDepth 20000 in
set_option maxHeartbeats 8000000 in
theorem sCanBe_any (w : World) (W H s : Int) (v u : Value) (X F : List Int) (hv : Sees .i64 w v X) (hu : Sees .i64 w u F) (hn : X.length ≤ 1000000000) :
    Calls Tryd.prog 22 #[.agg #[.int .i64 W, .int .i64 H, v], u, .int .i64 s] w fun e w' => ∃ r, e = .returned r ∧ Own .i64 3 w' w.heap.size r (canBe W H X F s) ∧ w.grownBy w' none := by
  obtain ⟨i0, hi, hz0, hz1, hz2⟩ := info_parts info_intS
  obtain ⟨va, vn, vc, rfl, HVN⟩ := hv.shape
  have huc := hu.len
  obtain ⟨ua, un, uc, rfl, HUN⟩ := hu.shape
  have hvn : vn ≤ 1000000000 := by rw [← HVN.out]; exact hn
  have HN := Lib.hid hvn
  have HU := Lib.hid hu
  have HUC : Hid (un ≤ 9223372036854775807) := by show _ ≤ _; rw [← HUN.out]; exact huc
  have HS0 := Lib.hid (PS.start w W H (.slice va vn vc))
  have HIL := Lib.hid fun w' (hg : w.grownBy w' none) => LandS.sIsLand_any w' W H (.slice va vn vc) X (hv.grown hg)
  have HOP := Lib.hid fun w' (k : Nat) (hg : w.grownBy w' none) => LandS.sIsOpen_any w' W H k (.slice va vn vc) X (hv.grown hg)
  have HDY := Lib.hid fun w' (a : Int) (k : Nat) (hg : w.grownBy w' none) => WayS.sDays_any w' W H a k (.slice va vn vc) X (hv.grown hg)
  clear hv hu hn hvn huc
  have c := HS0.out.cells
  obtain ⟨c0, c1, c2⟩ := c
  go_enter Tryd.func22, Tryd.ntmps22
  go_wp2_with fail
  generalize (w.alloc (.cells #[.int .i64 W, .int .i64 H, .slice va vn vc] 37 (0, 0))).alloc (.cells #[] 3 (0, 0)) = W2 at *
  clear c0 c1 c2
  go_loopw [7, 8] (fun r i wr => ∃ k : Nat, k ≤ vn ∧ i = .int .i64 k ∧ (0 < k → isLand W H X = true ∧ 0 ≤ s) ∧ Hid (PS w wr W H (.slice va vn vc) r (canBeTo W H X F s k))) (fun _ i _ => vn - (intOf i).toNat)
  case atStart => exact ⟨0, Nat.zero_le _, rfl, fun h => absurd h (Nat.lt_irrefl _), HS0⟩
  case round =>
    rename_i _ _ wr
    obtain ⟨rr, hrr⟩ : ∃ rr, rr = u7 := ⟨_, rfl⟩
    obtain ⟨k, hk, rfl, hcl, HS⟩ := hrel
    rw [← hrr] at HS ⊢
    clear hrr
    obtain ⟨c0, c1, c2⟩ := HS.out.cells
    by_cases hlt : k < vn
    · cases hc : isLand W H X
      · have hk0 : k = 0 := by
          by_cases h : 0 < k
          · rw [(hcl h).1] at hc; cases hc
          · omega
        subst hk0
        have HR : Hid (canBe W H X F s = []) := canBe_no (by rw [hc]; decide)
        rw [hc] at HIL
        clear hc hcl
        go_wp2_with fail
        refine (HIL.out _ HS.out.grown).mono ?_
        rintro e w3 ⟨rfl, hg⟩
        have HS3 := Lib.hid (HS.out.on hg)
        clear hg c0 c1 c2
        go_wp2
        go_ret
        exact ⟨_, rfl, by rw [HR.out]; exact HS3.out.own.lower (by omega), HS3.out.grown⟩
      · have HCL := Lib.hid hc
        have HIL2 := HIL
        rw [hc] at HIL2
        clear hc
        by_cases hs : s < 0
        · have hk0 : k = 0 := by
            by_cases h : 0 < k
            · have := (hcl h).2; omega
            · omega
          subst hk0
          have HR : Hid (canBe W H X F s = []) := by show _ = _; unfold canBe; rw [if_neg (fun h => by omega)]
          clear hcl
          go_wp2_with fail
          refine (HIL2.out _ HS.out.grown).mono ?_
          rintro e w3 ⟨rfl, hg⟩
          have HS3 := Lib.hid (HS.out.on hg)
          clear hg c0 c1 c2
          go_wp2
          go_ret
          exact ⟨_, rfl, by rw [HR.out]; exact HS3.out.own.lower (by omega), HS3.out.grown⟩
        · have hs0 : 0 ≤ s := by omega
          have HSP := Lib.hid hs0
          have HHN := HN.out
          clear hcl hs
          go_wp2_with fail
          refine (HIL2.out _ HS.out.grown).mono ?_
          rintro e w3 ⟨rfl, hg⟩
          have HS3 := Lib.hid (HS.out.on hg)
          have HLEN := Lib.hid (show (canBeTo W H X F s k).length ≤ k from filt_len _ _)
          have HK := Lib.hid (And.intro hk hlt)
          clear hg c0 c1 c2
          go_wp2_with fail
          clear hs0
          go_loopw [9, 10] (fun b i wy => ∃ j : Nat, j ≤ un ∧ i = .int .i64 j ∧ b = .bool (anyTo W H X F s k j) ∧ Hid (PS w wy W H (.slice va vn vc) rr (canBeTo W H X F s k))) (fun _ i _ => un - (intOf i).toNat)
          case atStart => exact ⟨0, Nat.zero_le _, rfl, rfl, HS3⟩
          case round =>
            obtain ⟨j, hj, rfl, rfl, HY⟩ := hrel
            obtain ⟨c0, c1, c2⟩ := HY.out.cells
            have HOK := Lib.hid fun w' hg => HOP.out w' k hg
            by_cases hjt : j < un
            · cases ho : isOpen W H X k
              · have HNX : Hid (canBeTo W H X F s (k + 1) = canBeTo W H X F s k) := by show _ = _; rw [canBeTo_next, if_neg, List.append_nil]; rw [within_closed ho]; decide
                have HAF : Hid (anyTo W H X F s k j = false) := by
                  show _ = _
                  unfold anyTo
                  rw [List.any_eq_false]
                  intro i hi
                  simp only [decide_eq_true_eq]
                  rintro ⟨h0, _⟩
                  have := (days_at h0).2.1
                  rw [ho] at this
                  cases this
                rw [ho] at HOK
                rw [HAF.out]
                clear ho
                go_wp2_with fail
                refine (HOK.out _ HY.out.grown).mono ?_
                rintro e w4 ⟨rfl, hg⟩
                have HS4 := Lib.hid (HY.out.on hg)
                clear hg c0 c1 c2
                go_wp2_with fail
                go_roundw
                case rel => exact ⟨k + 1, by have := HK.out; omega, by go_num, fun _ => by first | exact ⟨HCL.out, HSP.out⟩ | trivial | exact HSP.out | exact HCL.out, by rw [HNX.out]; exact HS4⟩
                case measure => have := HK.out; simp [intOf]; omega
              · rw [ho] at HOK
                clear ho
                obtain ⟨a, ha⟩ : ∃ a, a = F.getD j 0 := ⟨_, rfl⟩
                obtain ⟨n, hnn⟩ : ∃ n, n = daysOf W H X a k := ⟨_, rfl⟩
                have HA := Lib.hid ha
                have HNN := Lib.hid hnn
                have HDK := Lib.hid fun w' hg => HDY.out w' a k hg
                rw [← hnn] at HDK
                obtain ⟨b, hb⟩ : ∃ b, b = anyTo W H X F s k j := ⟨_, rfl⟩
                have HB := Lib.hid hb
                rw [← hb]
                have hju := HUC.out
                obtain ⟨ub, uo, rfl, _⟩ := HU.out.at_row (j := j) (by rw [HUN.out]; exact hjt)
                have HCJ : Hid (∀ wy, w.grownBy wy none → wy.cell? ⟨ub, uo + j, none⟩ = some (.int .i64 a)) := fun wy hg => by
                  rw [HA.out]; exact (HU.out.grown hg).at' (by rw [HUN.out]; exact hjt)
                clear ha hnn hb
                go_wp2_with fail
                refine (HOK.out _ HY.out.grown).mono ?_
                rintro e w4 ⟨rfl, hg⟩
                have HS4 := Lib.hid (HY.out.on hg)
                have HQ0 := Lib.hid (HS4.out.on (grown_drew (World.grownBy.refl _ none)))
                clear hg c0 c1 c2
                have j0 : (0 : Int) ≤ (j : Int) := by omega
                have j1 : (j : Int) < (un : Int) := by omega
                go_wp2_with fail
                go_region_held3 (fun w' => (w'.cell? ⟨w.heap.size, 0, none⟩ = some (.int .i64 W) ∧ w'.cell? ⟨w.heap.size, 1, none⟩ = some (.int .i64 H) ∧ w'.cell? ⟨w.heap.size, 2, none⟩ = some (.slice va vn vc)) ∧ w'.cell? ⟨ub, uo + j, none⟩ = some (.int .i64 a)) (first | exact ⟨HQ0.out.cells, HCJ.out _ HQ0.out.grown⟩ | exact ⟨HQ1.out.cells, HCJ.out _ HQ1.out.grown⟩) (first | (go_at_call 59; refine (HDK.out _ HQ0.out.grown).mono ?_; rintro e w5 ⟨rfl, hg5⟩; have HQ1 := Lib.hid (HQ0.out.on hg5); clear hg5))
                have HNB : Hid (anyTo W H X F s k (j + 1) = (b || decide (0 ≤ n ∧ n ≤ s))) := by show _ = _; rw [anyTo_next, ← HA.out, ← HNN.out, ← HB.out]
                cases b
                · by_cases n0 : 0 ≤ n
                  · by_cases n1 : n ≤ s
                    · skip
                      have HNC : Hid (anyTo W H X F s k (j + 1) = true) := by show _ = _; rw [HNB.out]; first | rfl | (simp; omega) | (simp only [decide_eq_false (show ¬ (0 ≤ n ∧ n ≤ s) by omega), decide_eq_true (show 0 ≤ n ∧ n ≤ s by omega)]; rfl) | (rw [decide_eq_false (show ¬ (0 ≤ n ∧ n ≤ s) by omega)]; rfl) | (rw [decide_eq_true (show 0 ≤ n ∧ n ≤ s by omega)]; rfl)
                      go_wp2_with fail
                      go_roundw
                      case rel => exact ⟨j + 1, by omega, by go_num, by rw [HNC.out], HQ1⟩
                      case measure => simp [intOf]; omega
                    · skip
                      have HNC : Hid (anyTo W H X F s k (j + 1) = false) := by show _ = _; rw [HNB.out]; first | rfl | (simp; omega) | (simp only [decide_eq_false (show ¬ (0 ≤ n ∧ n ≤ s) by omega), decide_eq_true (show 0 ≤ n ∧ n ≤ s by omega)]; rfl) | (rw [decide_eq_false (show ¬ (0 ≤ n ∧ n ≤ s) by omega)]; rfl) | (rw [decide_eq_true (show 0 ≤ n ∧ n ≤ s by omega)]; rfl)
                      go_wp2_with fail
                      go_roundw
                      case rel => exact ⟨j + 1, by omega, by go_num, by rw [HNC.out], HQ1⟩
                      case measure => simp [intOf]; omega
                  · skip
                    have HNC : Hid (anyTo W H X F s k (j + 1) = false) := by show _ = _; rw [HNB.out]; first | rfl | (simp; omega) | (simp only [decide_eq_false (show ¬ (0 ≤ n ∧ n ≤ s) by omega), decide_eq_true (show 0 ≤ n ∧ n ≤ s by omega)]; rfl) | (rw [decide_eq_false (show ¬ (0 ≤ n ∧ n ≤ s) by omega)]; rfl) | (rw [decide_eq_true (show 0 ≤ n ∧ n ≤ s by omega)]; rfl)
                    go_wp2_with fail
                    go_roundw
                    case rel => exact ⟨j + 1, by omega, by go_num, by rw [HNC.out], HQ1⟩
                    case measure => simp [intOf]; omega
                · skip
                  have HNC : Hid (anyTo W H X F s k (j + 1) = true) := by show _ = _; rw [HNB.out]; first | rfl | (simp; omega) | (simp only [decide_eq_false (show ¬ (0 ≤ n ∧ n ≤ s) by omega), decide_eq_true (show 0 ≤ n ∧ n ≤ s by omega)]; rfl) | (rw [decide_eq_false (show ¬ (0 ≤ n ∧ n ≤ s) by omega)]; rfl) | (rw [decide_eq_true (show 0 ≤ n ∧ n ≤ s by omega)]; rfl)
                  go_wp2_with fail
                  go_roundw
                  case rel => exact ⟨j + 1, by omega, by go_num, by rw [HNC.out], HQ1⟩
                  case measure => simp [intOf]; omega
            · have hju : un = j := by omega
              subst hju
              obtain ⟨b, hb⟩ : ∃ b, b = anyTo W H X F s k un := ⟨_, rfl⟩
              have hbw : b = withinB W H X F s k := by rw [hb, ← HUN.out]; exact anyTo_all _ _ _ _ _ _
              rw [← hb]
              clear hb
              cases b
              · have HNX : Hid (canBeTo W H X F s (k + 1) = canBeTo W H X F s k) := by show _ = _; rw [canBeTo_next, if_neg, List.append_nil]; rw [← hbw]; decide
                clear hbw
                go_wp2_with fail
                go_roundw
                case rel => exact ⟨k + 1, by have := HK.out; omega, by go_num, fun _ => by first | exact ⟨HCL.out, HSP.out⟩ | trivial | exact HSP.out | exact HCL.out, by rw [HNX.out]; exact HY⟩
                case measure => have := HK.out; simp [intOf]; omega
              · have HNX : Hid (canBeTo W H X F s (k + 1) = canBeTo W H X F s k ++ [(k : Int)]) := by show _ = _; rw [canBeTo_next, if_pos hbw.symm]
                clear hbw
                go_wp2_with (at_builtin; go_loud (refine wpList_append_one _ rfl _ _ 24 rfl (w.heap.size + 1) 3 i0 (.int .i64 0) 8 Tryd.underlying24 hi hz0 hz1 hz2 rfl .i64 _ (canBeTo W H X F s k) rfl HY.out.own (k : Int) rfl (i64_mk (by have := HK.out; omega)) (by have := HLEN.out; have := HK.out; omega) (by decide) HY.out.box.lt ?_); intro v6 w6 hown6 hgrow6; have HS6 := Lib.hid (HY.out.more hown6 hgrow6); clear hown6 hgrow6)
                go_roundw
                case rel => exact ⟨k + 1, by have := HK.out; omega, by go_num, fun _ => by first | exact ⟨HCL.out, HSP.out⟩ | trivial | exact HSP.out | exact HCL.out, by rw [HNX.out]; exact HS6⟩
                case measure => have := HK.out; simp [intOf]; omega
    · have hkn : vn = k := by omega
      subst hkn
      have HR : Hid (canBe W H X F s = canBeTo W H X F s vn) := by
        show _ = _
        unfold canBe
        by_cases h : isLand W H X = true ∧ 0 ≤ s
        · rw [if_pos h, HVN.out]
        · rw [if_neg h]
          have : vn = 0 := by
            by_cases h0 : 0 < vn
            · exact absurd (hcl h0) h
            · omega
          rw [this]; rfl
      clear hcl
      go_wp2
      go_ret
      exact ⟨_, rfl, by rw [HR.out]; exact HS.out.own.lower (by omega), HS.out.grown⟩
end Go.Proofs.YtdeggdhcleanmaaDoor.Pc
