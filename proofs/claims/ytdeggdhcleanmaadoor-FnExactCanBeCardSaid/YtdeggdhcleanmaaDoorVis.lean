/- Contracts of the cells that a journal visits, of the program and of its model. -/
import Derived.Test.YtdeggdhcleanmaaDoorPct
import Derived.Test.YtdeggdhcleanmaaDoorRow4
import Derived.Test.YtdeggdhcleanmaaDoorLandI
import Derived.Test.YtdeggdhcleanmaaDoorLawsI
import Derived.Lib.LaidTab
namespace Go.Proofs.YtdeggdhcleanmaaDoor.Pc
open Go.RowKit Kit Rw Rg

/-- The word of the first so many pages' cells. -/
def visW (L : List I4) : Nat → Nat
  | 0 => 0
  | j + 1 => if 0 ≤ (L.getD j zI4).x1 ∧ (L.getD j zI4).x1 ≤ 63 then visW L j ||| 2 ^ (L.getD j zI4).x1.toNat else visW L j
def has (L : List I4) (n : Nat) : Bool := (List.range L.length).any (fun j => decide ((L.getD j zI4).x1 = n))
def vis (L : List I4) : List Int := ((List.range 64).filter (has L)).map (fun n : Nat => (n : Int))
def visTo (L : List I4) (k : Nat) : List Int := ((List.range k).filter (has L)).map (fun n : Nat => (n : Int))
theorem visTo_next (L : List I4) (k : Nat) : visTo L (k + 1) = visTo L k ++ (if has L k = true then [(k : Int)] else []) := by
  unfold visTo
  rw [List.range_succ, List.filter_append, List.map_append]
  congr 1
  by_cases h : has L k = true
  · rw [if_pos h]; simp [h]
  · rw [if_neg h]; simp [h]
theorem visTo_len (L : List I4) (k : Nat) : (visTo L k).length ≤ k := by
  unfold visTo; rw [List.length_map]; exact Nat.le_trans (List.length_filter_le _ _) (by simp)
theorem vis_len (L : List I4) : (vis L).length ≤ 64 := visTo_len L 64
theorem has_yes {L : List I4} {n j : Nat} (hj : j < L.length) (h : (L.getD j zI4).x1 = n) : has L n = true := by
  unfold has
  rw [List.any_eq_true]
  exact ⟨j, List.mem_range.2 hj, decide_eq_true h⟩
theorem has_no {L : List I4} {n : Nat} (h : ∀ j, j < L.length → (L.getD j zI4).x1 ≠ n) : has L n = false := by
  unfold has
  rw [List.any_eq_false]
  intro j hj
  have := h j (List.mem_range.1 hj)
  simpa using this
theorem visW_lt (L : List I4) : ∀ j, visW L j < 2 ^ 64
  | 0 => by unfold visW; decide
  | j + 1 => by
    have ih := visW_lt L j
    unfold visW
    split
    · exact with_lt ih (by omega)
    · exact ih
theorem visW_bit (L : List I4) : ∀ j n, (visW L j).testBit n = true ↔ n < 64 ∧ ∃ i, i < j ∧ (L.getD i zI4).x1 = n
  | 0, n => by unfold visW; simp
  | j + 1, n => by
    have ih := visW_bit L j n
    unfold visW
    split
    · rename_i h
      rw [with_bit, Bool.or_eq_true, ih, decide_eq_true_eq]
      constructor
      · rintro (⟨h1, i, h2, h3⟩ | h1)
        · exact ⟨h1, i, by omega, h3⟩
        · exact ⟨by omega, j, by omega, by omega⟩
      · rintro ⟨h1, i, h2, h3⟩
        by_cases hij : i = j
        · subst hij; exact .inr (by omega)
        · exact .inl ⟨h1, i, by omega, h3⟩
    · rename_i h
      rw [ih]
      constructor
      · rintro ⟨h1, i, h2, h3⟩; exact ⟨h1, i, by omega, h3⟩
      · rintro ⟨h1, i, h2, h3⟩
        refine ⟨h1, i, ?_, h3⟩
        by_cases hij : i = j
        · subst hij; omega
        · omega
theorem vis_els (L : List I4) : els (visW L L.length) = vis L := by
  refine els_by fun n hn => ?_
  have h := visW_bit L L.length n
  cases hh : has L n with
  | true =>
    unfold has at hh
    rw [List.any_eq_true] at hh
    obtain ⟨j, hj, hd⟩ := hh
    rw [h]
    exact ⟨hn, j, List.mem_range.1 hj, of_decide_eq_true hd⟩
  | false =>
    rw [← Bool.not_eq_true, h]
    rintro ⟨_, i, h2, h3⟩
    rw [has_yes h2 h3] at hh
    cases hh

set_option maxRecDepth 20000 in
set_option maxHeartbeats 2000000 in
theorem iVis_any (w : World) (u : Value) (L : List I4) (hu : SeesG enc4 w u L) (hT : Tab w) :
    Calls Tryd.prog 15 #[u] w fun e w' => ∃ v, e = .returned v ∧ Own .i64 3 w' w.heap.size v (vis L) ∧ w.grownBy w' none := by
  have hl := hu.len
  obtain ⟨a, un, cap, rfl, HUN⟩ := hu.shape
  have HU := Lib.hid hu
  have HT := Lib.hid hT
  have HL : Hid (un ≤ 9223372036854775807) := by show _ ≤ _; rw [← HUN.out]; exact hl
  have HC := Lib.hid fun w' (hg : w.grownBy w' none) => cells_any w' (visW L L.length) (visW_lt L _) (hT.grown hg)
  rw [vis_els] at HC
  clear hu hT hl
  go_enter Tryd.func15, Tryd.ntmps15
  go_wp2_with fail
  go_loopw [3, 8] (fun p i wr => ∃ j : Nat, j ≤ un ∧ i = .int .i64 j ∧ p = .int .u64 ((visW L j : Nat) : Int) ∧ Hid (w.grownBy wr none)) (fun _ i _ => un - (intOf i).toNat)
  case atStart => exact ⟨0, Nat.zero_le _, rfl, rfl, World.grownBy.refl w none⟩
  case round =>
    rename_i _ _ wr
    obtain ⟨j, hj, rfl, rfl, HG⟩ := hrel
    by_cases hlt : j < un
    · have hjl : j < L.length := by rw [HUN.out]; exact hlt
      obtain ⟨b, o, rfl, _⟩ := HU.out.at_row hjl
      obtain ⟨x, hx⟩ : ∃ x, L.getD j zI4 = x := ⟨_, rfl⟩
      obtain ⟨d0, d1, d2, d3⟩ := at4_in HU.out HG.out hjl hx
      obtain ⟨p, hp⟩ : ∃ p, p = visW L j := ⟨_, rfl⟩
      have hpl : p < 2 ^ 64 := by rw [hp]; exact visW_lt L j
      have hnx : visW L (j + 1) = if 0 ≤ x.x1 ∧ x.x1 ≤ 63 then p ||| 2 ^ x.x1.toNat else p := by show (if _ then _ else _) = _; rw [hx, hp]
      have HHL := HL.out
      rw [← hp]
      obtain ⟨y0, y1, y2, y3⟩ := x
      dsimp only at d0 d1 d2 d3 hnx
      have hgA := World.grownBy_alloc wr (.cells #[.int .i64 y0, .int .i64 y1, .int .i64 y2, .int .i64 y3] 69 (0, 0)) none
      have HGA := Lib.hid (grownN_trans HG.out hgA)
      have HBX := Lib.hid (box_new wr #[.int .i64 y0, .int .i64 y1, .int .i64 y2, .int .i64 y3] 69)
      clear hgA hx hjl hp
      by_cases hin : 0 ≤ y1 ∧ y1 ≤ 63
      · rw [if_pos hin] at hnx
        have HNX := Lib.hid hnx
        have HI := Lib.hid fun w' => LandI.inRange_yes w' hin
        obtain ⟨n, rfl⟩ : ∃ n : Nat, y1 = n := ⟨y1.toNat, by omega⟩
        have HW := Lib.hid fun w' => with_any w' p n hpl (by omega)
        rw [Int.toNat_natCast] at HNX
        have e1 := HBX.out.cell 1
        simp only [List.getElem?_toArray, List.getElem?_cons_succ, List.getElem?_cons_zero] at e1
        clear hnx hin hpl
        go_wp2_with fail
        refine (HI.out _).mono ?_
        rintro e w5 ⟨rfl, rfl⟩
        go_wp2_with fail
        refine (HW.out _).mono ?_
        rintro e w6 ⟨rfl, rfl⟩
        go_wp2_with fail
        go_roundw
        case rel => exact ⟨j + 1, by omega, by go_num, by rw [HNX.out], HGA⟩
        case measure => simp [intOf]; omega
      · rw [if_neg hin] at hnx
        have HNX := Lib.hid hnx
        have HI := Lib.hid fun w' => LandI.inRange_no w' hin
        clear hnx hin hpl
        go_wp2_with fail
        refine (HI.out _).mono ?_
        rintro e w5 ⟨rfl, rfl⟩
        go_wp2_with fail
        go_roundw
        case rel => exact ⟨j + 1, by omega, by go_num, by rw [HNX.out], HGA⟩
        case measure => simp [intOf]; omega
    · have hju : un = j := by omega
      subst hju
      rw [HUN.out] at HC
      go_wp2_with fail
      refine (HC.out _ HG.out).mono ?_
      rintro e w5 ⟨v, rfl, ho, hg⟩
      have HO := Lib.hid ho
      have HG5 := Lib.hid (grownN_trans HG.out hg)
      clear ho hg
      go_wp2
      go_ret
      exact ⟨_, rfl, HO.out.lower HG.out.size, HG5.out⟩

set_option maxRecDepth 20000 in
set_option maxHeartbeats 2000000 in
theorem sVis_any (w : World) (u : Value) (L : List I4) (hu : SeesG enc4 w u L) :
    Calls Tryd.prog 13 #[u] w fun e w' => ∃ v, e = .returned v ∧ Own .i64 3 w' w.heap.size v (vis L) ∧ w.grownBy w' none := by
  obtain ⟨i0, hi, hz0, hz1, hz2⟩ := info_parts info_int
  have hl := hu.len
  obtain ⟨a, un, cap, rfl, HUN⟩ := hu.shape
  have HU := Lib.hid hu
  have HL : Hid (un ≤ 9223372036854775807) := by show _ ≤ _; rw [← HUN.out]; exact hl
  have HO : Hid (Own .i64 3 (w.alloc (.cells #[] 3 (0, 0))) w.heap.size (.slice (some ⟨w.heap.size, 0, none⟩) 0 0) (visTo L 0)) := own_empty w
  have HG0 := Lib.hid (World.grownBy_alloc w (.cells #[] 3 (0, 0)) none)
  clear hu hl
  go_enter Tryd.func13, Tryd.ntmps13
  go_wp2_with fail
  generalize w.alloc (.cells #[] 3 (0, 0)) = W2 at *
  go_loopw [3, 4] (fun v i wr => ∃ k : Nat, k ≤ 64 ∧ i = .int .i64 k ∧ Hid (Own .i64 3 wr w.heap.size v (visTo L k)) ∧ Hid (w.grownBy wr none)) (fun _ i _ => 64 - (intOf i).toNat)
  case atStart => exact ⟨0, Nat.zero_le _, rfl, HO, HG0⟩
  case round =>
    rename_i _ _ wr
    obtain ⟨v, hv⟩ : ∃ v, v = u3 := ⟨_, rfl⟩
    obtain ⟨k, hk, rfl, HK, HG⟩ := hrel
    rw [← hv] at HK ⊢
    clear hv
    by_cases hlt : k < 64
    · have HLK := Lib.hid (visTo_len L k)
      have HLT := Lib.hid hlt
      go_wp2_with fail
      go_loop [3, 5] (fun v' i => v' = v ∧ ∃ j : Nat, j ≤ un ∧ i = .int .i64 j ∧ Hid (∀ m, m < j → (L.getD m zI4).x1 ≠ k)) (fun _ i => un - (intOf i).toNat)
      case atStart => exact ⟨rfl, 0, Nat.zero_le _, rfl, fun m hm => absurd hm (Nat.not_lt_zero _)⟩
      case round =>
        obtain ⟨rfl, j, hj, rfl, HE⟩ := hrel
        by_cases hjt : j < un
        · have hjl : j < L.length := by rw [HUN.out]; exact hjt
          obtain ⟨b, o, rfl, _⟩ := HU.out.at_row hjl
          obtain ⟨x, hx⟩ : ∃ x, L.getD j zI4 = x := ⟨_, rfl⟩
          obtain ⟨d0, d1, d2, d3⟩ := at4_in HU.out HG.out hjl hx
          have HX := Lib.hid hx
          have HHL := HL.out
          obtain ⟨y0, y1, y2, y3⟩ := x
          dsimp only at d0 d1 d2 d3
          by_cases he : y1 = (k : Int)
          · have HN : Hid (visTo L (k + 1) = visTo L k ++ [(k : Int)]) := by
              show _ = _
              rw [visTo_next, if_pos (has_yes hjl (by rw [hx]; exact he))]
            have heb : (y1 == (k : Int)) = true := by simpa using he
            clear hx hjl d0 d2 d3 he
            go_wp2_with (at_builtin; go_loud (refine wpList_append_one _ rfl _ _ 24 rfl w.heap.size 3 i0 (.int .i64 0) 8 Tryd.underlying24 hi hz0 hz1 hz2 rfl .i64 _ (visTo L k) rfl HK.out (k : Int) rfl (i64_mk (by have := HLT.out; omega)) (by have := HLK.out; have := HLT.out; omega) (by decide) HG.out.size ?_); intro v4 w4 hown4 hgrow4; have HO6 := Lib.hid hown4; have HG6 : Hid (w.grownBy w4 none) := grown_new HG.out hgrow4 (fun c hc => (HK.out.lt c hc).1); clear hown4 hgrow4)
            go_roundw
            case rel => exact ⟨k + 1, by have := HLT.out; omega, by go_num, by rw [HN.out]; exact HO6, HG6⟩
            case measure => have := HLT.out; simp [intOf]; omega
          · have heb : (y1 == (k : Int)) = false := by simpa using he
            have hne := he
            clear hx d0 d2 d3
            go_wp2_with fail
            go_round
            case rel =>
              refine ⟨rfl, j + 1, by omega, by go_num, fun m hm => ?_⟩
              by_cases hmj : m = j
              · subst hmj; rw [HX.out]; exact hne
              · exact HE.out m (by omega)
            case measure => simp [intOf]; omega
        · have hju : un = j := by omega
          have HN : Hid (visTo L (k + 1) = visTo L k) := by
            show _ = _
            rw [visTo_next, if_neg, List.append_nil]
            rw [has_no (fun m hm => HE.out m (by have := HUN.out; omega))]
            decide
          subst hju
          go_wp2_with fail
          go_roundw
          case rel => exact ⟨k + 1, by have := HLT.out; omega, by go_num, by rw [HN.out]; exact HK, HG⟩
          case measure => have := HLT.out; simp [intOf]; omega
    · have hk64 : k = 64 := by omega
      subst hk64
      go_wp2
      go_ret
      exact ⟨_, rfl, HK.out, HG.out⟩
def TabD (w : World) : Prop := Lib.TabIs Tryd.prog w "math/bits.deBruijn64tab" .u8 (Lib.deBruijn64tab.map fun n : Nat => (n : Int))
theorem gD : Tryd.prog.globalNamed "math/bits.deBruijn64tab" = some 1 := by kernel_rfl
theorem TabD.below {w w' : World} {B : Nat} (h : TabD w) (hb : Below B w w') (hB : w.heap.size ≤ B) : TabD w' := by
  unfold TabD Lib.TabIs World.var? at h ⊢
  rw [gD] at h ⊢
  simp only [Option.bind_some] at h ⊢
  by_cases hlt : 1 < w.heap.size
  · rw [hb.block _ (by omega)]; exact h
  · rw [Array.getElem?_eq_none (by omega)] at h; simp at h
theorem tab_of {w : World} (h : TabD w) : Tab w := fun j hj => by
  have hl : Lib.deBruijn64tab.length = 64 := rfl
  rw [h.cell gD j (by simp; omega)]
  rw [List.getD_eq_getElem?_getD, List.getElem?_map, List.getD_eq_getElem?_getD, List.getElem?_eq_getElem (by omega)]
  rfl
theorem iVisV_any (w : World) (u : Value) (L : List I4) (hu : SeesG enc4 w u L) (hV : TabD w) :
    Calls Tryd.prog 15 #[u] w fun e w' => ∃ v, e = .returned v ∧ Own .i64 3 w' w.heap.size v (vis L) ∧ w.grownBy w' none := iVis_any w u L hu (tab_of hV)
end Go.Proofs.YtdeggdhcleanmaaDoor.Pc
