/- Texts as lists of bytes; a strings.Builder of the call's own written by whole texts; parts joined with a separator. -/
import Derived.Test.YtoanhnklemlfmaaDoorBld
import Derived.Test.YtoanhnklemlfmaaDoorLaySt
import Derived.Lib.AppendStr
import Derived.Laws.Concat
import Derived.IntWalk
import Derived.WalkKit
namespace Go.Proofs.YtoanhnklemlfmaaDoor.Txt
open Go.RowKit Kit Rw Rg Bld

def cod (t : ByteArray) : List Int := t.data.toList.map fun b => (b.toNat : Int)
theorem cod_len (t : ByteArray) : (cod t).length = t.size := by rw [cod, List.length_map, Array.length_toList]; rfl
theorem cod_nil : cod ⟨#[]⟩ = [] := rfl
theorem app_data (s t : ByteArray) : (s ++ t).data = s.data ++ t.data := ByteArray.data_append
theorem cod_app (s t : ByteArray) : cod (s ++ t) = cod s ++ cod t := by unfold cod; rw [app_data, Array.toList_append, List.map_append]
theorem size_app (s t : ByteArray) : (s ++ t).size = s.size + t.size := ByteArray.size_append
theorem cod_wf (t : ByteArray) : ∀ n ∈ cod t, (Lit.int .u8 n).wf = true := fun n hn => by
  obtain ⟨b, _, rfl⟩ := List.mem_map.1 hn
  exact u8_mk ⟨by omega, by have := b.toNat_lt; omega⟩
theorem cod_cells (t : ByteArray) : (cod t).map (Value.int .u8) = Lib.byteCells t.data.toList := by
  unfold cod Lib.byteCells
  rw [List.map_map]; rfl
theorem cod_str (t : ByteArray) : (cod t).map (Value.int .u8) = Lib.strCells t := cod_cells t
/-- An owned row of bytes that has had a text appended. -/
theorem own_str {w : World} {base : Nat} {v : Value} {L : List Int} {s : ByteArray} (hL : ∀ n ∈ L, (Lit.int .u8 n).wf = true) (h : w.ownsRow base 5 1 v (L.length + s.size) (L.map (Value.int .u8) ++ Lib.strCells s)) : Own .u8 5 w base v (L ++ cod s) := by
  refine ⟨?_, fun n hn => (List.mem_append.1 hn).elim (hL n) (cod_wf s n)⟩
  rw [List.length_append, cod_len, List.map_append, cod_str]
  exact h
theorem isB {w : World} {b : Nat} {t : ByteArray} (h : Bd w b (cod t)) : Lib.IsBuilder 134 5 b b (Lib.byteCells t.data.toList) w := by
  obtain ⟨p, v, hp, hb, ho⟩ := h
  have hown : w.ownsRow b 5 1 v (Lib.byteCells t.data.toList).length (Lib.byteCells t.data.toList) := by
    have h1 := ho.1
    rw [cod_cells] at h1
    have hl : (cod t).length = (Lib.byteCells t.data.toList).length := by rw [← cod_cells]; simp
    rw [hl] at h1
    obtain ⟨h1, h2⟩ := h1
    refine ⟨h1, ?_⟩
    rcases h2 with h2 | ⟨g, cap, cur, hv, hg, r⟩
    · exact .inl h2
    · exact .inr ⟨g, cap, cur, hv, by omega, r⟩
  have hne : v.ownBlock ≠ some b := fun e => by have := ho.1.lt _ e; omega
  rcases hp with rfl | rfl
  · exact .inl ⟨Nat.le_refl _, v, hb, hown, hne⟩
  · exact .inr ⟨Nat.le_refl _, v, hb, hown, hne⟩
theorem string_any (w : World) (b : Nat) (t : ByteArray) (h : Bd w b (cod t)) :
    Calls Tryd.prog 106 #[.pointer (some ⟨b, 0, none⟩)] w fun e w' => e = .returned (.string t) ∧ Below b w w' :=
  Any.Builder_String_any Tryd.lays169 Tryd.Builder_Extra_169 b b t.data.toList w (isB h) (Nat.le_of_lt h.lt)

theorem ret_s {a b : ByteArray} (h : a = b) : Ending.returned (.string a) = .returned (.string b) := by rw [h]

set_option maxHeartbeats 1000000 in
set_option maxRecDepth 100000 in
/-- One text more. -/
theorem write_any (w : World) (b : Nat) (t s : ByteArray) (h : Bd w b (cod t)) (hl : t.size ≤ 1000000000) (hs : s.size ≤ 1000000000) :
    Calls Tryd.prog 105 #[.pointer (some ⟨b, 0, none⟩), .string s] w fun e w' => e = .returned (.tuple #[.int .i64 s.size, .nilIface]) ∧ Bd w' b (cod (t ++ s)) ∧ Below b w w' := by
  obtain ⟨i0, hi, hz0, hz1, hz2⟩ := info_parts info_u8
  have HC := Lib.hid (check_any w b _ h)
  have HLT := Lib.hid h.lt
  clear h
  go_enter Tryd.func105, Tryd.ntmps105
  go_wp2_with fail
  refine HC.out.mono ?_
  rintro e w1 ⟨rfl, ⟨v, hb1, ho1⟩, hg1⟩
  obtain ⟨va, vn, vc, rfl, HN⟩ := ho1.sees.shape
  have hvn : vn ≤ 1000000000 := by rw [← HN.out, cod_len]; exact hl
  have c1 : w1.cell? ⟨b, 1, none⟩ = some (.slice va vn vc) := hb1.cell 1
  have HB1 := Lib.hid hb1
  have HO1 := Lib.hid ho1
  have HG1 := Lib.hid (grown_below' hg1 HLT.out)
  clear hb1 ho1 hg1 HC
  go_wp2_with (at_builtin; go_loud (refine Lib.wpList_append_own_string (w := w1) rfl _ _ 131 9 rfl (b + 1) 5 i0 Tryd.underlying131 Tryd.underlying9 hi hz0 hz1 hz2 (.slice va vn vc) (cod t).length _ rfl HO1.out.1 s rfl (by rw [cod_len]; unfold maxLen; omega) (by rw [cod_len]; omega) HB1.out.lt ?_); intro u w2 ho2' hg2 _; have ho2 := own_str (cod_wf t) ho2'; clear ho2'; obtain ⟨ua, un, uc, rfl, HUN⟩ := ho2.sees.shape; have hne : (Value.slice va vn vc).ownBlock ≠ some b := (fun e => by have := HO1.out.1.lt _ e; omega); have HB2 := Lib.hid (HB1.out.kept hg2 hne); have HB3 := Lib.hid (set2_1 (u := .slice ua un uc) HB2.out); have HO2 := Lib.hid ho2; have HG2 : Hid (Below b w w2) := HG1.out.trans ((Below.refl b w1).grown hg2 (Nat.le_of_lt HB1.out.lt) (fun k hk => by have := HO1.out.1.lt _ hk; omega)); have HO3 := Lib.hid (HO2.out.kept (grown_set w2 b 1 (.slice ua un uc)) (own_off HO2.out)); have HG3 : Hid (Below b w (w2.setCell ⟨b, 1, none⟩ (.slice ua un uc))) := HG2.out.trans (grown_below' (grown_set w2 b 1 (.slice ua un uc)) HB2.out.lt); have d1 := HB2.out.cell 1; have f1 := HB2.out.free 1; clear ho2 hg2 c1)
  go_ret2
  exact ⟨rfl, ⟨_, _, .inr rfl, HB3.out, by rw [cod_app]; exact HO3.out⟩, HG3.out⟩

/-- Texts as elements of a row. -/
def encS : Enc ByteArray where
  size := 1
  cells := fun t => [.string t]
  dflt := ⟨#[]⟩
  ok := fun _ => True
  pos := by decide
  len := fun _ => rfl
  one := fun x v hv => by simp at hv; subst hv; rfl
/-- The first parts, the separator between them. -/
def part (sep : ByteArray) (L : List ByteArray) : Nat → ByteArray
  | 0 => ⟨#[]⟩
  | j + 1 => (if j = 0 then part sep L j else part sep L j ++ sep) ++ L.getD j ⟨#[]⟩
def joinB (sep : ByteArray) (L : List ByteArray) : ByteArray := part sep L L.length
theorem part_size {sep : ByteArray} {L : List ByteArray} (hs : sep.size ≤ 100) (hL : ∀ x ∈ L, x.size ≤ 100) : ∀ j, (part sep L j).size ≤ 200 * j
  | 0 => by simp [part, ByteArray.size]
  | j + 1 => by
    have ih := part_size hs hL j
    have hx : (L.getD j ⟨#[]⟩).size ≤ 100 := by
      rw [List.getD_eq_getElem?_getD]
      rcases h : L[j]? with _ | x
      · simp [ByteArray.size]
      · exact hL x (List.mem_of_getElem? h)
    unfold part
    rw [size_app]
    split
    · omega
    · rw [size_app]; omega

set_option maxHeartbeats 2000000 in
set_option maxRecDepth 100000 in
theorem joined_any (w : World) (sep : ByteArray) (v : Value) (L : List ByteArray) (hv : SeesG encS w v L) (hs : sep.size ≤ 100) (hL : ∀ x ∈ L, x.size ≤ 100) (hn : L.length ≤ 2000000) :
    Calls Tryd.prog 59 #[.string sep, v] w fun e w' => e = .returned (.string (joinB sep L)) ∧ w.grownBy w' none := by
  obtain ⟨va, vn, vc, rfl, HVN⟩ := hv.shape
  have hvn : vn ≤ 2000000 := by rw [← HVN.out]; exact hn
  have HV := Lib.hid hv
  have HP := Lib.hid (part_size hs hL)
  have HX : Hid (∀ j, (L.getD j ⟨#[]⟩).size ≤ 100) := fun j => by
    rw [List.getD_eq_getElem?_getD]
    rcases h : L[j]? with _ | x
    · simp [ByteArray.size]
    · exact hL x (List.mem_of_getElem? h)
  have HS := Lib.hid hs
  clear hv hn hL hs
  have HB0 := Lib.hid (Bd.new w)
  have HG0 := Lib.hid (World.grownBy_alloc w (.cells #[.pointer none, .slice none 0 0] 134 (0, 0)) none)
  go_enter Tryd.func59, Tryd.ntmps59
  go_wp2
  generalize w.alloc (.cells #[.pointer none, .slice none 0 0] 134 (0, 0)) = W0 at *
  go_loopw [10] (fun i wr => ∃ j : Nat, j ≤ vn ∧ i = .int .i64 j ∧ Hid (Bd wr w.heap.size (cod (part sep L j))) ∧ Hid (w.grownBy wr none)) (fun i _ => vn - (intOf i).toNat)
  case atStart => exact ⟨0, Nat.zero_le _, rfl, HB0, HG0⟩
  case round =>
    obtain ⟨j, hj, rfl, HB, HG⟩ := hrel
    by_cases hlt : j < vn
    · have hjl : j < L.length := by rw [HVN.out]; exact hlt
      obtain ⟨b, o, rfl, _, _⟩ := HV.out.at_row hjl
      obtain ⟨x, hx⟩ : ∃ x, x = L.getD j ⟨#[]⟩ := ⟨_, rfl⟩
      have d0 := (HV.out.grown HG.out).at' hjl (i := 0) (by decide)
      have d0 : World.cell? wr ⟨b, o + j, none⟩ = some (.string x) := by rw [hx]; simpa [encS] using d0
      have hz : (part sep L j).size ≤ 600000000 := by have := HP.out j; omega
      have hxs : x.size ≤ 100 := by rw [hx]; exact HX.out j
      have HZ := Lib.hid hz
      have HXS := Lib.hid hxs
      have HN : Hid (part sep L (j + 1) = (if j = 0 then part sep L j else part sep L j ++ sep) ++ x) := by rw [hx]; exact Lib.hid rfl
      clear hx hjl hz hxs
      rcases Nat.eq_zero_or_pos j with rfl | h0
      · have HN1 : Hid (part sep L 1 = part sep L 0 ++ x) := by have := HN.out; rw [if_pos rfl] at this; exact this
        rw [Nat.add_zero] at d0
        go_wp2_with fail
        refine (write_any _ w.heap.size (part sep L 0) x HB.out (by have := HZ.out; omega) (by have := HXS.out; omega)).mono ?_
        rintro e w6 ⟨rfl, h5, h6⟩
        have HB6 : Hid (Bd w6 w.heap.size (cod (part sep L 1))) := by show Bd _ _ _; rw [HN1.out]; exact h5
        have HG6 := Lib.hid (below_grown ((grown_below HG.out _ (Nat.le_refl _)).trans h6))
        clear h5 h6
        go_wp2
        go_roundw
        case rel => exact ⟨1, by omega, by go_num, HB6, HG6⟩
        case measure => simp [intOf]; omega
      · have HN1 : Hid (part sep L (j + 1) = part sep L j ++ sep ++ x) := by have := HN.out; rw [if_neg (by omega)] at this; exact this
        go_wp2_with fail
        refine (write_any _ w.heap.size (part sep L j) sep HB.out (by have := HZ.out; omega) (by have := HS.out; omega)).mono ?_
        rintro e w5 ⟨rfl, h5, h6⟩
        have HB5 := Lib.hid h5
        have HG5 := Lib.hid (below_grown ((grown_below HG.out _ (Nat.le_refl _)).trans h6))
        have d0 : World.cell? w5 ⟨b, o + j, none⟩ = some (.string x) := by
          have d1 := (HV.out.grown HG5.out).at' (j := j) (by rw [HVN.out]; exact hlt) (i := 0) (by decide)
          have d2 := (HV.out.grown HG.out).at' (j := j) (by rw [HVN.out]; exact hlt) (i := 0) (by decide)
          have := d1.trans d2.symm
          simpa [encS, d0] using this
        clear h5 h6
        go_wp2_with fail
        refine (write_any _ w.heap.size (part sep L j ++ sep) x HB5.out (by rw [size_app]; have := HZ.out; have := HS.out; omega) (by have := HXS.out; omega)).mono ?_
        rintro e w6 ⟨rfl, h5, h6⟩
        have HB6 : Hid (Bd w6 w.heap.size (cod (part sep L (j + 1)))) := by show Bd _ _ _; rw [HN1.out]; exact h5
        have HG6 := Lib.hid (below_grown ((grown_below HG5.out _ (Nat.le_refl _)).trans h6))
        clear h5 h6
        go_wp2
        go_roundw
        case rel => exact ⟨j + 1, by omega, by go_num, HB6, HG6⟩
        case measure => simp [intOf]; omega
    · have hju : vn = j := by omega
      subst hju
      have HT : Hid (part sep L vn = joinB sep L) := by show _ = _; rw [← HVN.out]; rfl
      go_wp2_with fail
      refine (string_any _ w.heap.size _ HB.out).mono ?_
      rintro e w5 ⟨rfl, hb⟩
      have HBL := Lib.hid (below_grown ((grown_below HG.out _ (Nat.le_refl _)).trans hb))
      clear hb
      go_wp2
      go_ret
      exact ⟨ret_s HT.out, HBL.out⟩
end Go.Proofs.YtoanhnklemlfmaaDoor.Txt
