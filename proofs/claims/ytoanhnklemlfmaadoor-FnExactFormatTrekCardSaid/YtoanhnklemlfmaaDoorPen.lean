/- A pen of the call's own that writes a text about a land: its steps. -/
import Derived.Test.YtoanhnklemlfmaaDoorCtx
import Derived.Test.YtoanhnklemlfmaaDoorG2
import Derived.Test.YtoanhnklemlfmaaDoorRow4
namespace Go.Proofs.YtoanhnklemlfmaaDoor.Pen
open Go.RowKit Kit Rw Rg Ld Txt Ctx

structure Pn (w0 w : World) (W H : Int) (lv : Value) (t : ByteArray) : Prop where
  box : ∃ v, Box w w0.heap.size #[.int .i64 W, .int .i64 H, lv, v] 154 ∧ Own .u8 5 w (w0.heap.size + 1) v (cod t)
  grown : w0.grownBy w none
theorem Pn.on {w0 w w' : World} {W H : Int} {lv : Value} {t : ByteArray} (h : Pn w0 w W H lv t) (hg : w.grownBy w' none) : Pn w0 w' W H lv t := by
  obtain ⟨⟨v, hb, ho⟩, h2⟩ := h
  exact ⟨⟨v, hb.grown hg, ho.grown hg⟩, grownN_trans h2 hg⟩
theorem Pn.new (w0 : World) (W H : Int) (lv : Value) : Pn w0 (w0.alloc (.cells #[.int .i64 W, .int .i64 H, lv, .slice none 0 0] 154 (0, 0))) W H lv ⟨#[]⟩ :=
  ⟨⟨_, box_new _ _ _, ⟨World.ownsRow_nil _ _ _ _, by simp [cod]⟩⟩, World.grownBy_alloc _ _ _⟩
theorem set4_3 {w : World} {b : Nat} {x0 x1 x2 x3 u : Value} {t : TypeId} (h : Box w b #[x0, x1, x2, x3] t) : Box (w.setCell ⟨b, 3, none⟩ u) b #[x0, x1, x2, u] t := box_set h 3 u
theorem own_off {w : World} {b : Nat} {v : Value} {L : List Int} (h : Own .u8 5 w (b + 1) v L) : v.ownBlock = none ∨ v.ownBlock ≠ some b := .inr fun e => by have := h.1.lt _ e; omega
theorem str_cod (t : ByteArray) : strOfNums (cod t) = t := by
  apply ByteArray.ext
  apply Array.toList_inj.1
  rw [strOfNums_data]
  unfold cod
  rw [List.map_map]
  conv => rhs; rw [← List.map_id t.data.toList]
  apply List.map_congr_left
  intro b _
  simp
/-- Boxes of other types are let alone. -/
def Kp (w0 w w' : World) : Prop := ∀ k cs T, k ≠ w0.heap.size → T ≠ 5 → Box w k cs T → Box w' k cs T
theorem Kp.of {w0 w w' : World} (h : w.grownBy w' none) : Kp w0 w w' := fun _ _ _ _ _ hb => hb.grown h
theorem Kp.trans {w0 w w1 w2 : World} (h : Kp w0 w w1) (g : Kp w0 w1 w2) : Kp w0 w w2 := fun k cs T h1 h2 hb => g k cs T h1 h2 (h k cs T h1 h2 hb)
theorem own_ne {w : World} {base k : Nat} {v : Value} {L : List Int} {cs : Array Value} {T : TypeId} (h : Own .u8 5 w base v L) (hb : Box w k cs T) (hT : T ≠ 5) : v.ownBlock ≠ some k := Lib.ownBlock_ne h.1 hb hT
/-- A cell's text, or the sign for what is none. -/
noncomputable def cellQ (W H : Int) (X : List Int) (n : Int) : ByteArray := if isCell W H X n = true then cellT W H X n else ⟨#[63]⟩
theorem q_yes {W H : Int} {X : List Int} {n : Int} (h : isCell W H X n = true) : cellQ W H X n = cellT W H X n := if_pos h
theorem q_no {W H : Int} {X : List Int} {n : Int} (h : isCell W H X n = false) : cellQ W H X n = ⟨#[63]⟩ := if_neg (by rw [h]; simp)
theorem q_size (W H : Int) (X : List Int) (n : Int) : (cellQ W H X n).size ≤ 40 := by
  unfold cellQ
  split
  · exact cell_size W H X n
  · show 1 ≤ 40; omega
theorem not_empty {t : ByteArray} (h : t ≠ ⟨#[]⟩) : t.toList.isEmpty = false := by
  rw [ByteArray.toList_eq, List.isEmpty_eq_false_iff]
  intro e
  apply h
  apply ByteArray.ext
  exact Array.toList_inj.1 e

set_option maxHeartbeats 1000000 in
set_option maxRecDepth 100000 in
theorem pwrite_any (w0 w : World) (W H : Int) (lv : Value) (t s : ByteArray) (h : Pn w0 w W H lv t) (hl : t.size ≤ 1000000000) (hs : s.size ≤ 1000000000) :
    Calls Tryd.prog 119 #[.pointer (some ⟨w0.heap.size, 0, none⟩), .string s] w fun e w' => e = .returned (.tuple #[]) ∧ Pn w0 w' W H lv (t ++ s) ∧ Kp w0 w w' := by
  obtain ⟨i0, hi, hz0, hz1, hz2⟩ := info_parts Bld.info_u8
  obtain ⟨⟨v, hb1, ho1⟩, hg⟩ := h
  obtain ⟨va, vn, vc, rfl, HN⟩ := ho1.sees.shape
  have hvn : vn ≤ 1000000000 := by rw [← HN.out, cod_len]; exact hl
  have c3 : w.cell? ⟨w0.heap.size, 3, none⟩ = some (.slice va vn vc) := hb1.cell 3
  have HB1 := Lib.hid hb1
  have HO1 := Lib.hid ho1
  have HG1 := Lib.hid hg
  clear hb1 ho1 hg
  go_enter Tryd.func119, Tryd.ntmps119
  go_wp2_with (at_builtin; go_loud (refine Lib.wpList_append_own_string (w := w) rfl _ _ 131 9 rfl (w0.heap.size + 1) 5 i0 Tryd.underlying131 Tryd.underlying9 hi hz0 hz1 hz2 (.slice va vn vc) (cod t).length _ rfl HO1.out.1 s rfl (by rw [cod_len]; unfold maxLen; omega) (by rw [cod_len]; omega) HB1.out.lt ?_); intro u w2 ho2' hg2 _; have ho2 := own_str (cod_wf t) ho2'; clear ho2'; obtain ⟨ua, un, uc, rfl, HUN⟩ := ho2.sees.shape; have hne : (Value.slice va vn vc).ownBlock ≠ some w0.heap.size := (fun e => by have := HO1.out.1.lt _ e; omega); have HB2 := Lib.hid (HB1.out.kept hg2 hne); have HB3 := Lib.hid (set4_3 (u := .slice ua un uc) HB2.out); have HO2 := Lib.hid ho2; have HG2 : Hid (w0.grownBy w2 none) := grown_new HG1.out hg2 (fun c hc => by have := HO1.out.1.lt c hc; omega); have HO3 := Lib.hid (HO2.out.kept (grown_set w2 w0.heap.size 3 (.slice ua un uc)) (own_off HO2.out)); have HG3 : Hid (w0.grownBy (w2.setCell ⟨w0.heap.size, 3, none⟩ (.slice ua un uc)) none) := grown_new HG2.out (grown_set w2 w0.heap.size 3 (.slice ua un uc)) (fun c hc => by injection hc; omega); have d1 := HB2.out.cell 3; have f1 := HB2.out.free 3; have HKP : Hid (Kp w0 w (w2.setCell ⟨w0.heap.size, 3, none⟩ (.slice ua un uc))) := (fun k cs T h1 h2 hb => (hb.kept hg2 (own_ne HO1.out hb h2)).kept (grown_set w2 w0.heap.size 3 (.slice ua un uc)) (fun e => by injection e with e; exact h1 e.symm)); clear ho2 hg2 c3)
  go_end0
  exact ⟨rfl, ⟨⟨_, HB3.out, by rw [cod_app]; exact HO3.out⟩, HG3.out⟩, HKP.out⟩

set_option maxRecDepth 100000 in
theorem pnum_any (w0 w : World) (W H n : Int) (lv : Value) (t : ByteArray) (h : Pn w0 w W H lv t) (htab : Fmt.Pow10 w0) (hn : -9223372036854775808 ≤ n ∧ n ≤ 9223372036854775807) (hl : t.size ≤ 1000000000) :
    Calls Tryd.prog 77 #[.pointer (some ⟨w0.heap.size, 0, none⟩), .int .i64 n] w fun e w' => e = .returned (.tuple #[]) ∧ Pn w0 w' W H lv (t ++ num n) ∧ Kp w0 w w' := by
  have HP := Lib.hid h
  have HT := Lib.hid htab
  have HL := Lib.hid hl
  have HN := Lib.hid hn
  clear h htab hl hn
  go_enter Tryd.func77, Tryd.ntmps77
  go_wp2_with fail
  refine (iNum_any _ n HN.out (pow_grown HT.out HP.out.grown)).mono ?_
  rintro e w1 ⟨rfl, hg⟩
  have HP1 := Lib.hid (HP.out.on hg)
  have HK1 := Lib.hid (Kp.of (w0 := w0) hg)
  clear hg
  go_wp2_with fail
  refine (pwrite_any w0 w1 W H lv t (num n) HP1.out HL.out (by have := num_size HN.out.1 HN.out.2; omega)).mono ?_
  rintro e w2 ⟨rfl, hp, hk⟩
  have HP2 := Lib.hid hp
  have HK2 := Lib.hid (HK1.out.trans hk)
  clear hp hk
  go_wp2
  go_end0
  exact ⟨rfl, HP2.out, HK2.out⟩

set_option maxHeartbeats 1000000 in
set_option maxRecDepth 100000 in
theorem pcell_any (w0 w : World) (W H n : Int) (lv : Value) (X : List Int) (t : ByteArray) (h : Pn w0 w W H lv t) (hX : Sees .i64 w0 lv X) (htab : Fmt.Pow10 w0) (hl : t.size ≤ 1000000000) :
    Calls Tryd.prog 87 #[.pointer (some ⟨w0.heap.size, 0, none⟩), .int .i64 n] w fun e w' => e = .returned (.tuple #[]) ∧ Pn w0 w' W H lv (t ++ cellQ W H X n) ∧ Kp w0 w w' := by
  obtain ⟨la, ln, lc, rfl, HLN⟩ := hX.shape
  obtain ⟨v, hb, ho⟩ := h.box
  have c0 := hb.cell 0
  have c1 := hb.cell 1
  have c2 := hb.cell 2
  have hcell := Ctx.iCell_any w W H n (.slice la ln lc) X (hX.grown h.grown) (pow_grown htab h.grown)
  have HP := Lib.hid h
  have HL := Lib.hid hl
  have HQ := Lib.hid (q_size W H X n)
  clear h htab hl hX ho hb
  cases hc : isCell W H X n
  · have HR : Hid (cellQ W H X n = ⟨#[63]⟩) := q_no hc
    rw [cell_no hc] at hcell
    have HC := Lib.hid hcell
    clear hc hcell
    go_enter Tryd.func87, Tryd.ntmps87
    go_wp2_with fail
    refine HC.out.mono ?_
    rintro e w1 ⟨rfl, hg⟩
    have HP1 := Lib.hid (HP.out.on hg)
    have HK1 := Lib.hid (Kp.of (w0 := w0) hg)
    clear hg c0 c1 c2
    go_wp2_with fail
    refine (pwrite_any w0 w1 W H _ t ⟨#[63]⟩ HP1.out HL.out (by show 1 ≤ _; omega)).mono ?_
    rintro e w2 ⟨rfl, hp, hk⟩
    have HP2 := Lib.hid hp
    have HK2 := Lib.hid (HK1.out.trans hk)
    clear hp hk
    go_wp2
    go_end0
    exact ⟨rfl, by rw [HR.out]; exact HP2.out, HK2.out⟩
  · have HR : Hid (cellQ W H X n = cellT W H X n) := q_yes hc
    obtain ⟨s, hs⟩ : ∃ s, s = cellT W H X n := ⟨_, rfl⟩
    have hne : s ≠ ⟨#[]⟩ := by rw [hs]; exact cell_ne hc
    have hsz : s.size ≤ 1000000000 := by have := cell_size W H X n; rw [hs]; omega
    rw [← hs] at HR hcell
    have HC := Lib.hid hcell
    have hn1 := not_empty hne
    have hn2 : ¬ s = ⟨#[]⟩ := hne
    have HSZ := Lib.hid hsz
    clear hc hcell hs hne hsz
    go_enter Tryd.func87, Tryd.ntmps87
    go_wp2_with fail
    refine HC.out.mono ?_
    rintro e w1 ⟨rfl, hg⟩
    have HP1 := Lib.hid (HP.out.on hg)
    have HK1 := Lib.hid (Kp.of (w0 := w0) hg)
    clear hg c0 c1 c2
    go_wp2_with fail
    refine (pwrite_any w0 w1 W H _ t s HP1.out HL.out HSZ.out).mono ?_
    rintro e w2 ⟨rfl, hp, hk⟩
    have HP2 := Lib.hid hp
    have HK2 := Lib.hid (HK1.out.trans hk)
    clear hp hk
    go_wp2
    go_end0
    exact ⟨rfl, by rw [HR.out]; exact HP2.out, HK2.out⟩

set_option maxHeartbeats 1000000 in
set_option maxRecDepth 100000 in
/-- The sign for what is no cell, on the model's side. -/
theorem sQ_any (w : World) (W H n : Int) (v : Value) (X : List Int) (hv : Sees .i64 w v X) :
    Calls Tryd.prog 78 #[.agg #[.int .i64 W, .int .i64 H, v], .int .i64 n] w fun e w' => e = .returned (.string (cellQ W H X n)) ∧ w.grownBy w' none := by
  have hgr := World.grownBy_alloc w (.cells #[.int .i64 W, .int .i64 H, v] 27 (0, 0)) none
  have HG := Lib.hid hgr
  have HB := Lib.hid (box_new w #[.int .i64 W, .int .i64 H, v] 27)
  obtain ⟨c0, c1, c2⟩ := HB.out.three
  have hcell := Ctx.sCell_any _ W H n v X (hv.grown hgr)
  obtain ⟨a, cap, rfl, _⟩ := hv
  clear hgr
  cases hc : isCell W H X n
  · have HR : Hid (cellQ W H X n = ⟨#[63]⟩) := q_no hc
    rw [cell_no hc] at hcell
    have HC := Lib.hid hcell
    clear hc hcell
    go_enter Tryd.func78, Tryd.ntmps78
    go_wp2_with fail
    refine HC.out.mono ?_
    rintro e w1 ⟨rfl, hg⟩
    have HG1 := Lib.hid (grownN_trans HG.out hg)
    clear hg c0 c1 c2
    go_wp2
    go_ret
    exact ⟨ret_s HR.out.symm, HG1.out⟩
  · have HR : Hid (cellQ W H X n = cellT W H X n) := q_yes hc
    obtain ⟨s, hs⟩ : ∃ s, s = cellT W H X n := ⟨_, rfl⟩
    have hne : s ≠ ⟨#[]⟩ := by rw [hs]; exact cell_ne hc
    rw [← hs] at HR hcell
    have HC := Lib.hid hcell
    have hn1 := not_empty hne
    have hn2 : ¬ s = ⟨#[]⟩ := hne
    clear hc hcell hs hne
    go_enter Tryd.func78, Tryd.ntmps78
    go_wp2_with fail
    refine HC.out.mono ?_
    rintro e w1 ⟨rfl, hg⟩
    have HG1 := Lib.hid (grownN_trans HG.out hg)
    clear hg c0 c1 c2
    go_wp2
    go_ret
    exact ⟨ret_s HR.out.symm, HG1.out⟩
end Go.Proofs.YtoanhnklemlfmaaDoor.Pen
