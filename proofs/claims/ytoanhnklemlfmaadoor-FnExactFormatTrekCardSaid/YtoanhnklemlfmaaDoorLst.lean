/- Lists written by a pen, and the model's lists of texts. -/
import Derived.Test.YtoanhnklemlfmaaDoorPen
import Derived.Test.YtoanhnklemlfmaaDoorApp
namespace Go.Proofs.YtoanhnklemlfmaaDoor.Lst
open Go.RowKit Kit Rw Rg Ld Txt Ctx Pen

theorem app_assoc (a b c : ByteArray) : a ++ b ++ c = a ++ (b ++ c) := by
  apply ByteArray.ext
  rw [app_data, app_data, app_data, app_data, Array.append_assoc]
theorem pn_lt {w0 w : World} {W H : Int} {lv : Value} {t : ByteArray} (h : Pn w0 w W H lv t) : w0.heap.size < w.heap.size := by
  obtain ⟨⟨v, hb, _⟩, _⟩ := h
  exact hb.lt
noncomputable def depT (W H : Int) (X : List Int) (d : Int × Int) : ByteArray := cellQ W H X d.1 ++ ⟨#[58]⟩ ++ num d.2
noncomputable def pagT (W H : Int) (X : List Int) (p : I4) : ByteArray := num p.x0 ++ ⟨#[64]⟩ ++ cellQ W H X p.x1 ++ ⟨#[61]⟩ ++ num p.x2
theorem one_size (b : UInt8) : (⟨#[b]⟩ : ByteArray).size = 1 := rfl
theorem depT_size {W H : Int} {X : List Int} {d : Int × Int} (h : -9223372036854775808 ≤ d.2 ∧ d.2 ≤ 9223372036854775807) : (depT W H X d).size ≤ 100 := by
  unfold depT
  rw [size_app, size_app, one_size]
  have := q_size W H X d.1
  have := num_size h.1 h.2
  omega
theorem pagT_size {W H : Int} {X : List Int} {p : I4} (h0 : -9223372036854775808 ≤ p.x0 ∧ p.x0 ≤ 9223372036854775807) (h2 : -9223372036854775808 ≤ p.x2 ∧ p.x2 ≤ 9223372036854775807) : (pagT W H X p).size ≤ 100 := by
  unfold pagT
  rw [size_app, size_app, size_app, size_app, one_size, one_size]
  have := q_size W H X p.x1
  have := num_size h0.1 h0.2
  have := num_size h2.1 h2.2
  omega
/-- Texts with spaces between them. -/
def l39 (S : List ByteArray) : ByteArray := if S.length = 0 then ⟨#[45]⟩ else joinB ⟨#[32]⟩ S
theorem l39_no {S : List ByteArray} (h : S.length = 0) : l39 S = ⟨#[45]⟩ := if_pos h
theorem l39_yes {S : List ByteArray} (h : S.length ≠ 0) : l39 S = Txt.part ⟨#[32]⟩ S S.length := if_neg h
theorem getD_map' {α : Type} (f : α → ByteArray) (L : List α) (d : α) {j : Nat} (hj : j < L.length) : (L.map f).getD j ⟨#[]⟩ = f (L.getD j d) := by
  simp [hj]
theorem part0 (sep : ByteArray) (S : List ByteArray) : Txt.part sep S 1 = S.getD 0 ⟨#[]⟩ := by
  show ⟨#[]⟩ ++ S.getD 0 ⟨#[]⟩ = _
  apply ByteArray.ext
  rw [app_data, Array.empty_append]
theorem part_next (sep : ByteArray) (S : List ByteArray) {j : Nat} (h : 0 < j) : Txt.part sep S (j + 1) = Txt.part sep S j ++ sep ++ S.getD j ⟨#[]⟩ := by
  show (if j = 0 then _ else _) ++ _ = _
  rw [if_neg (by omega)]

set_option maxHeartbeats 1000000 in
set_option maxRecDepth 100000 in
theorem pdep_any (w0 w : World) (W H : Int) (d : Int × Int) (lv : Value) (X : List Int) (t : ByteArray) (h : Pn w0 w W H lv t) (hX : Sees .i64 w0 lv X) (htab : Fmt.Pow10 w0) (hd : -9223372036854775808 ≤ d.2 ∧ d.2 ≤ 9223372036854775807) (hl : t.size ≤ 900000000) :
    Calls Tryd.prog 81 #[.pointer (some ⟨w0.heap.size, 0, none⟩), .agg #[.int .i64 d.1, .int .i64 d.2]] w fun e w' => e = .returned (.tuple #[]) ∧ Pn w0 w' W H lv (t ++ depT W H X d) ∧ Kp w0 w w' := by
  obtain ⟨x, y⟩ := d
  have hgr := World.grownBy_alloc w (.cells #[.int .i64 x, .int .i64 y] 102 (0, 0)) none
  have HB := Lib.hid (box_new w #[.int .i64 x, .int .i64 y] 102)
  have HG := Lib.hid hgr
  have HLT := Lib.hid (pn_lt h)
  have HP := Lib.hid (h.on hgr)
  have HX := Lib.hid hX
  have HT := Lib.hid htab
  have HL := Lib.hid hl
  have HD := Lib.hid hd
  have c0 := HB.out.cell 0
  have c1 := HB.out.cell 1
  have HQ := Lib.hid (q_size W H X x)
  clear h hX htab hl hd hgr
  go_enter Tryd.func81, Tryd.ntmps81
  go_wp2_with fail
  refine (pcell_any w0 _ W H x lv X t HP.out HX.out HT.out (by have := HL.out; omega)).mono ?_
  rintro e w1 ⟨rfl, hp, hk⟩
  have HP1 := Lib.hid hp
  have HB1 := Lib.hid (hk _ _ _ (by have := HLT.out; omega) (by decide) HB.out)
  have HK1 := Lib.hid ((Kp.of (w0 := w0) HG.out).trans hk)
  clear hp hk c0 c1
  go_wp2_with fail
  refine (pwrite_any w0 w1 W H lv _ ⟨#[58]⟩ HP1.out (by rw [size_app]; have := HL.out; have := HQ.out; omega) (by show 1 ≤ _; omega)).mono ?_
  rintro e w2 ⟨rfl, hp, hk⟩
  have HP2 := Lib.hid hp
  have HB2 := Lib.hid (hk _ _ _ (by have := HLT.out; omega) (by decide) HB1.out)
  have HK2 := Lib.hid (HK1.out.trans hk)
  clear hp hk
  have c0 := HB2.out.cell 0
  have c1 := HB2.out.cell 1
  go_wp2_with fail
  refine (pnum_any w0 w2 W H y lv _ HP2.out HT.out HD.out (by rw [size_app, size_app, one_size]; have := HL.out; have := HQ.out; omega)).mono ?_
  rintro e w3 ⟨rfl, hp, hk⟩
  have HP3 := Lib.hid hp
  have HK3 := Lib.hid (HK2.out.trans hk)
  clear hp hk c0 c1
  go_wp2
  go_end0
  exact ⟨rfl, by have h := HP3.out; unfold depT; rw [← app_assoc, ← app_assoc]; exact h, HK3.out⟩

set_option maxHeartbeats 1000000 in
set_option maxRecDepth 100000 in
theorem ppag_any (w0 w : World) (W H : Int) (d : I4) (lv : Value) (X : List Int) (t : ByteArray) (h : Pn w0 w W H lv t) (hX : Sees .i64 w0 lv X) (htab : Fmt.Pow10 w0) (hd0 : -9223372036854775808 ≤ d.x0 ∧ d.x0 ≤ 9223372036854775807) (hd2 : -9223372036854775808 ≤ d.x2 ∧ d.x2 ≤ 9223372036854775807) (hl : t.size ≤ 900000000) :
    Calls Tryd.prog 85 #[.pointer (some ⟨w0.heap.size, 0, none⟩), .agg #[.int .i64 d.x0, .int .i64 d.x1, .int .i64 d.x2, .int .i64 d.x3]] w fun e w' => e = .returned (.tuple #[]) ∧ Pn w0 w' W H lv (t ++ pagT W H X d) ∧ Kp w0 w w' := by
  obtain ⟨x, y, z, q⟩ := d
  have hgr := World.grownBy_alloc w (.cells #[.int .i64 x, .int .i64 y, .int .i64 z, .int .i64 q] 110 (0, 0)) none
  have HG := Lib.hid hgr
  have HB := Lib.hid (box_new w #[.int .i64 x, .int .i64 y, .int .i64 z, .int .i64 q] 110)
  have HLT := Lib.hid (pn_lt h)
  have HP := Lib.hid (h.on hgr)
  have HX := Lib.hid hX
  have HT := Lib.hid htab
  have HL := Lib.hid hl
  have HD0 := Lib.hid hd0
  have HD2 := Lib.hid hd2
  have c0 := HB.out.cell 0
  have c1 := HB.out.cell 1
  have c2 := HB.out.cell 2
  have HQ := Lib.hid (q_size W H X y)
  have HN := Lib.hid (num_size hd0.1 hd0.2)
  clear h hX htab hl hd0 hd2 hgr
  go_enter Tryd.func85, Tryd.ntmps85
  go_wp2_with fail
  refine (pnum_any w0 _ W H x lv t HP.out HT.out HD0.out (by have := HL.out; omega)).mono ?_
  rintro e w1 ⟨rfl, hp, hk⟩
  have HP1 := Lib.hid hp
  have HB1 := Lib.hid (hk _ _ _ (by have := HLT.out; omega) (by decide) HB.out)
  have HK1 := Lib.hid ((Kp.of (w0 := w0) HG.out).trans hk)
  clear hp hk c0 c1 c2
  go_wp2_with fail
  refine (pwrite_any w0 w1 W H lv _ ⟨#[64]⟩ HP1.out (by rw [size_app]; have := HL.out; have := HN.out; omega) (by show 1 ≤ _; omega)).mono ?_
  rintro e w2 ⟨rfl, hp, hk⟩
  have HP2 := Lib.hid hp
  have HB2 := Lib.hid (hk _ _ _ (by have := HLT.out; omega) (by decide) HB1.out)
  have HK2 := Lib.hid (HK1.out.trans hk)
  clear hp hk
  have c0 := HB2.out.cell 0
  have c1 := HB2.out.cell 1
  have c2 := HB2.out.cell 2
  go_wp2_with fail
  refine (pcell_any w0 w2 W H y lv X _ HP2.out HX.out HT.out (by rw [size_app, size_app, one_size]; have := HL.out; have := HN.out; omega)).mono ?_
  rintro e w3 ⟨rfl, hp, hk⟩
  have HP3 := Lib.hid hp
  have HB3 := Lib.hid (hk _ _ _ (by have := HLT.out; omega) (by decide) HB2.out)
  have HK3 := Lib.hid (HK2.out.trans hk)
  clear hp hk c0 c1 c2
  go_wp2_with fail
  refine (pwrite_any w0 w3 W H lv _ ⟨#[61]⟩ HP3.out (by rw [size_app, size_app, size_app, one_size]; have := HL.out; have := HN.out; have := HQ.out; omega) (by show 1 ≤ _; omega)).mono ?_
  rintro e w4 ⟨rfl, hp, hk⟩
  have HP4 := Lib.hid hp
  have HB4 := Lib.hid (hk _ _ _ (by have := HLT.out; omega) (by decide) HB3.out)
  have HK4 := Lib.hid (HK3.out.trans hk)
  clear hp hk
  have c0 := HB4.out.cell 0
  have c1 := HB4.out.cell 1
  have c2 := HB4.out.cell 2
  go_wp2_with fail
  refine (pnum_any w0 w4 W H z lv _ HP4.out HT.out HD2.out (by rw [size_app, size_app, size_app, size_app, one_size, one_size]; have := HL.out; have := HN.out; have := HQ.out; omega)).mono ?_
  rintro e w5 ⟨rfl, hp, hk⟩
  have HP5 := Lib.hid hp
  have HK5 := Lib.hid (HK4.out.trans hk)
  clear hp hk c0 c1 c2
  go_wp2
  go_end0
  exact ⟨rfl, by have h := HP5.out; unfold pagT; rw [← app_assoc, ← app_assoc, ← app_assoc, ← app_assoc]; exact h, HK5.out⟩

theorem at_b {P : Program} {f : FuncId} {w0 w : World} {b : Nat} {x : Value} {Q : Ending → World → Prop} (hb : w0.heap.size = b) (h : Calls P f #[.pointer (some ⟨w0.heap.size, 0, none⟩), x] w Q) : Calls P f #[.pointer (some ⟨b, 0, none⟩), x] w Q := hb ▸ h
theorem map_size {α : Type} {f : α → ByteArray} {L : List α} (h : ∀ x ∈ L, (f x).size ≤ 100) : ∀ x ∈ L.map f, x.size ≤ 100 := fun x hx => by
  obtain ⟨y, hy, rfl⟩ := List.mem_map.1 hx
  exact h y hy
theorem getD_mem {α : Type} {L : List α} {j : Nat} {d : α} (hj : j < L.length) : L.getD j d ∈ L := by
  rw [List.getD_eq_getElem?_getD, List.getElem?_eq_getElem hj]; exact List.getElem_mem hj
theorem sizesI {L : List Int} (h : ∀ n ∈ L, (Lit.int .i64 n).wf = true) : ∀ x ∈ L, (num x).size ≤ 100 := fun x hx => by
  have := i64_of (h x hx); have := num_size this.1 this.2; omega
theorem sizesC (W H : Int) (X L : List Int) : ∀ x ∈ L, (cellQ W H X x).size ≤ 100 := fun x _ => by have := q_size W H X x; omega
theorem sizesD (W H : Int) (X : List Int) {L : List (Int × Int)} (h : ∀ n ∈ L, encP.ok n) : ∀ x ∈ L, (depT W H X x).size ≤ 100 := fun x hx => depT_size (i64_of (h x hx).2)
theorem sizesP (W H : Int) (X : List Int) {L : List I4} (h : ∀ n ∈ L, enc4.ok n) : ∀ x ∈ L, (pagT W H X x).size ≤ 100 := fun x hx => pagT_size (i64_of (h x hx).1) (i64_of (h x hx).2.2.1)

set_option maxHeartbeats 4000000 in
set_option maxRecDepth 100000 in
theorem lNum_any (w : World) (W H : Int) (lv v : Value) (X : List Int) (L : List Int) (hX : Sees .i64 w lv X) (hv : Sees .i64 w v L) (hn : L.length ≤ 2000000) (htab : Fmt.Pow10 w) :
    Calls Tryd.prog 76 #[.agg #[.int .i64 W, .int .i64 H, lv], v, .func (.func 77) #[] #[]] w fun e w' => e = .returned (.string (l39 (L.map (num)))) ∧ w.grownBy w' none := by
  obtain ⟨va, vn, vc, rfl, HVN⟩ := hv.shape
  obtain ⟨la, ln, lc, rfl, HLN⟩ := hX.shape
  have hvn : vn ≤ 2000000 := by rw [← HVN.out]; exact hn
  have hg1 := World.grownBy_alloc w (.cells #[.int .i64 W, .int .i64 H, .slice la ln lc] 27 (0, 0)) none
  have HP0 := Lib.hid (Pn.new (w.alloc (.cells #[.int .i64 W, .int .i64 H, .slice la ln lc] 27 (0, 0))) W H (.slice la ln lc))
  have HS1 : Hid ((w.alloc (.cells #[.int .i64 W, .int .i64 H, .slice la ln lc] 27 (0, 0))).heap.size = w.heap.size + 1) := World.size_alloc _ _
  have HX := Lib.hid (hX.grown hg1)
  have HT := Lib.hid (pow_grown htab hg1)
  have HV := Lib.hid (hv.grown hg1)
  have HG1 := Lib.hid hg1
  have HB0 := Lib.hid (box_new w #[.int .i64 W, .int .i64 H, .slice la ln lc] 27)
  obtain ⟨c0, c1, c2⟩ := HB0.out.three
  have HWF := Lib.hid hv.wf
  have HZ := Lib.hid (part_size (sep := ⟨#[32]⟩) (by show 1 ≤ 100; omega) (map_size (f := num) (sizesI HWF.out)))
  have HML : Hid ((L.map (num)).length = vn) := by show _ = _; rw [List.length_map]; exact HVN.out
  obtain ⟨S, hS⟩ : ∃ S, S = L.map (num) := ⟨_, rfl⟩
  rw [← hS] at HZ HML ⊢
  have HAT : Hid (∀ j, j < vn → S.getD j ⟨#[]⟩ = (num) (L.getD j 0)) := fun j hj => by rw [hS]; exact getD_map' (num) L 0 (by rw [HVN.out]; exact hj)
  clear hg1 hX htab hv hn hS
  by_cases h0 : vn = 0
  · have HR : Hid (l39 S = ⟨#[45]⟩) := l39_no (by rw [HML.out]; exact h0)
    subst h0
    go_enter Tryd.func76, Tryd.ntmps76
    go_wp2
    go_ret
    exact ⟨ret_s HR.out.symm, HG1.out⟩
  · have HR : Hid (l39 S = Txt.part ⟨#[32]⟩ S vn) := by show _ = _; rw [l39_yes (by rw [HML.out]; exact h0), HML.out]
    have hb0 : ((vn : Int) == 0) = false := by simpa using h0
    go_enter Tryd.func76, Tryd.ntmps76
    go_wp2
    generalize w.alloc (.cells #[.int .i64 W, .int .i64 H, .slice la ln lc] 27 (0, 0)) = W1 at *
    generalize W1.alloc (.cells #[.int .i64 W, .int .i64 H, .slice la ln lc, .slice none 0 0] 154 (0, 0)) = W2 at *
    clear c0 c1 c2 HB0 hb0 h0
    go_loopw [18] (fun i wr => ∃ j : Nat, j ≤ vn ∧ i = .int .i64 j ∧ Hid (Pn W1 wr W H (.slice la ln lc) (Txt.part ⟨#[32]⟩ S j))) (fun i _ => vn - (intOf i).toNat)
    case atStart => exact ⟨0, Nat.zero_le _, rfl, HP0⟩
    case round =>
      rename_i _ wr
      obtain ⟨j, hj, rfl, HP⟩ := hrel
      by_cases hlt : j < vn
      · have hjl : j < L.length := by rw [HVN.out]; exact hlt
        obtain ⟨b, o, rfl, _⟩ := HV.out.at_row hjl
        have hjv : (j : Int) < (vn : Int) := by omega
        have hj0 : (0 : Int) ≤ (j : Int) := by omega
        have hz : (Txt.part ⟨#[32]⟩ S j).size ≤ 600000000 := by have := HZ.out j; omega
        have HZ1 := Lib.hid hz
        obtain ⟨x, hx⟩ : ∃ x, x = L.getD j 0 := ⟨_, rfl⟩
        have HXD := Lib.hid hx
        have hxb : -9223372036854775808 ≤ x ∧ x ≤ 9223372036854775807 := i64_of (HWF.out x (by rw [hx]; exact getD_mem hjl))
        have HXB := Lib.hid hxb
        have d0 := (HV.out.grown HP.out.grown).at' hjl
        rw [← hx] at d0
        clear hx hz hxb
        rcases Nat.eq_zero_or_pos j with rfl | h0
        · have HN : Hid (Txt.part ⟨#[32]⟩ S 1 = Txt.part ⟨#[32]⟩ S 0 ++ (num) x) := by show _ = _; rw [HXD.out, ← HAT.out 0 hlt]; rfl
          rw [Nat.add_zero] at d0
          clear hjl
          go_wp2_with fail
          have HPA := HP
          refine (at_b HS1.out (pnum_any W1 _ W H x (.slice la ln lc) _ HPA.out HT.out HXB.out (by have := HZ1.out; omega))).mono ?_
          rintro e w6 ⟨rfl, hp, _⟩
          have HP6 : Hid (Pn W1 w6 W H (.slice la ln lc) (Txt.part ⟨#[32]⟩ S 1)) := by show Pn _ _ _ _ _ _; rw [HN.out]; exact hp
          clear hp
          go_wp2
          go_roundw
          case rel => exact ⟨1, by omega, by go_num, HP6⟩
          case measure => simp [intOf]; omega
        · have HN : Hid (Txt.part ⟨#[32]⟩ S (j + 1) = Txt.part ⟨#[32]⟩ S j ++ ⟨#[32]⟩ ++ (num) x) := by show _ = _; rw [part_next _ _ h0, HXD.out, HAT.out j hlt]
          clear hjl
          go_wp2_with fail
          have HPA := HP
          refine (at_b HS1.out (pwrite_any W1 _ W H (.slice la ln lc) _ ⟨#[32]⟩ HPA.out (by have := HZ1.out; omega) (by show 1 ≤ _; omega))).mono ?_
          rintro e w5 ⟨rfl, hp, hk⟩
          have HPB := Lib.hid hp
          have HZ2 : Hid ((Txt.part ⟨#[32]⟩ S j ++ ⟨#[32]⟩).size ≤ 700000000) := by show _ ≤ _; rw [size_app, one_size]; have := HZ1.out; omega
          have d0 : World.cell? w5 ⟨b, o + j, none⟩ = some (.int .i64 x) := by rw [HXD.out]; exact (HV.out.grown HPB.out.grown).at' (by rw [HVN.out]; exact hlt)
          clear hp hk
          go_wp2_with fail
          refine (at_b HS1.out (pnum_any W1 _ W H x (.slice la ln lc) _ HPB.out HT.out HXB.out (by have := HZ2.out; omega))).mono ?_
          rintro e w6 ⟨rfl, hp, _⟩
          have HP6 : Hid (Pn W1 w6 W H (.slice la ln lc) (Txt.part ⟨#[32]⟩ S (j + 1))) := by show Pn _ _ _ _ _ _; rw [HN.out]; exact hp
          clear hp
          go_wp2
          go_roundw
          case rel => exact ⟨j + 1, by omega, by go_num, HP6⟩
          case measure => simp [intOf]; omega
      · have hju : vn = j := by omega
        subst hju
        obtain ⟨⟨tv, hb, ho⟩, hg⟩ := HP.out
        obtain ⟨ta, tn, tc, rfl, _⟩ := ho.sees.shape
        rw [HS1.out] at hb
        have c3 : wr.cell? ⟨w.heap.size + 1, 3, none⟩ = some (.slice ta tn tc) := hb.cell 3
        have hcv := run_convert_sees (P := Tryd.prog) wr 131 9 5 Tryd.underlying131 Tryd.underlying5 Tryd.underlying9 ho.sees
        rw [str_cod] at hcv
        have HG2 := Lib.hid (grownN_trans HG1.out hg)
        clear hb ho hg
        go_wp2
        go_ret
        exact ⟨ret_s HR.out.symm, HG2.out⟩

set_option maxHeartbeats 4000000 in
set_option maxRecDepth 100000 in
theorem lCel_any (w : World) (W H : Int) (lv v : Value) (X : List Int) (L : List Int) (hX : Sees .i64 w lv X) (hv : Sees .i64 w v L) (hn : L.length ≤ 2000000) (htab : Fmt.Pow10 w) :
    Calls Tryd.prog 76 #[.agg #[.int .i64 W, .int .i64 H, lv], v, .func (.func 87) #[] #[]] w fun e w' => e = .returned (.string (l39 (L.map (cellQ W H X)))) ∧ w.grownBy w' none := by
  obtain ⟨va, vn, vc, rfl, HVN⟩ := hv.shape
  obtain ⟨la, ln, lc, rfl, HLN⟩ := hX.shape
  have hvn : vn ≤ 2000000 := by rw [← HVN.out]; exact hn
  have hg1 := World.grownBy_alloc w (.cells #[.int .i64 W, .int .i64 H, .slice la ln lc] 27 (0, 0)) none
  have HP0 := Lib.hid (Pn.new (w.alloc (.cells #[.int .i64 W, .int .i64 H, .slice la ln lc] 27 (0, 0))) W H (.slice la ln lc))
  have HS1 : Hid ((w.alloc (.cells #[.int .i64 W, .int .i64 H, .slice la ln lc] 27 (0, 0))).heap.size = w.heap.size + 1) := World.size_alloc _ _
  have HX := Lib.hid (hX.grown hg1)
  have HT := Lib.hid (pow_grown htab hg1)
  have HV := Lib.hid (hv.grown hg1)
  have HG1 := Lib.hid hg1
  have HB0 := Lib.hid (box_new w #[.int .i64 W, .int .i64 H, .slice la ln lc] 27)
  obtain ⟨c0, c1, c2⟩ := HB0.out.three
  have HWF := Lib.hid hv.wf
  have HZ := Lib.hid (part_size (sep := ⟨#[32]⟩) (by show 1 ≤ 100; omega) (map_size (f := cellQ W H X) (sizesC W H X L)))
  have HML : Hid ((L.map (cellQ W H X)).length = vn) := by show _ = _; rw [List.length_map]; exact HVN.out
  obtain ⟨S, hS⟩ : ∃ S, S = L.map (cellQ W H X) := ⟨_, rfl⟩
  rw [← hS] at HZ HML ⊢
  have HAT : Hid (∀ j, j < vn → S.getD j ⟨#[]⟩ = (cellQ W H X) (L.getD j 0)) := fun j hj => by rw [hS]; exact getD_map' (cellQ W H X) L 0 (by rw [HVN.out]; exact hj)
  clear hg1 hX htab hv hn hS
  by_cases h0 : vn = 0
  · have HR : Hid (l39 S = ⟨#[45]⟩) := l39_no (by rw [HML.out]; exact h0)
    subst h0
    go_enter Tryd.func76, Tryd.ntmps76
    go_wp2
    go_ret
    exact ⟨ret_s HR.out.symm, HG1.out⟩
  · have HR : Hid (l39 S = Txt.part ⟨#[32]⟩ S vn) := by show _ = _; rw [l39_yes (by rw [HML.out]; exact h0), HML.out]
    have hb0 : ((vn : Int) == 0) = false := by simpa using h0
    go_enter Tryd.func76, Tryd.ntmps76
    go_wp2
    generalize w.alloc (.cells #[.int .i64 W, .int .i64 H, .slice la ln lc] 27 (0, 0)) = W1 at *
    generalize W1.alloc (.cells #[.int .i64 W, .int .i64 H, .slice la ln lc, .slice none 0 0] 154 (0, 0)) = W2 at *
    clear c0 c1 c2 HB0 hb0 h0
    go_loopw [18] (fun i wr => ∃ j : Nat, j ≤ vn ∧ i = .int .i64 j ∧ Hid (Pn W1 wr W H (.slice la ln lc) (Txt.part ⟨#[32]⟩ S j))) (fun i _ => vn - (intOf i).toNat)
    case atStart => exact ⟨0, Nat.zero_le _, rfl, HP0⟩
    case round =>
      rename_i _ wr
      obtain ⟨j, hj, rfl, HP⟩ := hrel
      by_cases hlt : j < vn
      · have hjl : j < L.length := by rw [HVN.out]; exact hlt
        obtain ⟨b, o, rfl, _⟩ := HV.out.at_row hjl
        have hjv : (j : Int) < (vn : Int) := by omega
        have hj0 : (0 : Int) ≤ (j : Int) := by omega
        have hz : (Txt.part ⟨#[32]⟩ S j).size ≤ 600000000 := by have := HZ.out j; omega
        have HZ1 := Lib.hid hz
        obtain ⟨x, hx⟩ : ∃ x, x = L.getD j 0 := ⟨_, rfl⟩
        have HXD := Lib.hid hx
        have hxb : -9223372036854775808 ≤ x ∧ x ≤ 9223372036854775807 := i64_of (HWF.out x (by rw [hx]; exact getD_mem hjl))
        have HXB := Lib.hid hxb
        have d0 := (HV.out.grown HP.out.grown).at' hjl
        rw [← hx] at d0
        clear hx hz hxb
        rcases Nat.eq_zero_or_pos j with rfl | h0
        · have HN : Hid (Txt.part ⟨#[32]⟩ S 1 = Txt.part ⟨#[32]⟩ S 0 ++ (cellQ W H X) x) := by show _ = _; rw [HXD.out, ← HAT.out 0 hlt]; rfl
          rw [Nat.add_zero] at d0
          clear hjl
          go_wp2_with fail
          have HPA := HP
          refine (at_b HS1.out (pcell_any W1 _ W H x (.slice la ln lc) X _ HPA.out HX.out HT.out (by have := HZ1.out; omega))).mono ?_
          rintro e w6 ⟨rfl, hp, _⟩
          have HP6 : Hid (Pn W1 w6 W H (.slice la ln lc) (Txt.part ⟨#[32]⟩ S 1)) := by show Pn _ _ _ _ _ _; rw [HN.out]; exact hp
          clear hp
          go_wp2
          go_roundw
          case rel => exact ⟨1, by omega, by go_num, HP6⟩
          case measure => simp [intOf]; omega
        · have HN : Hid (Txt.part ⟨#[32]⟩ S (j + 1) = Txt.part ⟨#[32]⟩ S j ++ ⟨#[32]⟩ ++ (cellQ W H X) x) := by show _ = _; rw [part_next _ _ h0, HXD.out, HAT.out j hlt]
          clear hjl
          go_wp2_with fail
          have HPA := HP
          refine (at_b HS1.out (pwrite_any W1 _ W H (.slice la ln lc) _ ⟨#[32]⟩ HPA.out (by have := HZ1.out; omega) (by show 1 ≤ _; omega))).mono ?_
          rintro e w5 ⟨rfl, hp, hk⟩
          have HPB := Lib.hid hp
          have HZ2 : Hid ((Txt.part ⟨#[32]⟩ S j ++ ⟨#[32]⟩).size ≤ 700000000) := by show _ ≤ _; rw [size_app, one_size]; have := HZ1.out; omega
          have d0 : World.cell? w5 ⟨b, o + j, none⟩ = some (.int .i64 x) := by rw [HXD.out]; exact (HV.out.grown HPB.out.grown).at' (by rw [HVN.out]; exact hlt)
          clear hp hk
          go_wp2_with fail
          refine (at_b HS1.out (pcell_any W1 _ W H x (.slice la ln lc) X _ HPB.out HX.out HT.out (by have := HZ2.out; omega))).mono ?_
          rintro e w6 ⟨rfl, hp, _⟩
          have HP6 : Hid (Pn W1 w6 W H (.slice la ln lc) (Txt.part ⟨#[32]⟩ S (j + 1))) := by show Pn _ _ _ _ _ _; rw [HN.out]; exact hp
          clear hp
          go_wp2
          go_roundw
          case rel => exact ⟨j + 1, by omega, by go_num, HP6⟩
          case measure => simp [intOf]; omega
      · have hju : vn = j := by omega
        subst hju
        obtain ⟨⟨tv, hb, ho⟩, hg⟩ := HP.out
        obtain ⟨ta, tn, tc, rfl, _⟩ := ho.sees.shape
        rw [HS1.out] at hb
        have c3 : wr.cell? ⟨w.heap.size + 1, 3, none⟩ = some (.slice ta tn tc) := hb.cell 3
        have hcv := run_convert_sees (P := Tryd.prog) wr 131 9 5 Tryd.underlying131 Tryd.underlying5 Tryd.underlying9 ho.sees
        rw [str_cod] at hcv
        have HG2 := Lib.hid (grownN_trans HG1.out hg)
        clear hb ho hg
        go_wp2
        go_ret
        exact ⟨ret_s HR.out.symm, HG2.out⟩

set_option maxHeartbeats 4000000 in
set_option maxRecDepth 100000 in
theorem lDep_any (w : World) (W H : Int) (lv v : Value) (X : List Int) (L : List (Int × Int)) (hX : Sees .i64 w lv X) (hv : SeesG encP w v L) (hn : L.length ≤ 2000000) (htab : Fmt.Pow10 w) :
    Calls Tryd.prog 80 #[.agg #[.int .i64 W, .int .i64 H, lv], v, .func (.func 81) #[] #[]] w fun e w' => e = .returned (.string (l39 (L.map (depT W H X)))) ∧ w.grownBy w' none := by
  obtain ⟨va, vn, vc, rfl, HVN⟩ := hv.shape
  obtain ⟨la, ln, lc, rfl, HLN⟩ := hX.shape
  have hvn : vn ≤ 2000000 := by rw [← HVN.out]; exact hn
  have hg1 := World.grownBy_alloc w (.cells #[.int .i64 W, .int .i64 H, .slice la ln lc] 27 (0, 0)) none
  have HP0 := Lib.hid (Pn.new (w.alloc (.cells #[.int .i64 W, .int .i64 H, .slice la ln lc] 27 (0, 0))) W H (.slice la ln lc))
  have HS1 : Hid ((w.alloc (.cells #[.int .i64 W, .int .i64 H, .slice la ln lc] 27 (0, 0))).heap.size = w.heap.size + 1) := World.size_alloc _ _
  have HX := Lib.hid (hX.grown hg1)
  have HT := Lib.hid (pow_grown htab hg1)
  have HV := Lib.hid (hv.grown hg1)
  have HG1 := Lib.hid hg1
  have HB0 := Lib.hid (box_new w #[.int .i64 W, .int .i64 H, .slice la ln lc] 27)
  obtain ⟨c0, c1, c2⟩ := HB0.out.three
  have HWF := Lib.hid hv.ok
  have HZ := Lib.hid (part_size (sep := ⟨#[32]⟩) (by show 1 ≤ 100; omega) (map_size (f := depT W H X) (sizesD W H X HWF.out)))
  have HML : Hid ((L.map (depT W H X)).length = vn) := by show _ = _; rw [List.length_map]; exact HVN.out
  obtain ⟨S, hS⟩ : ∃ S, S = L.map (depT W H X) := ⟨_, rfl⟩
  rw [← hS] at HZ HML ⊢
  have HAT : Hid (∀ j, j < vn → S.getD j ⟨#[]⟩ = (depT W H X) (L.getD j (0, 0))) := fun j hj => by rw [hS]; exact getD_map' (depT W H X) L (0, 0) (by rw [HVN.out]; exact hj)
  clear hg1 hX htab hv hn hS
  by_cases h0 : vn = 0
  · have HR : Hid (l39 S = ⟨#[45]⟩) := l39_no (by rw [HML.out]; exact h0)
    subst h0
    go_enter Tryd.func80, Tryd.ntmps80
    go_wp2
    go_ret
    exact ⟨ret_s HR.out.symm, HG1.out⟩
  · have HR : Hid (l39 S = Txt.part ⟨#[32]⟩ S vn) := by show _ = _; rw [l39_yes (by rw [HML.out]; exact h0), HML.out]
    have hb0 : ((vn : Int) == 0) = false := by simpa using h0
    go_enter Tryd.func80, Tryd.ntmps80
    go_wp2
    generalize w.alloc (.cells #[.int .i64 W, .int .i64 H, .slice la ln lc] 27 (0, 0)) = W1 at *
    generalize W1.alloc (.cells #[.int .i64 W, .int .i64 H, .slice la ln lc, .slice none 0 0] 154 (0, 0)) = W2 at *
    clear c0 c1 c2 HB0 hb0 h0
    go_loopw [18] (fun i wr => ∃ j : Nat, j ≤ vn ∧ i = .int .i64 j ∧ Hid (Pn W1 wr W H (.slice la ln lc) (Txt.part ⟨#[32]⟩ S j))) (fun i _ => vn - (intOf i).toNat)
    case atStart => exact ⟨0, Nat.zero_le _, rfl, HP0⟩
    case round =>
      rename_i _ wr
      obtain ⟨j, hj, rfl, HP⟩ := hrel
      by_cases hlt : j < vn
      · have hjl : j < L.length := by rw [HVN.out]; exact hlt
        obtain ⟨b, o, rfl, _⟩ := HV.out.at_row hjl
        have hjv : (j : Int) < (vn : Int) := by omega
        have hj0 : (0 : Int) ≤ (j : Int) := by omega
        have hz : (Txt.part ⟨#[32]⟩ S j).size ≤ 600000000 := by have := HZ.out j; omega
        have HZ1 := Lib.hid hz
        obtain ⟨x, hx⟩ : ∃ x, x = L.getD j (0, 0) := ⟨_, rfl⟩
        have HXD := Lib.hid hx
        have hok := HWF.out x (by rw [hx]; exact getD_mem hjl)
        have HXB := Lib.hid (i64_of hok.2)
        obtain ⟨d0, d1⟩ := (HV.out.grown HP.out.grown).atP hjl
        rw [← hx] at d0 d1
        obtain ⟨x0, x1⟩ := x
        dsimp only at d0 d1
        simp only [← Nat.add_assoc] at d1
        clear hx hz hok
        rcases Nat.eq_zero_or_pos j with rfl | h0
        · have HN : Hid (Txt.part ⟨#[32]⟩ S 1 = Txt.part ⟨#[32]⟩ S 0 ++ (depT W H X) (x0, x1)) := by show _ = _; rw [HXD.out, ← HAT.out 0 hlt]; rfl
          simp only [Nat.zero_mul, Nat.add_zero] at d0 d1
          clear hjl
          go_wp2_with fail
          generalize hWA : wr.alloc (.cells #[.int .i64 x0, .int .i64 x1] 102 (0, 0)) = WA
          have hgA := World.grownBy_alloc wr (.cells #[.int .i64 x0, .int .i64 x1] 102 (0, 0)) none
          have hbA := box_new wr #[.int .i64 x0, .int .i64 x1] 102
          rw [hWA] at hgA hbA
          have HPA := Lib.hid (HP.out.on hgA)
          have HBA := Lib.hid hbA
          have HLT := Lib.hid (pn_lt HP.out)
          clear hWA hgA hbA
          refine (at_b HS1.out (pdep_any W1 _ W H (x0, x1) (.slice la ln lc) X _ HPA.out HX.out HT.out HXB.out (by have := HZ1.out; omega))).mono ?_
          rintro e w6 ⟨rfl, hp, _⟩
          have HP6 : Hid (Pn W1 w6 W H (.slice la ln lc) (Txt.part ⟨#[32]⟩ S 1)) := by show Pn _ _ _ _ _ _; rw [HN.out]; exact hp
          clear hp
          go_wp2
          go_roundw
          case rel => exact ⟨1, by omega, by go_num, HP6⟩
          case measure => simp [intOf]; omega
        · have HN : Hid (Txt.part ⟨#[32]⟩ S (j + 1) = Txt.part ⟨#[32]⟩ S j ++ ⟨#[32]⟩ ++ (depT W H X) (x0, x1)) := by show _ = _; rw [part_next _ _ h0, HXD.out, HAT.out j hlt]
          clear hjl
          go_wp2_with fail
          generalize hWA : wr.alloc (.cells #[.int .i64 x0, .int .i64 x1] 102 (0, 0)) = WA
          have hgA := World.grownBy_alloc wr (.cells #[.int .i64 x0, .int .i64 x1] 102 (0, 0)) none
          have hbA := box_new wr #[.int .i64 x0, .int .i64 x1] 102
          rw [hWA] at hgA hbA
          have HPA := Lib.hid (HP.out.on hgA)
          have HBA := Lib.hid hbA
          have HLT := Lib.hid (pn_lt HP.out)
          clear hWA hgA hbA
          refine (at_b HS1.out (pwrite_any W1 _ W H (.slice la ln lc) _ ⟨#[32]⟩ HPA.out (by have := HZ1.out; omega) (by show 1 ≤ _; omega))).mono ?_
          rintro e w5 ⟨rfl, hp, hk⟩
          have HPB := Lib.hid hp
          have HZ2 : Hid ((Txt.part ⟨#[32]⟩ S j ++ ⟨#[32]⟩).size ≤ 700000000) := by show _ ≤ _; rw [size_app, one_size]; have := HZ1.out; omega
          have e0 := (hk _ _ _ (by have := HLT.out; omega) (by decide) HBA.out).cell 0
          have e1 := (hk _ _ _ (by have := HLT.out; omega) (by decide) HBA.out).cell 1
          clear hp hk
          go_wp2_with fail
          refine (at_b HS1.out (pdep_any W1 _ W H (x0, x1) (.slice la ln lc) X _ HPB.out HX.out HT.out HXB.out (by have := HZ2.out; omega))).mono ?_
          rintro e w6 ⟨rfl, hp, _⟩
          have HP6 : Hid (Pn W1 w6 W H (.slice la ln lc) (Txt.part ⟨#[32]⟩ S (j + 1))) := by show Pn _ _ _ _ _ _; rw [HN.out]; exact hp
          clear hp
          go_wp2
          go_roundw
          case rel => exact ⟨j + 1, by omega, by go_num, HP6⟩
          case measure => simp [intOf]; omega
      · have hju : vn = j := by omega
        subst hju
        obtain ⟨⟨tv, hb, ho⟩, hg⟩ := HP.out
        obtain ⟨ta, tn, tc, rfl, _⟩ := ho.sees.shape
        rw [HS1.out] at hb
        have c3 : wr.cell? ⟨w.heap.size + 1, 3, none⟩ = some (.slice ta tn tc) := hb.cell 3
        have hcv := run_convert_sees (P := Tryd.prog) wr 131 9 5 Tryd.underlying131 Tryd.underlying5 Tryd.underlying9 ho.sees
        rw [str_cod] at hcv
        have HG2 := Lib.hid (grownN_trans HG1.out hg)
        clear hb ho hg
        go_wp2
        go_ret
        exact ⟨ret_s HR.out.symm, HG2.out⟩

set_option maxHeartbeats 4000000 in
set_option maxRecDepth 100000 in
theorem lPag_any (w : World) (W H : Int) (lv v : Value) (X : List Int) (L : List I4) (hX : Sees .i64 w lv X) (hv : SeesG enc4 w v L) (hn : L.length ≤ 2000000) (htab : Fmt.Pow10 w) :
    Calls Tryd.prog 84 #[.agg #[.int .i64 W, .int .i64 H, lv], v, .func (.func 85) #[] #[]] w fun e w' => e = .returned (.string (l39 (L.map (pagT W H X)))) ∧ w.grownBy w' none := by
  obtain ⟨va, vn, vc, rfl, HVN⟩ := hv.shape
  obtain ⟨la, ln, lc, rfl, HLN⟩ := hX.shape
  have hvn : vn ≤ 2000000 := by rw [← HVN.out]; exact hn
  have hg1 := World.grownBy_alloc w (.cells #[.int .i64 W, .int .i64 H, .slice la ln lc] 27 (0, 0)) none
  have HP0 := Lib.hid (Pn.new (w.alloc (.cells #[.int .i64 W, .int .i64 H, .slice la ln lc] 27 (0, 0))) W H (.slice la ln lc))
  have HS1 : Hid ((w.alloc (.cells #[.int .i64 W, .int .i64 H, .slice la ln lc] 27 (0, 0))).heap.size = w.heap.size + 1) := World.size_alloc _ _
  have HX := Lib.hid (hX.grown hg1)
  have HT := Lib.hid (pow_grown htab hg1)
  have HV := Lib.hid (hv.grown hg1)
  have HG1 := Lib.hid hg1
  have HB0 := Lib.hid (box_new w #[.int .i64 W, .int .i64 H, .slice la ln lc] 27)
  obtain ⟨c0, c1, c2⟩ := HB0.out.three
  have HWF := Lib.hid hv.ok
  have HZ := Lib.hid (part_size (sep := ⟨#[32]⟩) (by show 1 ≤ 100; omega) (map_size (f := pagT W H X) (sizesP W H X HWF.out)))
  have HML : Hid ((L.map (pagT W H X)).length = vn) := by show _ = _; rw [List.length_map]; exact HVN.out
  obtain ⟨S, hS⟩ : ∃ S, S = L.map (pagT W H X) := ⟨_, rfl⟩
  rw [← hS] at HZ HML ⊢
  have HAT : Hid (∀ j, j < vn → S.getD j ⟨#[]⟩ = (pagT W H X) (L.getD j zI4)) := fun j hj => by rw [hS]; exact getD_map' (pagT W H X) L zI4 (by rw [HVN.out]; exact hj)
  clear hg1 hX htab hv hn hS
  by_cases h0 : vn = 0
  · have HR : Hid (l39 S = ⟨#[45]⟩) := l39_no (by rw [HML.out]; exact h0)
    subst h0
    go_enter Tryd.func84, Tryd.ntmps84
    go_wp2
    go_ret
    exact ⟨ret_s HR.out.symm, HG1.out⟩
  · have HR : Hid (l39 S = Txt.part ⟨#[32]⟩ S vn) := by show _ = _; rw [l39_yes (by rw [HML.out]; exact h0), HML.out]
    have hb0 : ((vn : Int) == 0) = false := by simpa using h0
    go_enter Tryd.func84, Tryd.ntmps84
    go_wp2
    generalize w.alloc (.cells #[.int .i64 W, .int .i64 H, .slice la ln lc] 27 (0, 0)) = W1 at *
    generalize W1.alloc (.cells #[.int .i64 W, .int .i64 H, .slice la ln lc, .slice none 0 0] 154 (0, 0)) = W2 at *
    clear c0 c1 c2 HB0 hb0 h0
    go_loopw [18] (fun i wr => ∃ j : Nat, j ≤ vn ∧ i = .int .i64 j ∧ Hid (Pn W1 wr W H (.slice la ln lc) (Txt.part ⟨#[32]⟩ S j))) (fun i _ => vn - (intOf i).toNat)
    case atStart => exact ⟨0, Nat.zero_le _, rfl, HP0⟩
    case round =>
      rename_i _ wr
      obtain ⟨j, hj, rfl, HP⟩ := hrel
      by_cases hlt : j < vn
      · have hjl : j < L.length := by rw [HVN.out]; exact hlt
        obtain ⟨b, o, rfl, _⟩ := HV.out.at_row hjl
        have hjv : (j : Int) < (vn : Int) := by omega
        have hj0 : (0 : Int) ≤ (j : Int) := by omega
        have hz : (Txt.part ⟨#[32]⟩ S j).size ≤ 600000000 := by have := HZ.out j; omega
        have HZ1 := Lib.hid hz
        obtain ⟨x, hx⟩ : ∃ x, x = L.getD j zI4 := ⟨_, rfl⟩
        have HXD := Lib.hid hx
        have hok := HWF.out x (by rw [hx]; exact getD_mem hjl)
        have HXB := Lib.hid (i64_of hok.1)
        have HXC := Lib.hid (i64_of hok.2.2.1)
        obtain ⟨d0, d1, d2, d3⟩ := at4_in HV.out HP.out.grown hjl hx.symm
        obtain ⟨x0, x1, x2, x3⟩ := x
        dsimp only at d0 d1 d2 d3
        clear hx hz hok
        rcases Nat.eq_zero_or_pos j with rfl | h0
        · have HN : Hid (Txt.part ⟨#[32]⟩ S 1 = Txt.part ⟨#[32]⟩ S 0 ++ (pagT W H X) ⟨x0, x1, x2, x3⟩) := by show _ = _; rw [HXD.out, ← HAT.out 0 hlt]; rfl
          simp only [Nat.zero_mul, Nat.add_zero] at d0 d1 d2 d3
          clear hjl
          go_wp2_with fail
          generalize hWA : wr.alloc (.cells #[.int .i64 x0, .int .i64 x1, .int .i64 x2, .int .i64 x3] 110 (0, 0)) = WA
          have hgA := World.grownBy_alloc wr (.cells #[.int .i64 x0, .int .i64 x1, .int .i64 x2, .int .i64 x3] 110 (0, 0)) none
          have hbA := box_new wr #[.int .i64 x0, .int .i64 x1, .int .i64 x2, .int .i64 x3] 110
          rw [hWA] at hgA hbA
          have HPA := Lib.hid (HP.out.on hgA)
          have HBA := Lib.hid hbA
          have HLT := Lib.hid (pn_lt HP.out)
          clear hWA hgA hbA
          refine (at_b HS1.out (ppag_any W1 _ W H ⟨x0, x1, x2, x3⟩ (.slice la ln lc) X _ HPA.out HX.out HT.out HXB.out HXC.out (by have := HZ1.out; omega))).mono ?_
          rintro e w6 ⟨rfl, hp, _⟩
          have HP6 : Hid (Pn W1 w6 W H (.slice la ln lc) (Txt.part ⟨#[32]⟩ S 1)) := by show Pn _ _ _ _ _ _; rw [HN.out]; exact hp
          clear hp
          go_wp2
          go_roundw
          case rel => exact ⟨1, by omega, by go_num, HP6⟩
          case measure => simp [intOf]; omega
        · have HN : Hid (Txt.part ⟨#[32]⟩ S (j + 1) = Txt.part ⟨#[32]⟩ S j ++ ⟨#[32]⟩ ++ (pagT W H X) ⟨x0, x1, x2, x3⟩) := by show _ = _; rw [part_next _ _ h0, HXD.out, HAT.out j hlt]
          clear hjl
          go_wp2_with fail
          generalize hWA : wr.alloc (.cells #[.int .i64 x0, .int .i64 x1, .int .i64 x2, .int .i64 x3] 110 (0, 0)) = WA
          have hgA := World.grownBy_alloc wr (.cells #[.int .i64 x0, .int .i64 x1, .int .i64 x2, .int .i64 x3] 110 (0, 0)) none
          have hbA := box_new wr #[.int .i64 x0, .int .i64 x1, .int .i64 x2, .int .i64 x3] 110
          rw [hWA] at hgA hbA
          have HPA := Lib.hid (HP.out.on hgA)
          have HBA := Lib.hid hbA
          have HLT := Lib.hid (pn_lt HP.out)
          clear hWA hgA hbA
          refine (at_b HS1.out (pwrite_any W1 _ W H (.slice la ln lc) _ ⟨#[32]⟩ HPA.out (by have := HZ1.out; omega) (by show 1 ≤ _; omega))).mono ?_
          rintro e w5 ⟨rfl, hp, hk⟩
          have HPB := Lib.hid hp
          have HZ2 : Hid ((Txt.part ⟨#[32]⟩ S j ++ ⟨#[32]⟩).size ≤ 700000000) := by show _ ≤ _; rw [size_app, one_size]; have := HZ1.out; omega
          have e0 := (hk _ _ _ (by have := HLT.out; omega) (by decide) HBA.out).cell 0
          have e1 := (hk _ _ _ (by have := HLT.out; omega) (by decide) HBA.out).cell 1
          have e2 := (hk _ _ _ (by have := HLT.out; omega) (by decide) HBA.out).cell 2
          have e3 := (hk _ _ _ (by have := HLT.out; omega) (by decide) HBA.out).cell 3
          clear hp hk
          go_wp2_with fail
          refine (at_b HS1.out (ppag_any W1 _ W H ⟨x0, x1, x2, x3⟩ (.slice la ln lc) X _ HPB.out HX.out HT.out HXB.out HXC.out (by have := HZ2.out; omega))).mono ?_
          rintro e w6 ⟨rfl, hp, _⟩
          have HP6 : Hid (Pn W1 w6 W H (.slice la ln lc) (Txt.part ⟨#[32]⟩ S (j + 1))) := by show Pn _ _ _ _ _ _; rw [HN.out]; exact hp
          clear hp
          go_wp2
          go_roundw
          case rel => exact ⟨j + 1, by omega, by go_num, HP6⟩
          case measure => simp [intOf]; omega
      · have hju : vn = j := by omega
        subst hju
        obtain ⟨⟨tv, hb, ho⟩, hg⟩ := HP.out
        obtain ⟨ta, tn, tc, rfl, _⟩ := ho.sees.shape
        rw [HS1.out] at hb
        have c3 : wr.cell? ⟨w.heap.size + 1, 3, none⟩ = some (.slice ta tn tc) := hb.cell 3
        have hcv := run_convert_sees (P := Tryd.prog) wr 131 9 5 Tryd.underlying131 Tryd.underlying5 Tryd.underlying9 ho.sees
        rw [str_cod] at hcv
        have HG2 := Lib.hid (grownN_trans HG1.out hg)
        clear hb ho hg
        go_wp2
        go_ret
        exact ⟨ret_s HR.out.symm, HG2.out⟩
end Go.Proofs.YtoanhnklemlfmaaDoor.Lst
