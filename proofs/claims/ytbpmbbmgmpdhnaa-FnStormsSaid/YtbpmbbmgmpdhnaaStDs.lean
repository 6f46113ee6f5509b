/- Contracts of the draws of any rule and past, and of what laws draw with them. -/
import Derived.Test.YtbpmbbmgmpdhnaaStDr
namespace Go.Proofs.Ytbpmbbmgmpdhnaa.Draw
open Go.RowKit Kit Rw Rg Inf Stm StormS

set_option maxRecDepth 100000 in
set_option maxHeartbeats 4000000 in
theorem rp_any (w : World) (c : Nat) (hc : Cur w c) :
    Calls Try.prog 73 #[.pointer (some ⟨c, 0, none⟩)] w (DrawnRP c w) := by
  have hlt0 := hc.lt
  have hg0 := World.grownBy_alloc w (.cells #[.int .i64 0, .int .i64 0] 42 (0, 0)) (none : Option Nat)
  have HC := Lib.hid (hc.kept_row hg0 (fun _ h => by cases h))
  have HB := Lib.hid (box_new w #[.int .i64 0, .int .i64 0] 42)
  have HG := Lib.hid hg0
  clear hc hg0
  obtain ⟨i0, hi, hz0, hz1, hz2⟩ := info_parts StormS.info_bool
  go_enter Try.func73, Try.ntmps73
  go_wp2_with fail
  refine (rule_any _ _ HC.out).mono ?_
  rintro e w1 ⟨m, n, rfl, hm, hn, hc1, hg1⟩
  have hs1 := hg1.size
  simp only [World.size_alloc] at hs1
  have hr0 : SR w (w1.alloc (.cells #[.int .i64 m, .int .i64 n] 42 (0, 0))) c w1.heap.size m n (.slice none 0 0) [] := by
    have hA1 := World.grownBy_alloc w1 (.cells #[.int .i64 m, .int .i64 n] 42 (0, 0)) (none : Option Nat)
    exact ⟨box_new _ _ _, (HB.out.kept hg1 (by simp; omega)).grown hA1, ownG_nil, hc1.kept_row hA1 (fun _ h => by cases h), grown_mix (grown_old' HG.out hg1) hA1 (fun _ h => by cases h), by omega, hlt0, hm, hn, by simp⟩
  have HR := Lib.hid hr0
  have HD := Lib.hid (hr0.on (grown_drew (World.grownBy.refl _ none)))
  have HM := Lib.hid hm
  have HN := Lib.hid hn
  have hBc : w1.heap.size ≠ c := by have := hr0.cl; have := hr0.lt; omega
  clear hr0 hc1 hg1 hm hn hs1 HC HB HG
  go_wp2_with fail
  generalize w1.alloc (.cells #[.int .i64 m, .int .i64 n] 42 (0, 0)) = w3 at *
  generalize w1.heap.size = B at *
  have hcd := HD.out.cur
  have hd0 := HD.out
  obtain ⟨k0, k1⟩ := two HD.out.box
  go_region_held3 (fun w' => w'.cell? ⟨B, 0, none⟩ = some (.int .i64 m) ∧ w'.cell? ⟨B, 1, none⟩ = some (.int .i64 n))
    (first | (exact keep2 (by assumption) (by assumption) hBc) | go_keep)
    (first
      | (go_at_call 62; refine (below_any 15 (by omega) _ _ (by assumption)).mono ?_; rintro e w4 ⟨x4, HP4, rfl, hc4, hg4⟩; have hx4 := HP4.1 (by omega); have hd4 := SR.call (w := w) (B := B) (m := m) (n := n) (v := .slice none 0 0) (L := []) (by assumption) hg4 hc4; clear HP4)
      | (go_at_call 89; refine (past_any _ _ (by assumption) m n x4 HM.out HN.out (by omega)).mono ?_; rintro e w5 ⟨v5, L5, rfl, ho5, hl5, hc5, hg5⟩; have hd5 := SR.past hd4 hg5 hc5 ho5 (by omega)))
  have HR5 := Lib.hid hd5
  have HL5 : Hid (L5.length ≤ 14) := by show _ ≤ _; omega
  clear hd5 hd4 hd0 hcd k0 k1 hg5 hc5 ho5 hl5 hg4 hc4 hx4 HD HR
  go_wp2_with fail
  refine (below_any 10 (by omega) _ _ HR5.out.cur).mono ?_
  rintro e w6 ⟨x, HP, rfl, hc6, hg6⟩
  obtain ⟨hx0, hx1⟩ := HP.1 (by omega)
  have HR6 := Lib.hid (HR5.out.call hg6 hc6)
  clear HP hc6 hg6 HR5
  by_cases h0 : x = 0
  · subst h0
    have HL := Lib.hid (int_list [-1, 5, 9, 10] w6 c HR6.out.cur (by decide) (by decide))
    go_wp2_with fail
    refine HL.out.mono ?_
    rintro e w7 ⟨z, hz, rfl, hc7, hg7⟩
    have hiz : I64 z := by
      simp only [List.mem_cons, List.not_mem_nil, or_false] at hz
      exact ⟨by omega, by omega⟩
    have hr7 := HR6.out.call hg7 hc7
    obtain ⟨d0, d1⟩ := two hr7.box
    have f0 := hr7.box.free 0
    have hr8 := hr7.set0 hiz
    have HR8 := Lib.hid hr8
    obtain ⟨e0, e1⟩ := two hr8.box
    obtain ⟨⟨p0, r0⟩, ⟨p1, r1⟩, o0, o1⟩ := put2_on hr8.res (.int .i64 z) (.int .i64 n)
    clear hr7 hr8 hc7 hg7 hz hiz
    go_wp2
    try simp only [Exit.inBlock, Exit.then]
    exact ret_box1 rfl rfl (put2_box (x' := .int .i64 z) (y' := .int .i64 n) HR8.out.res) Try.underlying42 rfl (by kernel_rfl) rfl HR8.out.fin
  by_cases h1 : x = 1
  · subst h1
    have HL := Lib.hid (int_list [0, 10, 11] w6 c HR6.out.cur (by decide) (by decide))
    go_wp2_with fail
    refine HL.out.mono ?_
    rintro e w7 ⟨z, hz, rfl, hc7, hg7⟩
    have hiz : I64 z := by
      simp only [List.mem_cons, List.not_mem_nil, or_false] at hz
      exact ⟨by omega, by omega⟩
    have hr7 := HR6.out.call hg7 hc7
    obtain ⟨d0, d1⟩ := two hr7.box
    have f1 := hr7.box.free 1
    have hr8 := hr7.set1 hiz
    have HR8 := Lib.hid hr8
    obtain ⟨e0, e1⟩ := two hr8.box
    obtain ⟨⟨p0, r0⟩, ⟨p1, r1⟩, o0, o1⟩ := put2_on hr8.res (.int .i64 m) (.int .i64 z)
    clear hr7 hr8 hc7 hg7 hz hiz
    go_wp2
    try simp only [Exit.inBlock, Exit.then]
    exact ret_box1 rfl rfl (put2_box (x' := .int .i64 m) (y' := .int .i64 z) HR8.out.res) Try.underlying42 rfl (by kernel_rfl) rfl HR8.out.fin
  by_cases h2 : x = 2
  · subst h2
    have HS6 : Hid (B + 1 ≤ w6.heap.size) := HR6.out.box.lt
    have HLL : Hid (L5.length ≤ 1000000000) := by show _ ≤ _; have := HL5.out; omega
    go_wp2_with (at_builtin; go_loud (refine wpListG_append_one _ rfl _ _ 43 rfl (B + 1) 4 i0 (.bool false) 1 Try.underlying43 hi hz0 hz1 hz2 rfl _ L5 rfl HR6.out.own true #[.bool true] rfl rfl trivial HLL.out (by decide) HS6.out ?_); intro v4 w4 hown4 hgrow4 hnew4; have hr8 := HR6.out.more hown4 hgrow4 (by rw [List.length_append]; have := HL5.out; simp; omega); have HR8 := Lib.hid hr8; obtain ⟨e0, e1⟩ := two hr8.box; obtain ⟨⟨p0, r0⟩, ⟨p1, r1⟩, o0, o1⟩ := put2_on hr8.res (.int .i64 m) (.int .i64 n); clear hown4 hgrow4 hnew4 hr8)
    try simp only [Exit.inBlock, Exit.then]
    exact ret_box1 rfl rfl (put2_box (x' := .int .i64 m) (y' := .int .i64 n) HR8.out.res) Try.underlying42 rfl (by kernel_rfl) rfl HR8.out.fin
  obtain ⟨e0, e1⟩ := two HR6.out.box
  obtain ⟨⟨p0, r0⟩, ⟨p1, r1⟩, o0, o1⟩ := put2_on HR6.out.res (.int .i64 m) (.int .i64 n)
  go_wp2
  try simp only [Exit.inBlock, Exit.then]
  exact ret_box1 rfl rfl (put2_box (x' := .int .i64 m) (y' := .int .i64 n) HR6.out.res) Try.underlying42 rfl (by kernel_rfl) rfl HR6.out.fin

/-- What a draw of a rule and a past hands out. -/
structure RPOut (w w' : World) (m n : Int) (v : Value) (L : List Bool) : Prop where
  own : OwnG encB 4 w' w.heap.size v L
  len : L.length ≤ 15
  im : I64 m
  inn : I64 n
  grown : w.grownBy w' none
theorem RPOut.wrap {w w1 : World} {o : Obj} {m n : Int} {v : Value} {L : List Bool} (h : RPOut (w.alloc o) w1 m n v L) : RPOut w (put2 w1 w.heap.size (.int .i64 m) (.int .i64 n)) m n v L := by
  have hP := put2_grown w1 w.heap.size (.int .i64 m) (.int .i64 n)
  have ho := h.own
  rw [World.size_alloc] at ho
  exact ⟨(ho.kept hP (.inr (ho.off (by omega)))).lower (by omega), h.len, h.im, h.inn, grown_new (grownN_trans (World.grownBy_alloc w o none) h.grown) hP (fun g hg => by injection hg with hg; omega)⟩

set_option maxRecDepth 100000 in
set_option maxHeartbeats 4000000 in
theorem dKeeps_any (w : World) (a : Option Addr) (len cap : Nat) (z : List Int) (hr : IsRow .u8 w a len cap z) :
    Calls Try.prog 79 #[.slice a len cap] w fun e w' => ∃ m n v L, e = .returned (.tuple #[.agg #[.int .i64 m, .int .i64 n], v]) ∧ RPOut w w' m n v L := by
  have hg0 := World.grownBy_alloc w (.cells #[.int .i64 0, .int .i64 0] 42 (0, 0)) (none : Option Nat)
  have HR := Lib.hid (hr.below (grown_below hg0 _ (Nat.le_refl _)))
  have HB := Lib.hid (box_new w #[.int .i64 0, .int .i64 0] 42)
  clear hr hg0
  go_enter Try.func79, Try.ntmps79
  go_wp2_with fail
  refine (new_any _ a len cap z HR.out).mono ?_
  rintro e w1 ⟨c, rfl, hc, hlc, hb⟩
  have HB1 := Lib.hid (HB.out.below hb)
  have HC := Lib.hid hc
  have HW := Lib.hid hb
  have HLC := Lib.hid hlc
  clear hc hb hlc HB HR
  go_wp2_with fail
  refine (rp_any _ _ HC.out).mono ?_
  rintro e w2 ⟨m, n, v, L, rfl, hm, hn, ho, hl, hc2, hg2⟩
  have hlc := HLC.out
  simp only [World.size_alloc] at hlc
  have hsz := HW.out.size
  have hB2 := HB1.out.kept hg2 (by simp; omega)
  obtain ⟨⟨p0, r0⟩, ⟨p1, r1⟩, o0, o1⟩ := put2_on hB2 (.int .i64 m) (.int .i64 n)
  have HB2 := Lib.hid hB2
  have hout : RPOut (w.alloc (.cells #[.int .i64 0, .int .i64 0] 42 (0, 0))) w2 m n v L := ⟨ho.lower hsz, hl, hm, hn, grown_new (below_grown HW.out) hg2 (fun g hg => by injection hg with hg; have := HLC.out; omega)⟩
  have HO := Lib.hid hout.wrap
  clear hout hB2 hm hn ho hl hc2 hg2 HC HW HLC HB1 hlc hsz
  go_wp2
  try simp only [Exit.inBlock, Exit.then]
  exact ret_box1 rfl rfl (put2_box (x' := .int .i64 m) (y' := .int .i64 n) HB2.out) Try.underlying42 rfl (by kernel_rfl) rfl ⟨m, n, v, L, rfl, HO.out⟩

set_option maxRecDepth 100000 in
set_option maxHeartbeats 4000000 in
theorem dMayStorm_any (w : World) (a : Option Addr) (len cap : Nat) (z : List Int) (hr : IsRow .u8 w a len cap z) :
    Calls Try.prog 36 #[.slice a len cap] w fun e w' => ∃ m n v L, e = .returned (.tuple #[.agg #[.int .i64 m, .int .i64 n], v]) ∧ RPOut w w' m n v L := by
  have hg0 := World.grownBy_alloc w (.cells #[.int .i64 0, .int .i64 0] 42 (0, 0)) (none : Option Nat)
  have HR := Lib.hid (hr.below (grown_below hg0 _ (Nat.le_refl _)))
  have HB := Lib.hid (box_new w #[.int .i64 0, .int .i64 0] 42)
  clear hr hg0
  go_enter Try.func36, Try.ntmps36
  go_wp2_with fail
  refine (dKeeps_any _ a len cap z HR.out).mono ?_
  rintro e w2 ⟨m, n, v, L, rfl, hout⟩
  have hB2 := HB.out.grown hout.grown
  obtain ⟨⟨p0, r0⟩, ⟨p1, r1⟩, o0, o1⟩ := put2_on hB2 (.int .i64 m) (.int .i64 n)
  have HB2 := Lib.hid hB2
  have HO := Lib.hid hout.wrap
  clear hout hB2 HB HR
  go_wp2
  try simp only [Exit.inBlock, Exit.then]
  exact ret_box1 rfl rfl (put2_box (x' := .int .i64 m) (y' := .int .i64 n) HB2.out) Try.underlying42 rfl (by kernel_rfl) rfl ⟨m, n, v, L, rfl, HO.out⟩

set_option maxRecDepth 100000 in
set_option maxHeartbeats 4000000 in
theorem dAddDay_any (w : World) (a : Option Addr) (len cap : Nat) (z : List Int) (hr : IsRow .u8 w a len cap z) :
    Calls Try.prog 38 #[.slice a len cap] w fun e w' => ∃ v L s, e = .returned (.tuple #[v, .bool s]) ∧ OwnG encB 4 w' w.heap.size v L ∧ L.length ≤ 15 ∧ w.grownBy w' none := by
  have HR := Lib.hid hr
  clear hr
  go_enter Try.func38, Try.ntmps38
  go_wp2_with fail
  refine (dKeeps_any _ a len cap z HR.out).mono ?_
  rintro e w2 ⟨m, n, v, L, rfl, hout⟩
  have hA := World.grownBy_alloc w2 (.cells #[.int .i64 m, .int .i64 n] 42 (0, 0)) (none : Option Nat)
  have HO := Lib.hid (hout.own.grown hA)
  have HG := Lib.hid (grownN_trans hout.grown hA)
  have HL := Lib.hid hout.len
  clear hout hA
  go_wp2_with fail
  refine (new_any _ a len cap z (HR.out.below (grown_below HG.out _ (Nat.le_refl _)))).mono ?_
  rintro e w3 ⟨c, rfl, hc, hlc, hb⟩
  have HO3 := Lib.hid (HO.out.grown (below_grown hb))
  have HG3 := Lib.hid (grownN_trans HG.out (below_grown hb))
  have HC := Lib.hid hc
  have hcv : v.ownBlock ≠ some c := HO.out.off' hlc
  have HCV := Lib.hid hcv
  have HLC : Hid (w.heap.size ≤ c) := by show _ ≤ _; have := HG.out.size; omega
  clear hc hlc hb hcv HO HG
  go_wp2_with fail
  refine (once_any 2 (by omega) _ _ HC.out).mono ?_
  rintro e w4 ⟨b, rfl, hc4, hg4⟩
  have HO4 := Lib.hid (HO3.out.kept hg4 (.inr HCV.out))
  have HG4 := Lib.hid (grown_new HG3.out hg4 (fun g hg => by injection hg with hg; have := HLC.out; omega))
  clear hc4 hg4
  go_wp2
  go_ret2
  exact ⟨v, L, b, rfl, HO4.out, HL.out, HG4.out⟩

set_option maxRecDepth 100000 in
set_option maxHeartbeats 4000000 in
theorem dWorst_any (w : World) (a : Option Addr) (len cap : Nat) (z : List Int) (hr : IsRow .u8 w a len cap z) :
    Calls Try.prog 30 #[.slice a len cap] w fun e w' => ∃ m n v L k, e = .returned (.tuple #[.agg #[.int .i64 m, .int .i64 n], v, .int .i64 k]) ∧ (-1 ≤ k ∧ k ≤ 201) ∧ RPOut w w' m n v L := by
  have hg0 := World.grownBy_alloc w (.cells #[.int .i64 0, .int .i64 0] 42 (0, 0)) (none : Option Nat)
  have HR := Lib.hid (hr.below (grown_below hg0 _ (Nat.le_refl _)))
  have HB := Lib.hid (box_new w #[.int .i64 0, .int .i64 0] 42)
  clear hr hg0
  go_enter Try.func30, Try.ntmps30
  go_wp2_with fail
  refine (new_any _ a len cap z HR.out).mono ?_
  rintro e w1 ⟨c, rfl, hc, hlc, hb⟩
  have HB1 := Lib.hid (HB.out.below hb)
  have HC := Lib.hid hc
  have HW := Lib.hid hb
  have HLC := Lib.hid hlc
  clear hc hb hlc HB HR
  go_wp2_with fail
  refine (rp_any _ _ HC.out).mono ?_
  rintro e w2 ⟨m, n, v, L, rfl, hm, hn, ho, hl, hc2, hg2⟩
  have hlc := HLC.out
  simp only [World.size_alloc] at hlc
  have hsz := HW.out.size
  have hA := World.grownBy_alloc w2 (.cells #[.int .i64 m, .int .i64 n] 42 (0, 0)) (none : Option Nat)
  have hB3 := (HB1.out.kept hg2 (by simp; omega)).grown hA
  have hbx := box_new w2 #[.int .i64 m, .int .i64 n] 42
  have ho3 := ho.grown hA
  have hc3 := hc2.kept_row hA (fun _ h => by cases h)
  have hg3 := grown_mix hg2 hA (fun _ h => by cases h)
  have hBc : w2.heap.size ≠ c := by have := hc2.lt; omega
  have hwc : w.heap.size ≠ c := by omega
  have hBw : w.heap.size ≠ w2.heap.size := by have := hg2.size; simp only [World.size_alloc] at hsz; omega
  have hlw : w1.heap.size ≤ w2.heap.size := hg2.size
  have hcw : c < w1.heap.size := HC.out.lt
  have hdr := grown_drew (World.grownBy.refl (w2.alloc (.cells #[.int .i64 m, .int .i64 n] 42 (0, 0))) none)
  have hcd := hc3.kept_row hdr (fun _ h => by cases h)
  obtain ⟨k0, k1⟩ := two (hbx.grown hdr)
  have HBD := Lib.hid (hB3.grown hdr)
  have HOD := Lib.hid (ho3.grown hdr)
  have HGD := Lib.hid (grown_mix hg3 hdr (fun _ h => by cases h))
  have HM := Lib.hid hm
  have HN := Lib.hid hn
  have HL := Lib.hid hl
  obtain ⟨va, vn, vc, hv, HVN⟩ := ho.sees.shape
  subst hv
  have hov : ∀ g, (Value.slice va vn vc).ownBlock = some g → w1.heap.size ≤ g ∧ g < w2.heap.size := ho.lt
  have HOV := Lib.hid hov
  clear hB3 hbx ho3 hc3 hg3 hdr hm hn ho hl hc2 hg2 HC HB1 hA hov
  go_wp2_with fail
  generalize w2.alloc (.cells #[.int .i64 m, .int .i64 n] 42 (0, 0)) = w3 at *
  generalize w2.heap.size = B at *
  have q0 : ∀ o, (w3.alloc o).drew.cell? ⟨B, 0, none⟩ = some (.int .i64 m) := fun o => (World.grownBy_alloc w3 o none).cell k0 (by simp)
  have q1 : ∀ o, (w3.alloc o).drew.cell? ⟨B, 1, none⟩ = some (.int .i64 n) := fun o => (World.grownBy_alloc w3 o none).cell k1 (by simp)
  go_region_held3 (fun w' => w'.cell? ⟨B, 0, none⟩ = some (.int .i64 m) ∧ w'.cell? ⟨B, 1, none⟩ = some (.int .i64 n))
    (first | (exact ⟨q0 _, q1 _⟩) | (exact keep2 (by assumption) (by assumption) hBc) | (exact keep2 (put2_grown w6 w.heap.size (.int .i64 m) (.int .i64 n)) hk6 (Ne.symm hBw)) | go_keep)
    (first
      | (go_at_call 70; refine (int_list [0, 1, 2, 5, 12, 200, 201, -1] w3.drew c hcd (by decide) (by decide)).mono ?_; rintro e w6 ⟨x6, HP6, rfl, hc6, hg6⟩; have hk6 := keep2 hg6 ⟨k0, k1⟩ hBc; have hb6 := HBD.out.kept hg6 (by simp; exact Ne.symm hwc); obtain ⟨⟨p0, r0⟩, ⟨p1, r1⟩, o0, o1⟩ := put2_on hb6 (.int .i64 m) (.int .i64 n)))
  have hi6 : -1 ≤ x6 ∧ x6 ≤ 201 := by
    simp only [List.mem_cons, List.not_mem_nil, or_false] at HP6
    omega
  have HI6 := Lib.hid hi6
  have HB6 := Lib.hid hb6
  have hP := put2_grown w6 w.heap.size (.int .i64 m) (.int .i64 n)
  have hout : RPOut w (put2 w6 w.heap.size (.int .i64 m) (.int .i64 n)) m n (.slice va vn vc) L := by
    have hsz' := hsz
    simp only [World.size_alloc] at hsz'
    refine ⟨?_, HL.out, HM.out, HN.out, ?_⟩
    · refine ((HOD.out.kept hg6 (.inr fun e => ?_)).kept hP (.inr fun e => ?_)).lower (by omega)
      · have := HOV.out c e; omega
      · have := HOV.out _ e; omega
    · exact grown_new (grownN_trans (World.grownBy_alloc w _ none) (grown_new (below_grown HW.out) (grown_trans HGD.out hg6) (fun g hg => by injection hg with hg; have := HLC.out; omega))) hP (fun g hg => by injection hg with hg; omega)
  have HO := Lib.hid hout
  clear q0 q1 hout hP hi6 hb6 hk6 hg6 hc6 HP6 hcd k0 k1 HBD HOD HGD HW HLC HOV p0 p1 r0 r1 o0 o1
  go_wp2
  try simp only [Exit.inBlock, Exit.then]
  exact ret_box2 rfl rfl (put2_box (x' := .int .i64 m) (y' := .int .i64 n) HB6.out) Try.underlying42 rfl (by kernel_rfl) rfl ⟨m, n, _, L, x6, rfl, HI6.out, HO.out⟩
end Go.Proofs.Ytbpmbbmgmpdhnaa.Draw
