/- The law FnKeyedHash: changing one value modulo Modulus changes the keyed hash; derived keys are valid. The package's error holds what its initialiser lays (the card ties it to the program's text). -/
import Derived.Test.YtklbeeloppiknaaDoorCards
import Derived.Test.YtklbeeloppiknaaDoorTie
import Derived.Test.YtklbeeloppiknaaDoorDrawK
import Derived.Test.YtklbeeloppiknaaDoorKhMoves
import Derived.Test.YtklbeeloppiknaaDoorDerive
import Derived.Test.YtklbeeloppiknaaDoorBig
import Derived.Test.YtklbeeloppiknaaDoorAt
import Derived.Test.YtklbeeloppiknaaDoorModS
import Derived.Test.YtklbeeloppiknaaDoorGuard
import Derived.Test.YtklbeeloppiknaaDoorStep
import Derived.WalkKit
import Derived.ProofKit
import Derived.OpenShut
import Derived.ShutString
import Derived.ChangeOld
import Derived.Below
import Derived.Deep.DeepHandedRow
import Derived.Deep.DeepWitnessRowRef
import Derived.Lib.LaidTab
import Derived.Stop.LaidErr
import Derived.SevenTiedAt
import Derived.RowKitTokens
namespace Go.Proofs.YtklbeeloppiknaaDoor.fnKeyedHash
open Go.ChangeShapes Go.WideShapes Go.ChangeAt Go.RowKit
open Go.ChangeMaps (open_string shut_string)
set_option linter.unusedVariables false

theorem own : ownKnob Tryd.prog.godebug = none := by kernel_rfl
theorem laidOut : laidOutB Tryd.prog = true := by kernel_rfl

theorem vG0 : Tryd.prog.globalNamed "loop.example/g03008/impl.errNoKey" = some 0 := by kernel_rfl
theorem vT0 : (Tryd.prog.globals[0]?).map (·.type) = some 45 := by kernel_rfl
theorem vCells : Tryd.prog.cellsOf 97 = 1 := by kernel_rfl
theorem vCellS : Tryd.prog.cellsOf 9 = 1 := by kernel_rfl
theorem vStar : "*" ++ "errors.errorString" = "*errors.errorString" := by decide
theorem vRow (u : TypeId) (h : Tryd.prog.typeName? 3 u = some "*errors.errorString") : u = 71 :=
  typeName_ptr_named (nm := "errors.errorString") (by rw [vStar]; kernel_rfl) (by kernel_rfl) (by decide) u (by rw [vStar]; exact h)
theorem var_on {w w' : World} {B g : Nat} {n : String} {cs : Array Value} (hg : Tryd.prog.globalNamed n = some g) (h : w.var? Tryd.prog n = some cs) (hb : Below B w w') (hB : w.heap.size ≤ B) : w'.var? Tryd.prog n = some cs := by
  unfold World.var? at h ⊢
  rw [hg] at h ⊢
  simp only [Option.bind_some] at h ⊢
  by_cases hlt : g < w.heap.size
  · rw [hb.block g (by omega)]; exact h
  · rw [Array.getElem?_eq_none (by omega)] at h; simp at h
theorem vars_read {H : Type} (enc : TypeId × Value → H) {W : World} {x0 : Value} (h0 : W.var? Tryd.prog "loop.example/g03008/impl.errNoKey" = some #[x0]) (i0 : IsIface x0) (sp : Nat → Bool) :
    DataW.TrodVars enc Tryd.prog W sp ["loop.example/g03008/impl.errNoKey"] [tok enc x0] [.cell 0 0] :=
  ⟨0, 45, #[x0], 1, [], [], vG0, vT0, h0, trod_held Tryd.underlying45 i0 0, rfl, rfl⟩
theorem sents {W : World} (h : laidMetH Tryd.prog Rows.fnKeyedHashRow.laid W) : (∃ (a : Addr), W.var? Tryd.prog "loop.example/g03008/impl.errNoKey" = some #[.iface 71 (.pointer (some a))]) := by
  obtain ⟨a0, s0, hv0, -, -, -⟩ := laid_sentinel h vG0 vT0 Tryd.underlying45 vRow Tryd.underlying71 Tryd.underlying97 rfl rfl Tryd.underlying9 vCells vCellS
  exact ⟨a0, hv0⟩
open Kit Rw Hs Md Ky Draw Same

theorem shape {k : IntKind} {w : World} {v : Value} {L : List Int} (h : Sees k w v L) : ∃ a n cap, v = .slice a n cap ∧ Hid (L.length = n) := by
  obtain ⟨a, cap, h, _⟩ := h
  exact ⟨a, _, cap, h, rfl⟩

set_option maxHeartbeats 2000000 in
theorem walk (w : World) (a : Option Addr) (len cap : Nat) (z : List Int) (w0 : Kit.IsRow .u8 w a len cap z) (hL : laidMetH Tryd.prog Rows.fnKeyedHashRow.laid w) :
    Calls Tryd.prog 3 #[.slice a len cap] w fun e w' => e = .returned (.bool true) ∧ Below w.heap.size w w' := by
  obtain ⟨sa, hsv⟩ := sents hL
  have HS : Hid (Sent sa w) := by
    show _ = _
    simpa using World.var?_cell vG0 hsv 0
  clear hsv hL
  have hll := w0.len_le
  have hl64 : len ≤ 9223372036854775807 := by unfold maxLen at hll; omega
  have HR := Lib.hid w0
  clear w0 hll
  by_cases hbig : 1048576 < len
  · go_enter Tryd.func3, Tryd.ntmps3
    go_wp2_with (go_at_call 6; refine (big_any _ _ _ _ hl64).mono ?_; rintro e w' ⟨rfl, rfl⟩)
    go_ret
    exact ⟨rfl, Below.refl _ _⟩
  have hlen : len ≤ 1048576 := by omega
  obtain ⟨i0, hi, hz0, hz1, hz2⟩ := info_parts Inf.info_i64
  obtain ⟨p0, ⟨hp0, hp0'⟩, hat0⟩ := at_fix w a len cap z HR.out hlen 0 (by omega)
  obtain ⟨p1, ⟨hp1, hp1'⟩, hat1⟩ := at_fix w a len cap z HR.out hlen 1 (by omega)
  have AT0 := Lib.hid hat0
  have AT1 := Lib.hid hat1
  clear hat0 hat1
  go_enter Tryd.func3, Tryd.ntmps3
  go_wp2_with fail
  refine (big_any _ _ _ _ hl64).mono ?_
  rintro e w' ⟨rfl, rfl⟩
  go_wp2_with fail
  refine (dKeyed_any w a len cap z HR.out).mono ?_
  rintro e w1 ⟨k, u, L, rfl, hk, hwd, hL, ho, hg⟩
  have HK := Lib.hid hk.wf
  have HO := Lib.hid ho
  have HL := Lib.hid hL
  have HWD := Lib.hid hwd
  have HG1 := Lib.hid hg
  clear hk ho hL hg hwd
  obtain ⟨ua, un, uc, hu, HUN⟩ := shape HO.out.sees
  subst hu
  have hun4 : un ≤ 4 := by have := HUN.out; have := HL.out; omega
  go_wp2_with fail
  refine (keyed_any w1 k _ L HK.out HO.out.sees).mono ?_
  rintro e w2 ⟨rfl, hg⟩
  have HG2 := Lib.hid (grownN_trans HG1.out hg)
  have HO2 := Lib.hid (HO.out.grown hg)
  clear hg
  have HIN := kh_in k L
  obtain ⟨y, hy⟩ : ∃ y, y = kh k L := ⟨_, rfl⟩
  rw [← hy] at HIN ⊢
  obtain ⟨hy0, hy1⟩ := HIN
  have HY := Lib.hid hy
  clear hy
  have hb1 : decide (y < 0) = false := by simpa using hy0
  have hb2 : decide (2147483647 ≤ y) = false := by simp; omega
  have HW : Hid (Own .i64 3 (w2.alloc (.cells #[.int .i64 k] 3 (0, 0))) w2.heap.size (.slice (some ⟨w2.heap.size, 0, none⟩) 1 1) [k]) :=
    ⟨World.ownsRow_lit (size := 1) w2 #[.int .i64 k] 1 (Nat.le_refl _) (by unfold maxLen; omega) rfl, by intro n hn; simp at hn; subst hn; exact HK.out⟩
  have HGA := Lib.hid (World.grownBy_alloc w2 (.cells #[.int .i64 k] 3 (0, 0)) none)
  have HSL := Lib.hid (HO2.out.sees.grown HGA.out)
  go_wp2_with (first
    | (at_builtin; (refine wpList_append_sees_g _ (by first | rfl | (simp [Region.wanted, yielded]; done) | (simp [Region.wanted, yielded]; omega)) _ _ 24 rfl w2.heap.size 3 i0 (.int .i64 0) 8 Tryd.underlying24 hi hz0 hz1 hz2 rfl .i64 _ [k] rfl HW.out _ L rfl HSL.out (by have := HL.out; unfold maxLen; simp; omega) (by have := HL.out; simp; omega) HGA.out.size ?_); intro v3 w3 hown3 hgrow3; have HO3 := Lib.hid hown3; have HG3 := Lib.hid (grown_new HGA.out hgrow3 (fun c hc => (HW.out.lt c hc).1)); clear hown3 hgrow3)
    | (at_builtin; go_loud (refine wpList_append_one_g _ (by first | rfl | (simp [Region.wanted, yielded]; done) | (simp [Region.wanted, yielded]; omega)) _ _ 24 rfl w2.heap.size 3 i0 (.int .i64 0) 8 Tryd.underlying24 hi hz0 hz1 hz2 rfl .i64 _ ([k] ++ L) rfl HO3.out k rfl HK.out (by have := HL.out; simp; omega) (by decide) HG3.out.size ?_); intro v4 w4 hown4 hgrow4; have HO4 := Lib.hid hown4; have HG4 := Lib.hid (grownN_trans HG2.out (grown_new HG3.out hgrow4 (fun c hc => (HO3.out.lt c hc).1))); have HO24 := Lib.hid ((HO2.out.grown HG3.out).kept hgrow4 (HO3.out.apart HO2.out (Nat.le_refl _)).2); clear hown4 hgrow4))
  refine (hash_grown _ _ _ HO4.out.sees).mono ?_
  rintro e w5 ⟨rfl, hg⟩
  have HG5 := Lib.hid (grownN_trans HG4.out hg)
  have HO5 := Lib.hid (HO24.out.grown hg)
  have hye : hs 11 ([k] ++ L ++ [k]) = y := by rw [HY.out]; simp [kh]
  rw [hye]
  clear hg hye
  by_cases hpos : 0 < un
  · have HE := Lib.hid (own_empty (k := .i64) (E := 3) w5)
    have HGE := Lib.hid (World.grownBy_alloc w5 (.cells #[] 3 (0, 0)) none)
    have HSE := Lib.hid (HO5.out.sees.grown HGE.out)
    go_wp2_with (at_builtin; go_loud (refine wpList_append_sees _ rfl _ _ 24 rfl w5.heap.size 3 i0 (.int .i64 0) 8 Tryd.underlying24 hi hz0 hz1 hz2 rfl .i64 _ [] rfl HE.out _ L rfl HSE.out (by have := HL.out; unfold maxLen; simp; omega) (by have := HL.out; simp; omega) HGE.out.size ?_); intro v6 w6 hown6 hgrow6; have HO6 : Hid (Own .i64 3 w6 w5.heap.size v6 L) := (by have h := hown6; rw [List.nil_append] at h; exact h); have HG6 := Lib.hid (grownN_trans HG5.out (grown_new HGE.out hgrow6 (fun c hc => (HE.out.lt c hc).1))); clear hown6 hgrow6)
    obtain ⟨g, cap6, hv6, hbg, hgl⟩ := HO6.out.1.form (by have := HUN.out; omega)
    rw [HUN.out] at hv6
    subst hv6
    obtain ⟨i, hi6⟩ : ∃ i : Nat, p0 % (un : Int) = (i : Int) := ⟨(p0 % (un : Int)).toNat, (Int.toNat_of_nonneg (Int.emod_nonneg _ (by omega))).symm⟩
    have hiu : i < un := by
      have := Int.emod_lt_of_pos p0 (show (0 : Int) < (un : Int) by omega)
      omega
    have hiL : i < L.length := by have := HUN.out; omega
    obtain ⟨x, hx⟩ : ∃ x, x = L.getD i 0 := ⟨_, rfl⟩
    have hc6 : w6.cell? ⟨g, i, none⟩ = some (.int .i64 x) := by
      have hown := HO6.out.1
      rw [HUN.out] at hown
      rw [hown.cellAt i (by omega), getD_map hiL, ← hx]
    have hf6 : w6.frozen? ⟨g, i, none⟩ = false := by
      have hown := HO6.out.1
      rw [HUN.out] at hown
      exact hown.frozenAt i
    have hxw : Word x := by rw [hx]; exact HWD.out _ (mem_getD hiL)
    obtain ⟨hx0, hx1⟩ := hxw
    have HX := Lib.hid hx
    have HIL := Lib.hid hiL
    have HRD : Hid (IsRow .u8 w6.drew a len cap z) := HR.out.below (grown_below (grown_drew HG6.out) _ (Nat.le_refl _))
    clear hx hiL
    refine (AT0.out w6 (HR.out.below (grown_below HG6.out _ (Nat.le_refl _)))).mono ?_
    rintro e w7 ⟨rfl, hw⟩
    have hw := hw.symm
    subst hw
    go_wp2_with fail
    have hw1 : IntKind.i64.wrap (x + 1) = x + 1 := IntWalk.i64_in _ (by omega)
    have hw2 : IntKind.i64.wrap (x + 1 + p1) = x + 1 + p1 := IntWalk.i64_in _ (by omega)
    refine wp_region_still_tail 12 (by kernel_rfl) (by kernel_rfl) ?_
    simp only [List.take_succ_cons, List.take_zero, List.drop_succ_cons, List.drop_zero]
    repeat still_step
    still_call (AT1.out _ HRD.out)
    repeat still_step
    still_call (sMod_quiet (x + 1 + p1) 2147483647 _ (by omega) (by omega))
    repeat still_step
    refine wpStill_nil ?_
    clear hw1 hw2
    obtain ⟨nv, hnv⟩ : ∃ nv, nv = (x + 1 + p1) % 2147483647 := ⟨_, rfl⟩
    have hne : kh k (L.set i nv) ≠ y := by
      rw [HY.out]
      refine kh_moves HIL.out ?_
      rw [← HX.out, hnv]
      omega
    have hnw : (Lit.int .i64 nv).wf = true := i64_mk (by omega)
    rw [← hnv]
    clear hnv
    have hod := HO6.out.1
    rw [HUN.out] at hod
    have hset := own_set hod i nv
    have hwf2 : ∀ n ∈ L.set i nv, (Lit.int .i64 n).wf = true := fun n hn => by
      rcases List.mem_or_eq_of_mem_set hn with h | h
      · exact (HWD.out n h).wf
      · rw [h]; exact hnw
    have HO8 : Hid (Own .i64 3 ((w6.setCell ⟨g, i, none⟩ (.int .i64 nv)).drew) w5.heap.size (.slice (some ⟨g, 0, none⟩) un cap6) (L.set i nv)) :=
      Own.grown ⟨by have h := hset.1; rw [List.length_set, HUN.out]; exact h, hwf2⟩ (grown_drew (World.grownBy.refl _ none))
    have HG8 : Hid (w.grownBy ((w6.setCell ⟨g, i, none⟩ (.int .i64 nv)).drew) none) := grown_drew (grown_new HG6.out hset.2 (fun c h => by injection h with h; have := HG5.out.size; omega))
    clear hset hod hwf2 hnw
    have HNE := Lib.hid hne
    clear hne
    go_wp2_with fail
    clear hc6 hf6
    generalize (w6.setCell ⟨g, i, none⟩ (.int .i64 nv)).drew = w8 at *
    refine (keyed_any w8 k _ (L.set i nv) HK.out HO8.out.sees).mono ?_
    rintro e w9 ⟨rfl, hg⟩
    have HG9 := Lib.hid (grownN_trans HG8.out hg)
    clear hg
    obtain ⟨y2, hy2⟩ : ∃ y2, y2 = kh k (L.set i nv) := ⟨_, rfl⟩
    have hne : (y2 == y) = false := by
      rw [beq_eq_false_iff_ne, hy2]; exact HNE.out
    rw [← hy2]
    clear hy2
    go_wp2_with fail
    refine (dDerive_any w9 a len cap z (HR.out.below (grown_below HG9.out _ (Nat.le_refl _)))).mono ?_
    rintro e wd ⟨k2, s, rfl, hk2, hs4, hg⟩
    have HGd := Lib.hid (grownN_trans HG9.out hg)
    have HK2 := Lib.hid hk2.wf
    have HSd := Lib.hid (HS.out.on HGd.out)
    have HDV := Lib.hid (dv_in k2 s)
    clear hg hk2
    go_wp2_with fail
    refine (derive_any wd k2 s sa HK2.out (by omega) HSd.out).mono ?_
    rintro e we ⟨rfl, hg⟩
    have HGe := Lib.hid (grownN_trans HGd.out hg)
    have HSe := Lib.hid (HS.out.on HGe.out)
    clear hg
    obtain ⟨q, hq⟩ : ∃ q, q = dv k2 s := ⟨_, rfl⟩
    rw [← hq] at HDV ⊢
    clear hq
    have hv := valid_any q we sa HSe.out
    rw [decide_eq_true HDV.out] at hv
    have HV := Lib.hid hv
    clear hv
    go_wp2_with fail
    refine HV.out.mono ?_
    rintro e wf ⟨rfl, rfl⟩
    go_wp2
    go_ret
    exact ⟨rfl, grown_below HGe.out _ (Nat.le_refl _)⟩
  · have hz : L = [] := List.eq_nil_of_length_eq_zero (by have := HUN.out; omega)
    clear hz
    go_wp2_with fail
    refine (dDerive_any w5 a len cap z (HR.out.below (grown_below HG5.out _ (Nat.le_refl _)))).mono ?_
    rintro e wd ⟨k2, s, rfl, hk2, hs4, hg⟩
    have HGd := Lib.hid (grownN_trans HG5.out hg)
    have HK2 := Lib.hid hk2.wf
    have HSd := Lib.hid (HS.out.on HGd.out)
    have HDV := Lib.hid (dv_in k2 s)
    clear hg hk2
    go_wp2_with fail
    refine (derive_any wd k2 s sa HK2.out (by omega) HSd.out).mono ?_
    rintro e we ⟨rfl, hg⟩
    have HGe := Lib.hid (grownN_trans HGd.out hg)
    have HSe := Lib.hid (HS.out.on HGe.out)
    clear hg
    obtain ⟨q, hq⟩ : ∃ q, q = dv k2 s := ⟨_, rfl⟩
    rw [← hq] at HDV ⊢
    clear hq
    have hv := valid_any q we sa HSe.out
    rw [decide_eq_true HDV.out] at hv
    have HV := Lib.hid hv
    clear hv
    go_wp2_with fail
    refine HV.out.mono ?_
    rintro e wf ⟨rfl, rfl⟩
    go_wp2
    go_ret
    exact ⟨rfl, grown_below HGe.out _ (Nat.le_refl _)⟩

/-- What the walk gives, for every argument. -/
theorem contract (H : Type) (enc : TypeId × Value → H) (W : World) (base : Nat) (args : Array Value) (ds gs : List (DataW H)) (before : List MemPlace)
    (hval : ∀ (j : Nat) t v, Tryd.f3.params[j]? = some t → args[j]? = some v → Value.okWide Tryd.prog W .any base t v)
    (hW : DataW.Whole enc Tryd.prog Tryd.f3.params.toList Rows.fnKeyedHashSpec.vars false W args.toList ds gs before) (hL : laidMetH Tryd.prog Rows.fnKeyedHashRow.laid W) :
    Calls Tryd.prog 3 args W fun e W' => ∃ v, e = .returned v ∧ Rows.fnKeyedHashSpec.post enc Tryd.prog Tryd.f3 false true false false W args v W' := by
  have hW' := hW
  obtain ⟨p, q, hA0, hV, rfl, hfz, hnd⟩ := hW
  have hA : DataW.TrodAll enc Tryd.prog W 0 (fun _ => true) true Tryd.f3.params.toList args.toList ds p := hA0
  rw [Tryd.params3] at hA hval
  obtain ⟨v0, vs0, d0, ds0, p0, q0, hargs, rfl, rfl, h0, r0⟩ := trodAll_cons hA
  obtain ⟨rfl, rfl, rfl⟩ := trodAll_nil r0
  obtain rfl : args = #[v0] := by cases args; simp_all
  have hV1 : DataW.TrodVars enc Tryd.prog W (fun _ => true) ["loop.example/g03008/impl.errNoKey"] gs q := hV
  obtain ⟨y0, hy0⟩ := sents hL
  obtain ⟨rfl, rfl⟩ := hV1.unique (vars_read enc hy0 trivial _)
  obtain ⟨a0, len0, cap0, rfl⟩ := okWide_slice Tryd.underlying22 (hval 0 22 v0 rfl rfl)
  have k0 := h0
  have lt0 : ∀ x ∈ p0, x.block < W.heap.size := by obtain ⟨m, hm⟩ := k0; exact DataW.trod_lt m _ _ _ hm
  obtain ⟨z0, w0⟩ : ∃ zs, Kit.IsRow .u8 W a0 len0 cap0 zs := Kit.row_open Tryd.underlying22 Tryd.underlying5 (by kernel_rfl) h0
  clear hA0
  refine (walk W a0 len0 cap0 z0 w0 hL).mono fun e W' ⟨he, bel⟩ => ?_
  subst he
  exact ⟨_, rfl, _, _, _, [], _, [.cell 0 0], hW', trodAll_mk1 (shut_bool Tryd.underlying4 _), (trodAll_cons_mk (Below.trod laidOut (by kernel_rfl) (of_decide_eq_true (by kernel_rfl)) k0 bel lt0) trodAll_mk0), vars_read enc (var_on vG0 hy0 bel (Nat.le_refl _)) trivial _, bel.frame _, fun h => by cases h⟩

/-- So many blocks has the settled world. -/
noncomputable def low : Nat := (World.holding Tryd.prog default ⟨#[], #[], []⟩).heap.size
/-- A world for the witness: the settled one, the listed variables holding what their initialisers lay. -/
noncomputable def laidWorld (os : Os) : World :=
  let w0 := World.holding Tryd.prog os ⟨#[.cells #[.string ⟨#[97, 32, 107, 101, 121, 32, 105, 115, 32, 105, 110, 32, 116, 104, 101, 32, 114, 97, 110, 103, 101, 32, 49, 32, 116, 111, 32, 77, 111, 100, 117, 108, 117, 115, 45, 49]⟩] 97], #[], []⟩
  { w0 with heap := (w0.heap.modify 0 fun
      | .cells _ t frozen => .cells #[.iface 71 (.pointer (some ⟨low + 0, 0, none⟩))] t frozen
      | o => o) }
theorem laid_met (os : Os) : laidMet Tryd.prog Rows.fnKeyedHashRow.laid ((laidWorld os).forCall (fun _ _ => 0) ⟨#[], #[.slice none 0 0], []⟩).memory :=
  laidMet_of_run' 8 (by kernel_rfl) (by kernel_rfl)
theorem reads (os : Os) {H : Type} (enc : TypeId × Value → H) : ∃ places, DataW.whole enc Tryd.prog ((laidWorld os).forCall (fun _ _ => 0) ⟨#[], #[.slice none 0 0], []⟩).memory Tryd.f3.params.toList Rows.fnKeyedHashSpec.vars false (#[.slice none 0 0] : Array Value).toList 8 = some ([.nil], [tok enc (.iface 71 (.pointer (some ⟨low + 0, 0, none⟩)))], places) :=
  ⟨[.cell 0 0], by kernel_rfl⟩

set_option maxRecDepth 100000 in
theorem lifted (os : Os) (started : os.Started) (H : Type) (enc : TypeId × Value → H) (F : Stop.Interp) :
    ReturnsInHanded {} Tryd.checked os 3 .any ((OpenSpec.ofChange Rows.fnKeyedHashSpec).preRow enc Tryd.prog Tryd.f3 Rows.fnKeyedHashRow.domain false Rows.fnKeyedHashRow.laid) (((OpenSpec.ofChange Rows.fnKeyedHashSpec).at F).post enc Tryd.prog Tryd.f3 false true false false) := by
  obtain ⟨places, hx⟩ := reads os enc
  refine returnsInHanded_of_row (C := Tryd.checked) (s := (OpenSpec.ofChange Rows.fnKeyedHashSpec)) own started (by kernel_rfl) Tryd.func3
    (witness_row_atRef (enc := enc) (C := Tryd.checked) false (laidWorld os) #[.slice none 0 0] rfl (by kernel_rfl) (by kernel_rfl) (by kernel_rfl)
      (OpenSpec.preRow_of_cond 8 hx (by kernel_rfl) (fun k hk => by cases hk) (by kernel_rfl) (laid_met os))) ?_
  intro W base args ds gs before hval hW _ _ _ hL _ _
  exact contract H enc W base args ds gs before hval hW hL

theorem said : Rows.FnKeyedHashSaid :=
  OpenClaim.holds_of_cond 3 Tryd.f3 rfl rfl rfl rfl rfl rfl rfl ⟨rfl, rfl, rfl, rfl, rfl⟩ rfl rfl rfl rfl rfl (by kernel_rfl) Tryd.func3 (by kernel_rfl)
    (of_decide_eq_true (by kernel_rfl)) (by unfold Func.isWrapper; first | (rw [if_pos (by decide +kernel)]; kernel_rfl) | (rw [if_neg (by decide +kernel)]; exact ⟨rfl, rfl⟩))
    (fun os started H enc _ F => by rw [OpenClaim.pre_eq_preRow]; exact lifted os started H enc F)

/-- No parameter wants a stand-in. -/
theorem plain (f : FuncId) (fn : Func) (hf : Tryd.pinned.checked.prog.funcNamed "loop.example/g03008/laws.FnKeyedHash" = some f) (hfn : Tryd.pinned.checked.prog.funcs[f]? = some fn) :
    true = Tryd.pinned.checked.prog.looks [] ∧ ∀ (j : Nat) t, fn.params[j]? = some t → Tryd.pinned.checked.prog.wantsStandIn t = false := by
  obtain rfl : f = 3 := Option.some.inj ((show Tryd.prog.funcNamed "loop.example/g03008/laws.FnKeyedHash" = some 3 by kernel_rfl).symm.trans hf) |>.symm
  obtain rfl : fn = Tryd.f3 := (Option.some.inj (Tryd.func3.symm.trans hfn)).symm
  refine ⟨by kernel_rfl, fun j t ht => ?_⟩
  rw [Tryd.params3] at ht
  have hm := Array.mem_of_getElem? ht
  simp only [List.mem_toArray, List.mem_cons, List.not_mem_nil, or_false] at hm
  subst hm
  exact (show Tryd.prog.wantsStandIn 22 = false by kernel_rfl)
theorem proved : Rows.FnKeyedHashCardSaid :=
  Claim7.holds_tied_plain_at .later [] _ _ _ _ said (fun _ h => by cases h) (by kernel_rfl) (fun _ h => by cases h) fnKeyedHash_row_tie rfl ⟨rfl, rfl⟩ (by kernel_rfl) rfl plain (by kernel_rfl)
#print axioms proved
end Go.Proofs.YtklbeeloppiknaaDoor.fnKeyedHash
