/- Parts of the comparison of expeditions: their four numbers, arrays of four ints and rules compared, lands compared. -/
import Derived.Test.YtochohoihmfanaaEqT
import Derived.Test.YtochohoihmfanaaEqI
import Derived.Test.YtochohoihmfanaaPb
namespace Go.Proofs.Ytochohoihmfanaa.EqU
open Go.RowKit Kit Rw Rg Crw Four EqM EqR EqT

theorem run_eqA4 (w : World) (a b c d a' b' c' d' : Int) : (Op.equalIn 10000 118 (.agg #[.int .i64 a, .int .i64 b, .int .i64 c, .int .i64 d]) (.agg #[.int .i64 a', .int .i64 b', .int .i64 c', .int .i64 d'])).run Try.prog w = .ok (decide (a = a') && decide (b = b') && decide (c = c') && decide (d = d')) w := by
  have u3 := Try.underlying3
  have z3 : ∀ w, (sizeOf 3).run Try.prog w = .ok 1 w := fun w => by kernel_rfl
  rw [show (10000 : Nat) = 9999 + 1 from rfl, Op.equalIn]
  simp only [Sem.run_bind, run_underlying Try.underlying118, Result.andThen_ok]
  simp only [z3, Result.andThen_ok, Std.Legacy.Range.forIn_eq_forIn_range', Std.Legacy.Range.size, Nat.sub_zero, Nat.add_sub_cancel, Nat.div_one, List.range'_succ, List.range'_zero, List.forIn_cons, List.forIn_nil]
  go_simp
  by_cases h1 : a = a' <;> by_cases h2 : b = b' <;> by_cases h3 : c = c' <;> by_cases h4 : d = d' <;> simp [h1, h2, h3, h4]

theorem run_eqRule (w : World) (m r m' r' : Int) : (Op.equalIn 10000 40 (.agg #[.int .i64 m, .int .i64 r]) (.agg #[.int .i64 m', .int .i64 r'])).run Try.prog w = .ok (decide (m = m') && decide (r = r')) w := by
  rw [run_equalIn_agg w 9999 40 _ _ (by kernel_rfl) (by kernel_rfl)]
  have hf : (Try.prog.fieldsOf 40).toList.map (fun f => (f.name == "_", f.type, f.offset)) = [(false, 3, 0), (false, 3, 1)] := by kernel_rfl
  generalize (Try.prog.fieldsOf 40).toList = fs at hf
  obtain ⟨f0, f1, rfl⟩ : ∃ f0 f1, fs = [f0, f1] := by
    have hl : fs.length = 2 := by simpa using congrArg List.length hf
    match fs, hl with
    | [a, b], _ => exact ⟨a, b, rfl⟩
  · simp only [List.map_cons, List.map_nil, List.cons.injEq, Prod.mk.injEq, and_true] at hf
    obtain ⟨⟨n0, t0, o0⟩, ⟨n1, t1, o1⟩⟩ := hf
    have hn : ∀ s : String, (s == "_") = false → s ≠ "_" := fun s h => by simpa using h
    by_cases h0 : m = m' <;> by_cases h1 : r = r' <;>
      simp [Op.eqFields, hn _ n0, hn _ n1, t0, t1, o0, o1, go_sem, h0, h1, Try.underlying3]

set_option maxRecDepth 20000 in
set_option maxHeartbeats 2000000 in
theorem numbersT_any (w : World) (W H b m rn n f dy gv ea : Int) (xv dv cv pv jv : Value) :
    Calls Try.prog 111 #[.agg #[.int .i64 W, .int .i64 H, xv, .int .i64 b, .int .i64 m, .int .i64 rn, dv, .int .i64 n, .int .i64 f, cv, pv, jv, .int .i64 dy, .int .i64 gv, .int .i64 ea]] w fun e w' => e = .returned (.agg #[.int .i64 b, .int .i64 dy, .int .i64 gv, .int .i64 ea]) ∧ w.grownBy w' none := by
  have g0 := World.grownBy_alloc w (.cells #[.int .i64 W, .int .i64 H, xv, .int .i64 b, .int .i64 m, .int .i64 rn, dv, .int .i64 n, .int .i64 f, cv, pv, jv, .int .i64 dy, .int .i64 gv, .int .i64 ea] 67 (0, 0)) (none : Option Nat)
  have g1 := World.grownBy_alloc (w.alloc (.cells #[.int .i64 W, .int .i64 H, xv, .int .i64 b, .int .i64 m, .int .i64 rn, dv, .int .i64 n, .int .i64 f, cv, pv, jv, .int .i64 dy, .int .i64 gv, .int .i64 ea] 67 (0, 0))) (.cells #[.int .i64 b, .int .i64 dy, .int .i64 gv, .int .i64 ea] 118 (0, 0)) (none : Option Nat)
  have b1 := box_new (w.alloc (.cells #[.int .i64 W, .int .i64 H, xv, .int .i64 b, .int .i64 m, .int .i64 rn, dv, .int .i64 n, .int .i64 f, cv, pv, jv, .int .i64 dy, .int .i64 gv, .int .i64 ea] 67 (0, 0))) #[.int .i64 b, .int .i64 dy, .int .i64 gv, .int .i64 ea] 118
  simp only [World.size_alloc] at b1
  have HG := Lib.hid (grownN_trans g0 g1)
  have B1 := Lib.hid b1
  clear g0 g1 b1
  go_enter Try.func111, Try.ntmps111
  go_wp2
  try simp only [Exit.inBlock, Exit.then]
  exact ret_box rfl rfl B1.out Try.underlying118 rfl (by kernel_rfl) rfl ⟨rfl, HG.out⟩

def eqL (W H : Int) (X : List Int) (W' H' : Int) (X' : List Int) : Bool := decide (W = W') && (decide (H = H') && decide (X = X'))
set_option maxRecDepth 20000 in
set_option maxHeartbeats 2000000 in
theorem equalLands_any (w : World) (W H W' H' : Int) (xv xv' : Value) (X X' : List Int) (hx : Sees .i64 w xv X) (hx' : Sees .i64 w xv' X') :
    Calls Try.prog 107 #[.agg #[.int .i64 W, .int .i64 H, xv], .agg #[.int .i64 W', .int .i64 H', xv']] w fun e w' => e = .returned (.bool (eqL W H X W' H' X')) ∧ w.grownBy w' none := by
  have g0 := World.grownBy_alloc w (.cells #[.int .i64 W, .int .i64 H, xv] 61 (0, 0)) (none : Option Nat)
  have g1 := World.grownBy_alloc (w.alloc (.cells #[.int .i64 W, .int .i64 H, xv] 61 (0, 0))) (.cells #[.int .i64 W', .int .i64 H', xv'] 61 (0, 0)) (none : Option Nat)
  have HG := Lib.hid (grownN_trans g0 g1)
  have HX := Lib.hid (hx.grown HG.out)
  have HX' := Lib.hid (hx'.grown HG.out)
  clear g0 g1 hx hx'
  by_cases h0 : W = W'
  · subst h0
    by_cases h1 : H = H'
    · subst h1
      have HR : Hid (eqL W H X W H X' = decide (X = X')) := by show _ = _; unfold eqL; simp
      go_enter Try.func107, Try.ntmps107
      go_wp2_with fail
      refine (EqI.slicesEqual_any _ xv xv' X X' HX.out HX'.out).mono ?_
      rintro e w2 ⟨rfl, hg⟩
      have HG2 := Lib.hid (grownN_trans HG.out hg)
      clear hg
      go_wp2
      go_ret
      exact ⟨ret_bool HR.out.symm, HG2.out⟩
    · have HR : Hid (eqL W H X W H' X' = false) := by show _ = _; unfold eqL; rw [decide_eq_false h1]; simp
      go_enter Try.func107, Try.ntmps107
      go_wp2
      go_ret
      exact ⟨ret_bool HR.out.symm, HG.out⟩
  · have HR : Hid (eqL W H X W' H' X' = false) := by show _ = _; unfold eqL; rw [decide_eq_false h0]; rfl
    go_enter Try.func107, Try.ntmps107
    go_wp2
    go_ret
    exact ⟨ret_bool HR.out.symm, HG.out⟩
end Go.Proofs.Ytochohoihmfanaa.EqU
