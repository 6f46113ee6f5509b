/- Two radios compared; what the law FnRadio needs. -/
import Derived.Test.YtnjlgnbhjhfohaaRadE
import Derived.Test.YtnjlgnbhjhfohaaRadL
import Derived.Test.YtnjlgnbhjhfohaaRadN
import Derived.Laws.StructEq
namespace Go.Proofs.Ytnjlgnbhjhfohaa.RadQ
open Go.RowKit Kit Rw Rad Tw

theorem run_eqR (w : World) (x y : Int) : (Op.equalIn 10000 27 (.agg #[.int .i64 x, .int .i64 y]) (.agg #[.int .i64 x, .int .i64 y])).run Try.prog w = .ok true w := by
  rw [run_equalIn_agg w 9999 27 _ _ (by kernel_rfl) (by kernel_rfl)]
  have hf : (Try.prog.fieldsOf 27).toList.map (fun f => (f.name == "_", f.type, f.offset)) = [(false, 3, 0), (false, 3, 1)] := by kernel_rfl
  generalize (Try.prog.fieldsOf 27).toList = fs at hf
  obtain ⟨f0, f1, rfl⟩ : ∃ f0 f1, fs = [f0, f1] := by
    have hl : fs.length = 2 := by simpa using congrArg List.length hf
    match fs, hl with
    | [a, b], _ => exact ⟨a, b, rfl⟩
  · simp only [List.map_cons, List.map_nil, List.cons.injEq, Prod.mk.injEq, and_true] at hf
    obtain ⟨⟨n0, t0, o0⟩, ⟨n1, t1, o1⟩⟩ := hf
    have hn : ∀ s : String, (s == "_") = false → s ≠ "_" := fun s h => by simpa using h
    simp [Op.eqFields, hn _ n0, hn _ n1, t0, t1, o0, o1, go_sem, Try.underlying3]

theorem hearY (w : World) {l m h : Int} (e : hearOk l m h = true) :
    Calls Try.prog 16 #[.agg #[.int .i64 l, .int .i64 m], .int .i64 h] w fun e w' => e = .returned (.tuple #[.agg #[.int .i64 h, .int .i64 0], .bool true]) ∧ w.grownBy w' none :=
  (RadI.iHear_any w l m h).mono fun _ _ q => ⟨by rw [q.1]; unfold hearL hearM; rw [if_pos e, if_pos e, e], q.2⟩
theorem hearN (w : World) {l m h : Int} (e : hearOk l m h = false) :
    Calls Try.prog 16 #[.agg #[.int .i64 l, .int .i64 m], .int .i64 h] w fun e w' => e = .returned (.tuple #[.agg #[.int .i64 l, .int .i64 m], .bool false]) ∧ w.grownBy w' none :=
  (RadI.iHear_any w l m h).mono fun _ _ q => ⟨by rw [q.1]; unfold hearL hearM; rw [e]; rfl, q.2⟩
theorem missY (w : World) {l m h : Int} (e : missOk l m h = true) :
    Calls Try.prog 19 #[.agg #[.int .i64 l, .int .i64 m], .int .i64 h] w fun e w' => e = .returned (.tuple #[.agg #[.int .i64 l, .int .i64 (missM l m h)], .bool true]) ∧ w.grownBy w' none :=
  (RadI.iMiss_any w l m h).mono fun _ _ q => ⟨by rw [q.1, e], q.2⟩
theorem missN (w : World) {l m h : Int} (e : missOk l m h = false) :
    Calls Try.prog 19 #[.agg #[.int .i64 l, .int .i64 m], .int .i64 h] w fun e w' => e = .returned (.tuple #[.agg #[.int .i64 l, .int .i64 m], .bool false]) ∧ w.grownBy w' none :=
  (RadI.iMiss_any w l m h).mono fun _ _ q => ⟨by rw [q.1]; unfold missM; rw [e]; rfl, q.2⟩
theorem quiet (w : World) (h : Int) :
    Calls Try.prog 21 #[.agg #[.int .i64 h, .int .i64 0]] w fun e w' => e = .returned (.bool false) ∧ w.grownBy w' none :=
  (RadI.iAlarm_any w h 0).mono fun _ _ q => ⟨by rw [q.1]; unfold isAlarm; rw [decide_eq_false (by omega), Bool.and_false], q.2⟩
theorem hour_is (l m : Int) : decide (0 ≤ alarmHour l m) = isRadio l m := by
  cases h : isRadio l m
  · have : alarmHour l m = -1 := by unfold alarmHour; rw [h]; rfl
    rw [this]; rfl
  · have := alarm_at h
    exact decide_eq_true (by omega)

/-- Two radios in their blocks. -/
structure TR (w wx : World) (A B : Nat) (l m x y : Int) : Prop where
  a : Box wx A #[.int .i64 l, .int .i64 m] 27
  b : Box wx B #[.int .i64 x, .int .i64 y] 27
  grown : w.grownBy wx none
theorem TR.on {w wx wy : World} {A B : Nat} {l m x y : Int} (h : TR w wx A B l m x y) (hg : wx.grownBy wy none) : TR w wy A B l m x y := ⟨h.a.grown hg, h.b.grown hg, grownN_trans h.grown hg⟩
theorem TR.start {w w1 w2 : World} {l m x y : Int} (h : w.grownBy w1 none) (hg : (w1.alloc (.cells #[.int .i64 l, .int .i64 m] 27 (0, 0))).grownBy w2 none) :
    TR w (w2.alloc (.cells #[.int .i64 x, .int .i64 y] 27 (0, 0))) w1.heap.size w2.heap.size l m x y := by
  have h1 := World.grownBy_alloc w1 (.cells #[.int .i64 l, .int .i64 m] 27 (0, 0)) (none : Option Nat)
  have h2 := World.grownBy_alloc w2 (.cells #[.int .i64 x, .int .i64 y] 27 (0, 0)) (none : Option Nat)
  exact ⟨((box_new _ _ _).grown hg).grown h2, box_new _ _ _, grownN_trans (grownN_trans (grownN_trans h h1) hg) h2⟩
end Go.Proofs.Ytnjlgnbhjhfohaa.RadQ
