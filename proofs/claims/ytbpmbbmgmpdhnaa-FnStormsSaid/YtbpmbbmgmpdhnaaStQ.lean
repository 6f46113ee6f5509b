/- What the law FnStorms calls, over a rule in a box and a past: contracts. -/
import Derived.Test.YtbpmbbmgmpdhnaaStDs
import Derived.Test.YtbpmbbmgmpdhnaaStL
import Derived.Test.YtbpmbbmgmpdhnaaStW
import Derived.Test.YtbpmbbmgmpdhnaaStU
import Derived.Test.YtbpmbbmgmpdhnaaStP
import Derived.Test.YtbpmbbmgmpdhnaaCalmL
namespace Go.Proofs.Ytbpmbbmgmpdhnaa.StQ
open Go.RowKit Kit Rw Rg Inf Stm StormS Draw StI

set_option maxRecDepth 20000 in
set_option maxHeartbeats 1000000 in
theorem longer_any (w : World) (v : Value) (L : List Bool) (b : Bool) (hv : SeesG encB w v L) (hL : L.length ≤ 1000) :
    Calls Try.prog 33 #[v, .bool b] w fun e w' => ∃ u, e = .returned u ∧ OwnG encB 4 w' w.heap.size u (L ++ [b]) ∧ w.grownBy w' none := by
  have hg0 := World.grownBy_alloc w (.cells #[] 4 (0, 0)) none
  have HV := Lib.hid (hv.grown hg0)
  have HW : Hid (OwnG encB 4 (w.alloc (.cells #[] 4 (0, 0))) w.heap.size (.slice (some ⟨w.heap.size, 0, none⟩) 0 0) []) := ownG_empty w
  have HG := Lib.hid hg0
  clear hv hg0
  obtain ⟨i0, hi, hz0, hz1, hz2⟩ := info_parts StormS.info_bool
  go_enter Try.func33, Try.ntmps33
  go_wp2_with (first
    | (at_builtin; refine wpListG_append_sees _ rfl _ _ 43 rfl w.heap.size 4 i0 (.bool false) 1 Try.underlying43 hi hz0 hz1 hz2 rfl _ [] rfl HW.out v L rfl HV.out (by unfold maxLen; simp; omega) (by simp; omega) HG.out.size ?_; intro v3 w3 hown3 hgrow3; rw [List.nil_append] at hown3; have HO3 := Lib.hid hown3; have HG3 := Lib.hid (grown_new HG.out hgrow3 (fun c hc => (HW.out.lt c hc).1)); clear hown3 hgrow3)
    | (at_builtin; go_loud (refine wpListG_append_one _ rfl _ _ 43 rfl w.heap.size 4 i0 (.bool false) 1 Try.underlying43 hi hz0 hz1 hz2 rfl _ L rfl HO3.out b #[.bool b] rfl rfl trivial (by omega) (by decide) HG3.out.size ?_); intro v4 w4 hown4 hgrow4 hnew4; have HO4 := Lib.hid hown4; have HG4 := Lib.hid (grown_new HG3.out hgrow4 (fun c hc => (HO3.out.lt c hc).1)); clear hown4 hgrow4 hnew4))
  go_ret
  exact ⟨_, rfl, HO4.out, HG4.out⟩

structure FS (w wx : World) (B : Nat) (m n : Int) (v : Value) (L : List Bool) : Prop where
  grown : w.grownBy wx none
  box : Box wx B #[.int .i64 m, .int .i64 n] 42
  sees : SeesG encB wx v L
  im : (Lit.int .i64 m).wf = true
  inn : (Lit.int .i64 n).wf = true
  len : L.length ≤ 15
section
variable {w wx wy : World} {B : Nat} {m n k : Int} {v u : Value} {L M : List Bool} {b : Bool}
theorem FS.on (h : FS w wx B m n v L) (hg : wx.grownBy wy none) : FS w wy B m n v L := ⟨grownN_trans h.grown hg, h.box.grown hg, h.sees.grown hg, h.im, h.inn, h.len⟩
theorem FS.drew (h : FS w wx B m n v L) : FS w wx.drew B m n v L := h.on (grown_drew (World.grownBy.refl wx none))
theorem FS.two (h : FS w wx B m n v L) : wx.cell? ⟨B, 0, none⟩ = some (.int .i64 m) ∧ wx.cell? ⟨B, 1, none⟩ = some (.int .i64 n) := StormS.two h.box
theorem FS.start {w1 : World} (h : RPOut w w1 m n v L) : FS w (w1.alloc (.cells #[.int .i64 m, .int .i64 n] 42 (0, 0))) w1.heap.size m n v L := by
  have hA := World.grownBy_alloc w1 (.cells #[.int .i64 m, .int .i64 n] 42 (0, 0)) (none : Option Nat)
  exact ⟨grownN_trans h.grown hA, box_new _ _ _, h.own.sees.grown hA, h.im.wf, h.inn.wf, h.len⟩
theorem worstQ (h : FS w wx B m n v L) (hu : SeesG encB wx u M) (k : Int) :
    Calls Try.prog 31 #[.agg #[.int .i64 m, .int .i64 n], u, .int .i64 k] wx fun e w' => e = .returned (.int .i64 (worstOf m n M k)) ∧ wx.grownBy w' none ∧ FS w w' B m n v L :=
  (iWorst_any wx m n k h.im h.inn u M hu).mono fun _ _ q => ⟨q.1, q.2, h.on q.2⟩
theorem ruleQ (h : FS w wx B m n v L) :
    Calls Try.prog 32 #[.agg #[.int .i64 m, .int .i64 n]] wx fun e w' => e = .returned (.bool (isRule m n)) ∧ FS w w' B m n v L :=
  (iIsRule_any wx m n h.im h.inn).mono fun _ _ q => ⟨q.1, h.on q.2⟩
theorem mayQ (h : FS w wx B m n v L) (hu : SeesG encB wx u M) :
    Calls Try.prog 34 #[.agg #[.int .i64 m, .int .i64 n], u] wx fun e w' => e = .returned (.bool (mayStorm m n M)) ∧ FS w w' B m n v L :=
  (iMayStorm_any wx m n h.im h.inn u M hu).mono fun _ _ q => ⟨q.1, h.on q.2⟩
theorem keepsQ (h : FS w wx B m n v L) (hu : SeesG encB wx u M) :
    Calls Try.prog 37 #[.agg #[.int .i64 m, .int .i64 n], u] wx fun e w' => e = .returned (.bool (keeps m n M)) ∧ FS w w' B m n v L :=
  (iKeeps_any wx m n h.im h.inn u M hu).mono fun _ _ q => ⟨q.1, h.on q.2⟩
theorem longerQ (h : FS w wx B m n v L) (b : Bool) :
    Calls Try.prog 33 #[v, .bool b] wx fun e w' => ∃ u, e = .returned u ∧ SeesG encB w' u (L ++ [b]) ∧ FS w w' B m n v L :=
  (longer_any wx v L b h.sees (by have := h.len; omega)).mono fun _ _ ⟨u, q1, q2, q3⟩ => ⟨u, q1, q2.sees, h.on q3⟩
theorem addQ (h : FS w wx B m n v L) (b : Bool) :
    Calls Try.prog 35 #[v, .bool b] wx fun e w' => ∃ u, e = .returned u ∧ SeesG encB w' u (addDay L b) ∧ FS w w' B m n v L :=
  (iAddDay_any wx v L b h.sees (by have := h.len; omega)).mono fun _ _ ⟨u, q1, q2, q3⟩ => ⟨u, q1, q2.sees, h.on q3⟩
end
end Go.Proofs.Ytbpmbbmgmpdhnaa.StQ
