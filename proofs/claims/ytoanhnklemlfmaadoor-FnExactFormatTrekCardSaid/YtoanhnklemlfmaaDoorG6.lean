/- An expedition that came in with a call, opened: its numbers and its rows. No condition. Results that lie in a block: a struct of one-cell fields, alone and ahead of others. No condition. -/
import Derived.Test.YtoanhnklemlfmaaDoorG2
import Derived.Test.YtoanhnklemlfmaaDoorRow4
import Derived.Lib.SmallJoins
import Derived.Test.YtoanhnklemlfmaaDoorMBase
import Derived.Laws.Rows
namespace Go.Proofs.YtoanhnklemlfmaaDoor.TrekL
open Go.RowKit Kit Rw Rg Go.ChangeShapes Go.WideShapes Go.ChangeAt Go.Deep Go.Joins

theorem array15 {α : Type} {cs : Array α} (h : cs.size = 15) : ∃ c0 c1 c2 c3 c4 c5 c6 c7 c8 c9 c10 c11 c12 c13 c14, cs = #[c0, c1, c2, c3, c4, c5, c6, c7, c8, c9, c10, c11, c12, c13, c14] := by
  obtain ⟨l⟩ := cs
  match l, h with
  | [c0, c1, c2, c3, c4, c5, c6, c7, c8, c9, c10, c11, c12, c13, c14], _ => exact ⟨c0, c1, c2, c3, c4, c5, c6, c7, c8, c9, c10, c11, c12, c13, c14, rfl⟩
theorem list9 {α : Type} {l : List α} (h : l.length = 9) : ∃ y0 y1 y2 y3 y4 y5 y6 y7 y8, l = [y0, y1, y2, y3, y4, y5, y6, y7, y8] := by
  match l, h with
  | [y0, y1, y2, y3, y4, y5, y6, y7, y8], _ => exact ⟨y0, y1, y2, y3, y4, y5, y6, y7, y8, rfl⟩
section
variable {H : Type} {enc : TypeId × Value → H} {P : Program} {W : World} {n : Nat}
theorem part {t : TypeId} {f : Field} {cs : List Value} {y : DataW H × List MemPlace} {off k : Nat} (ho : f.offset = off) (hk : P.cellsOf f.type = k)
    (h : DataW.trod enc P W 0 (fun _ => true) true n f.type ((cs.drop f.offset).take (P.cellsOf f.type)) = some y) : DataW.trod enc P W 0 (fun _ => true) true n f.type ((cs.drop off).take k) = some y := by
  rw [ho, hk] at h; exact h
theorem sub2 {E : TypeId} {f0 f1 : Field} {v0 v1 : Value} {y : DataW H × List MemPlace} (hE : P.underlying E = some (.struct #[f0, f1])) (hone : oneCellFields P #[f0, f1] = true)
    (h : DataW.trod enc P W 0 (fun _ => true) true n E [v0, v1] = some y) : ∃ m y0 y1, DataW.trod enc P W 0 (fun _ => true) true m f0.type [v0] = some y0 ∧ DataW.trod enc P W 0 (fun _ => true) true m f1.type [v1] = some y1 := by
  obtain ⟨y0, y1, m, _, _, h0, h1⟩ := trod_struct2 hE h
  obtain ⟨o0, c0⟩ := hone_of hone 0 f0 rfl
  obtain ⟨o1, c1⟩ := hone_of hone 1 f1 rfl
  exact ⟨m, y0, y1, by simpa [o0, c0] using h0, by simpa [o1, c1] using h1⟩
theorem sub3 {E : TypeId} {f0 f1 f2 : Field} {v0 v1 v2 : Value} {y : DataW H × List MemPlace} (hE : P.underlying E = some (.struct #[f0, f1, f2])) (hone : oneCellFields P #[f0, f1, f2] = true)
    (h : DataW.trod enc P W 0 (fun _ => true) true n E [v0, v1, v2] = some y) : ∃ m y0 y1 y2, DataW.trod enc P W 0 (fun _ => true) true m f0.type [v0] = some y0 ∧ DataW.trod enc P W 0 (fun _ => true) true m f1.type [v1] = some y1 ∧ DataW.trod enc P W 0 (fun _ => true) true m f2.type [v2] = some y2 := by
  obtain ⟨y0, y1, y2, m, _, _, h0, h1, h2⟩ := trod_struct3 hE h
  obtain ⟨o0, c0⟩ := hone_of hone 0 f0 rfl
  obtain ⟨o1, c1⟩ := hone_of hone 1 f1 rfl
  obtain ⟨o2, c2⟩ := hone_of hone 2 f2 rfl
  exact ⟨m, y0, y1, y2, by simpa [o0, c0] using h0, by simpa [o1, c1] using h1, by simpa [o2, c2] using h2⟩
theorem sub4 {E : TypeId} {f0 f1 f2 f3 : Field} {v0 v1 v2 v3 : Value} {y : DataW H × List MemPlace} (hE : P.underlying E = some (.struct #[f0, f1, f2, f3])) (hone : oneCellFields P #[f0, f1, f2, f3] = true)
    (h : DataW.trod enc P W 0 (fun _ => true) true n E [v0, v1, v2, v3] = some y) : ∃ m y0 y1 y2 y3, DataW.trod enc P W 0 (fun _ => true) true m f0.type [v0] = some y0 ∧ DataW.trod enc P W 0 (fun _ => true) true m f1.type [v1] = some y1 ∧ DataW.trod enc P W 0 (fun _ => true) true m f2.type [v2] = some y2 ∧ DataW.trod enc P W 0 (fun _ => true) true m f3.type [v3] = some y3 := by
  obtain ⟨y0, y1, y2, y3, m, _, _, h0, h1, h2, h3⟩ := Go.Joins.trod_struct4 hE h
  obtain ⟨o0, c0⟩ := hone_of hone 0 f0 rfl
  obtain ⟨o1, c1⟩ := hone_of hone 1 f1 rfl
  obtain ⟨o2, c2⟩ := hone_of hone 2 f2 rfl
  obtain ⟨o3, c3⟩ := hone_of hone 3 f3 rfl
  exact ⟨m, y0, y1, y2, y3, by simpa [o0, c0] using h0, by simpa [o1, c1] using h1, by simpa [o2, c2] using h2, by simpa [o3, c3] using h3⟩
/-- A struct of nine fields in fifteen cells: parts of three, one, two, one, four and one. -/
theorem open9 {r : Reach} {b0 : Nat} {t : TypeId} {f0 f1 f2 f3 f4 f5 f6 f7 f8 : Field} {v : Value} {d : DataW H} {p : List MemPlace} (hs : P.underlying t = some (.struct #[f0, f1, f2, f3, f4, f5, f6, f7, f8]))
    (ho : [f0.offset, f1.offset, f2.offset, f3.offset, f4.offset, f5.offset, f6.offset, f7.offset, f8.offset] = [0, 3, 4, 6, 7, 11, 12, 13, 14])
    (hk : [P.cellsOf f0.type, P.cellsOf f1.type, P.cellsOf f2.type, P.cellsOf f3.type, P.cellsOf f4.type, P.cellsOf f5.type, P.cellsOf f6.type, P.cellsOf f7.type, P.cellsOf f8.type] = [3, 1, 2, 1, 4, 1, 1, 1, 1]) (hC : P.cellsOf t = 15)
    (hv : Value.okWide P W r b0 t v) (h : DataW.Trod enc P W 0 (fun _ => true) true t v d p) :
    ∃ (c0 c1 c2 c3 c4 c5 c6 c7 c8 c9 c10 c11 c12 c13 c14 : Value) (y0 y1 y2 y3 y4 y5 y6 y7 y8 : DataW H × List MemPlace) (n : Nat), v = .agg #[c0, c1, c2, c3, c4, c5, c6, c7, c8, c9, c10, c11, c12, c13, c14] ∧
      DataW.trod enc P W 0 (fun _ => true) true n f0.type [c0, c1, c2] = some y0 ∧ DataW.trod enc P W 0 (fun _ => true) true n f1.type [c3] = some y1 ∧ DataW.trod enc P W 0 (fun _ => true) true n f2.type [c4, c5] = some y2 ∧
      DataW.trod enc P W 0 (fun _ => true) true n f3.type [c6] = some y3 ∧ DataW.trod enc P W 0 (fun _ => true) true n f4.type [c7, c8, c9, c10] = some y4 ∧ DataW.trod enc P W 0 (fun _ => true) true n f5.type [c11] = some y5 ∧
      DataW.trod enc P W 0 (fun _ => true) true n f6.type [c12] = some y6 ∧ DataW.trod enc P W 0 (fun _ => true) true n f7.type [c13] = some y7 ∧ DataW.trod enc P W 0 (fun _ => true) true n f8.type [c14] = some y8 := by
  obtain ⟨cs, rfl, hsz⟩ := okWide_struct hs hv
  obtain ⟨c0, c1, c2, c3, c4, c5, c6, c7, c8, c9, c10, c11, c12, c13, c14, rfl⟩ := array15 (hsz.trans hC)
  obtain ⟨fuel, hf⟩ := h
  obtain ⟨xs, n, _, _, _, hlen, hx⟩ := DataW.trod_struct hs hf
  obtain ⟨y0, y1, y2, y3, y4, y5, y6, y7, y8, rfl⟩ := list9 (by simpa using hlen)
  simp only [List.cons.injEq, and_true] at ho hk
  obtain ⟨o0, o1, o2, o3, o4, o5, o6, o7, o8⟩ := ho
  obtain ⟨k0, k1, k2, k3, k4, k5, k6, k7, k8⟩ := hk
  exact ⟨c0, c1, c2, c3, c4, c5, c6, c7, c8, c9, c10, c11, c12, c13, c14, y0, y1, y2, y3, y4, y5, y6, y7, y8, n, rfl,
    by have := part (t := t) o0 k0 (hx 0 f0 rfl); simpa [Value.cells] using this, by have := part (t := t) o1 k1 (hx 1 f1 rfl); simpa [Value.cells] using this, by have := part (t := t) o2 k2 (hx 2 f2 rfl); simpa [Value.cells] using this,
    by have := part (t := t) o3 k3 (hx 3 f3 rfl); simpa [Value.cells] using this, by have := part (t := t) o4 k4 (hx 4 f4 rfl); simpa [Value.cells] using this, by have := part (t := t) o5 k5 (hx 5 f5 rfl); simpa [Value.cells] using this,
    by have := part (t := t) o6 k6 (hx 6 f6 rfl); simpa [Value.cells] using this, by have := part (t := t) o7 k7 (hx 7 f7 rfl); simpa [Value.cells] using this, by have := part (t := t) o8 k8 (hx 8 f8 rfl); simpa [Value.cells] using this⟩
end
set_option maxRecDepth 20000 in
set_option maxHeartbeats 1000000 in
theorem open_trek {H : Type} {enc : TypeId × Value → H} {W : World} {r : Reach} {b0 : Nat} {v : Value} {d : DataW H} {p : List MemPlace} (hv : Value.okWide Tryd.prog W r b0 68 v) (h : DataW.Trod enc Tryd.prog W 0 (fun _ => true) true 68 v d p) :
    ∃ (w hh b m rn n f dy gv ea : Int) (xa da ca pa ja : Option Addr) (xn xc dn dc cn cc pn pc jn jc : Nat) (X : List Int) (D : List (Int × Int)) (L : List Mem) (P : List Bool) (J : List I4),
      v = .agg #[.int .i64 w, .int .i64 hh, .slice xa xn xc, .int .i64 b, .int .i64 m, .int .i64 rn, .slice da dn dc, .int .i64 n, .int .i64 f, .slice ca cn cc, .slice pa pn pc, .slice ja jn jc, .int .i64 dy, .int .i64 gv, .int .i64 ea] ∧
      (Lit.int .i64 w).wf = true ∧ (Lit.int .i64 hh).wf = true ∧ IsRow .i64 W xa xn xc X ∧ (Lit.int .i64 b).wf = true ∧ (Lit.int .i64 m).wf = true ∧ (Lit.int .i64 rn).wf = true ∧ (D.length = dn ∧ SeesG encP W (.slice da dn dc) D) ∧
      (Lit.int .i64 n).wf = true ∧ (Lit.int .i64 f).wf = true ∧ (L.length = cn ∧ SeesG encM W (.slice ca cn cc) L) ∧ (P.length = pn ∧ SeesG encB W (.slice pa pn pc) P) ∧ (J.length = jn ∧ SeesG enc4 W (.slice ja jn jc) J) ∧
      (Lit.int .i64 dy).wf = true ∧ (Lit.int .i64 gv).wf = true ∧ (Lit.int .i64 ea).wf = true := by
  obtain ⟨c0, c1, c2, c3, c4, c5, c6, c7, c8, c9, c10, c11, c12, c13, c14, y0, y1, y2, y3, y4, y5, y6, y7, y8, k, rfl, h0, h1, h2, h3, h4, h5, h6, h7, h8⟩ := open9 Tryd.underlying68 (by kernel_rfl) (by kernel_rfl) (by kernel_rfl) hv h
  obtain ⟨_, _, _, _, l0, l1, l2⟩ := sub3 Tryd.underlying24 (by kernel_rfl) h0
  obtain ⟨_, _, _, r0, r1⟩ := sub2 Tryd.underlying66 (by kernel_rfl) h2
  obtain ⟨_, _, _, _, _, p0, p1, p2, p3⟩ := sub4 Tryd.underlying40 (by kernel_rfl) h4
  obtain ⟨w, rfl, w0⟩ := field_int Tryd.underlying3 l0
  obtain ⟨hh, rfl, w1⟩ := field_int Tryd.underlying3 l1
  obtain ⟨xa, xn, xc, X, rfl, w2⟩ := field_row Tryd.underlying22 Tryd.underlying3 (by kernel_rfl) l2
  obtain ⟨b, rfl, w3⟩ := field_int Tryd.underlying3 h1
  obtain ⟨m, rfl, w4⟩ := field_int Tryd.underlying3 r0
  obtain ⟨rn, rfl, w5⟩ := field_int Tryd.underlying3 r1
  obtain ⟨da, dn, dc, D, rfl, w6⟩ := field_rowG (e := encP) Tryd.underlying51 (by kernel_rfl) (encP_open Tryd.underlying104 (by kernel_rfl) Tryd.underlying3 Tryd.underlying3) h3
  obtain ⟨n, rfl, w7⟩ := field_int Tryd.underlying3 p0
  obtain ⟨f, rfl, w8⟩ := field_int Tryd.underlying3 p1
  obtain ⟨ca, cn, cc, L, rfl, w9⟩ := field_rowG (e := encM) Tryd.underlying37 (by kernel_rfl) (encM_open Tryd.underlying148 (by kernel_rfl) Tryd.underlying3 Tryd.underlying3 Tryd.underlying3 Tryd.underlying4) p2
  obtain ⟨pa, pn, pc, P, rfl, w10⟩ := field_rowG (e := encB) Tryd.underlying38 (by kernel_rfl) (encB_open Tryd.underlying4) p3
  obtain ⟨ja, jn, jc, J, rfl, w11⟩ := field_rowG (e := enc4) Tryd.underlying58 (by kernel_rfl) (enc4_open Tryd.underlying112 (by kernel_rfl) Tryd.underlying3 Tryd.underlying3 Tryd.underlying3 Tryd.underlying3) h5
  obtain ⟨dy, rfl, w12⟩ := field_int Tryd.underlying3 h6
  obtain ⟨gv, rfl, w13⟩ := field_int Tryd.underlying3 h7
  obtain ⟨ea, rfl, w14⟩ := field_int Tryd.underlying3 h8
  exact ⟨w, hh, b, m, rn, n, f, dy, gv, ea, xa, da, ca, pa, ja, xn, xc, dn, dc, cn, cc, pn, pc, jn, jc, X, D, L, P, J, rfl, w0, w1, w2, w3, w4, w5, w6, w7, w8, w9, w10, w11, w12, w13, w14⟩
end Go.Proofs.YtoanhnklemlfmaaDoor.TrekL

namespace Go.Proofs.YtoanhnklemlfmaaDoor.Rw
open Go.RowKit Kit

section
variable {P : Program} {fn : Func} {R : Ending → World → Prop} {a : Act} {w : World} {p u v : Tmp} {ty t : TypeId} {g : Nat} {cs : Array Value} {d : TypeDesc}
theorem ret_box (h : fn.results = #[.cell p ty]) (hp : a.tmps.getD p undef = .pointer (some ⟨g, 0, none⟩)) (hg : Box w g cs t)
    (hu : P.underlying ty = some d) (hd : (match d with | .struct _ | .array _ _ => true | _ => false) = true) (hi : (P.info? ty).map (·.size) = some cs.size)
    (hf : a.defers = []) (hR : R (.returned (.agg cs)) w) : bodyPost P fn R .ret a w := by
  refine bodyPost_ret (v := .agg cs) ?_ hf hR
  have hp' : a.tmps[p]?.getD undef = .pointer (some ⟨g, 0, none⟩) := by simpa using hp
  simp [results, h, hp', asAddr, run_loadVar_row w g t ty cs (0, 0) d hg hu hd hi]
theorem ret_box1 (h : fn.results = #[.cell p ty, .tmp u]) (hp : a.tmps.getD p undef = .pointer (some ⟨g, 0, none⟩)) (hg : Box w g cs t)
    (hu : P.underlying ty = some d) (hd : (match d with | .struct _ | .array _ _ => true | _ => false) = true) (hi : (P.info? ty).map (·.size) = some cs.size)
    (hf : a.defers = []) (hR : R (.returned (.tuple #[.agg cs, a.tmps.getD u undef])) w) : bodyPost P fn R .ret a w := by
  refine bodyPost_ret (v := .tuple #[.agg cs, a.tmps.getD u undef]) ?_ hf hR
  have hp' : a.tmps[p]?.getD undef = .pointer (some ⟨g, 0, none⟩) := by simpa using hp
  simp [results, h, hp', asAddr, run_loadVar_row w g t ty cs (0, 0) d hg hu hd hi]
theorem ret_box2 (h : fn.results = #[.cell p ty, .tmp u, .tmp v]) (hp : a.tmps.getD p undef = .pointer (some ⟨g, 0, none⟩)) (hg : Box w g cs t)
    (hu : P.underlying ty = some d) (hd : (match d with | .struct _ | .array _ _ => true | _ => false) = true) (hi : (P.info? ty).map (·.size) = some cs.size)
    (hf : a.defers = []) (hR : R (.returned (.tuple #[.agg cs, a.tmps.getD u undef, a.tmps.getD v undef])) w) : bodyPost P fn R .ret a w := by
  refine bodyPost_ret (v := .tuple #[.agg cs, a.tmps.getD u undef, a.tmps.getD v undef]) ?_ hf hR
  have hp' : a.tmps[p]?.getD undef = .pointer (some ⟨g, 0, none⟩) := by simpa using hp
  simp [results, h, hp', asAddr, run_loadVar_row w g t ty cs (0, 0) d hg hu hd hi]
end
end Go.Proofs.YtoanhnklemlfmaaDoor.Rw
