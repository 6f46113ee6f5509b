/- Contracts of a page that is written, of the program and of its model. -/
import Derived.Test.YtlhbnkjijggfaaaDoorJrS
import Derived.Test.YtlhbnkjijggfaaaDoorJrK
import Derived.Test.YtlhbnkjijggfaaaDoorMk3
import Derived.Lib.SliceRun
import Derived.Laws.OwnMore
import Derived.Laws.AppendOwn
import Derived.Deep.RegionHeldLaw
namespace Go.Proofs.YtlhbnkjijggfaaaDoor.Wrp
open Go.RowKit Kit Rw Rg Md Four Hs Jrn

def newP (L : List I4) (d c f : Int) : I4 := ⟨d, c, f, sealT (prev L L.length).x3 ⟨d, c, f, 0⟩⟩
def ok (L : List I4) (d c f : Int) : Bool := isJ (L ++ [newP L d c f])
def res (L : List I4) (d c f : Int) : List I4 := if ok L d c f = true then L ++ [newP L d c f] else L
theorem res_len (L : List I4) (d c f : Int) : (res L d c f).length ≤ L.length + 1 := by
  unfold res; split
  · simp
  · omega
theorem newP_ok (L : List I4) {d c f : Int} (h0 : (Lit.int .i64 d).wf = true) (h1 : (Lit.int .i64 c).wf = true) (h2 : (Lit.int .i64 f).wf = true) : enc4.ok (newP L d c f) :=
  ⟨h0, h1, h2, by have := seal_in (prev L L.length).x3 ⟨d, c, f, 0⟩; unfold InM at this; exact i64_mk (by show _ ≤ sealT _ _ ∧ sealT _ _ ≤ _; omega)⟩
theorem ret_t {u : Value} {a b : Bool} (h : a = b) : Ending.returned (.tuple #[u, .bool a]) = .returned (.tuple #[u, .bool b]) := by rw [h]
theorem info_page : (Tryd.prog.info? 64).map (fun i => (i.zero, i.size, i.bytes)) = some (some (.agg #[.int .i64 0, .int .i64 0, .int .i64 0, .int .i64 0]), 4, 32) := by kernel_rfl

/-- 'append(v, u...)' at a step of a region that draws its order: v a row of the call's own, u whatever reads as M. -/
theorem stepG_append {α : Type} {e : Enc α} {P : Program} (w : World) {ops : Array Oper} {o : Oper} {a : Act} {K : Act → World → Prop} {Q : Exit → Act → World → Prop} {E0 : Prop} (hgd : o.guard = none) (s x : Operand) (t : TypeId)
    (ho : o.op = .call { callee := .builtin .append, args := #[s, x], argTypes := #[t, t] })
    (base : Nat) (E : TypeId) (i : TypeInfo) (z : Value) (bytes : Nat) (ht : P.underlying t = some (.slice E)) (hi : P.info? E = some i) (hz : i.zero = some z)
    (hsize : i.size = e.size) (hby : i.bytes = bytes) (hzs : z.cells.size = e.size)
    (v : Value) (L : List α) (hs : a.eval s = v) (hown : OwnG e E w base v L) (u : Value) (M : List α) (hx : a.eval x = u) (hu : SeesG e w u M)
    (h63 : L.length + M.length ≤ maxLen) (hbytes : (L.length + M.length) * bytes ≤ 140737488355328) (w0 : World) (hw0 : w0.grownBy w none) (hbase : w0.heap.size = base)
    (h : ∀ v' w', OwnG e E w' base v' (L ++ M) → w.grownBy w' v.ownBlock → w0.grownBy w' none → K (a.put o.dst v') w') :
    if Region.wanted o (yielded ops a.tmps) = true then Oper.wp P o a w K Q else E0 := by
  have hw : Region.wanted o (yielded ops a.tmps) = true := by simp [Region.wanted, hgd]
  rw [if_pos hw]
  have hlt := hown.lt
  obtain ⟨ho1, hw1⟩ := hown
  have hok := hu.ok
  obtain ⟨ad, cap, rfl, hlc, hcm, hnil, _, hcell⟩ := hu
  have hall : ∀ x ∈ L ++ M, e.ok x := fun x hx => by
    rcases List.mem_append.1 hx with h | h
    · exact hw1 x h
    · exact hok x h
  cases ad with
  | none =>
    have hc := hnil rfl
    subst hc
    have hM : M = [] := List.eq_nil_of_length_eq_zero (by omega)
    subst hM
    have hrun := run_append_owned_none (P := P) (w := w) base t o.type E i e.size ht hi v L.length _ ho1
    have hx' : a.eval x = .slice none 0 0 := by simpa using hx
    unfold Oper.wp
    simp [execOp, ho, resolve, invoke, builtin, hs, hx', hrun, Result.andThen]
    exact h v w ⟨by simpa using ho1, hall⟩ (World.grownBy.refl w _) hw0
  | some ad =>
    obtain ⟨v', w', hr, h2, h3, _⟩ := run_append_own (P := P) w base t o.type E i z e.size bytes ht hi hz hsize hby hzs e.pos v L.length _ ho1 ad M.length cap (flat e M) (flat_len M) (by
      intro j y hy
      have hj : j < M.length * e.size := by rw [← flat_len]; exact (List.getElem?_eq_some_iff.1 hy).1
      rcases hcell with h0 | ⟨b, of, e', hc⟩
      · rw [h0] at hj; simp at hj
      · injection e' with e'
        subst e'
        rw [add_plain, hc j hj, hy]) flat_one h63 hbytes (by rw [← hbase]; exact hw0.size)
    unfold Oper.wp execOp
    simp only [ho, resolve, invoke, builtin, Sem.run_bind, Sem.run_pure, Result.andThen_ok, List.map_toArray, List.map_cons, List.map_nil, hs, hx, hr]
    exact h v' w' ⟨by rw [List.length_append, flat_app]; exact h2, hall⟩ h3 (grown_new hw0 h3 (fun c hc => by have := (hlt c hc).1; omega))

set_option maxRecDepth 20000 in
set_option maxHeartbeats 1000000 in
theorem room_any (w : World) (v : Value) (r : Int) (X : List I4) (hv : SeesG enc4 w v X) (hn : X.length ≤ 1000000000) (hr : 0 ≤ r ∧ r ≤ 1000000) :
    Calls Tryd.prog 60 #[v, .int .i64 r] w fun e w' => ∃ u, e = .returned u ∧ OwnG enc4 64 w' w.heap.size u X ∧ w.grownBy w' none := by
  have HV := Lib.hid hv
  obtain ⟨a, cap, rfl, hlc, hcm, hnil, hwf, hcell⟩ := hv
  obtain ⟨r, rfl⟩ : ∃ c : Nat, r = c := ⟨r.toNat, by omega⟩
  clear hwf hcell hnil
  obtain ⟨i0, hi, hz0, hz1, hz2⟩ := info_parts info_page
  go_enter Tryd.func60, Tryd.ntmps60
  go_wp2_with (first
    | (at_make; refine wpList_make_own _ rfl _ _ 25 rfl w.heap.size 64 i0 (.agg #[.int .i64 0, .int .i64 0, .int .i64 0, .int .i64 0]) 4 Tryd.underlying25 hi hz0 hz1 .i64 .i64 _ (X.length + r) rfl rfl (by simp) (by rw [hz2]; omega) (by unfold maxLen; omega) (Nat.le_refl _) ?_; intro w1 hown hgrow; have HS := Lib.hid (HV.out.grown hgrow); have HO : Hid (OwnG enc4 64 w1 w.heap.size (.slice (some ⟨w.heap.size, 0, none⟩) 0 (X.length + r)) []) := Lib.hid ⟨hown, by simp⟩; have HG := Lib.hid hgrow; clear hown hgrow)
    | (at_builtin; go_loud (refine wpListG_append_sees _ rfl _ _ 25 rfl w.heap.size 64 i0 (.agg #[.int .i64 0, .int .i64 0, .int .i64 0, .int .i64 0]) 32 Tryd.underlying25 hi hz0 hz1 hz2 rfl _ [] rfl HO.out _ X rfl HS.out (by unfold maxLen; simp; omega) (by simp; omega) (by exact HG.out.size) ?_); intro v2 w2 hown2 hgrow2; rw [List.nil_append] at hown2; have HO2 := Lib.hid hown2; have HG2 := Lib.hid hgrow2; clear hown2 hgrow2))
  go_ret
  exact ⟨_, rfl, HO2.out, grown_new HG.out HG2.out (fun c hc => (HO.out.lt c hc).1)⟩

set_option maxRecDepth 20000 in
set_option maxHeartbeats 1000000 in
theorem clone_any (w : World) (v : Value) (X : List I4) (hv : SeesG enc4 w v X) (hn : X.length ≤ 1000000000) :
    Calls Tryd.prog 61 #[v] w fun e w' => ∃ u, e = .returned u ∧ OwnG enc4 64 w' w.heap.size u X ∧ w.grownBy w' none := by
  have hg0 := World.grownBy_alloc w (.cells #[] 64 (0, 0)) none
  have HV := Lib.hid (hv.grown hg0)
  have HW : Hid (OwnG enc4 64 (w.alloc (.cells #[] 64 (0, 0))) w.heap.size (.slice (some ⟨w.heap.size, 0, none⟩) 0 0) []) := ownG_empty w
  have HG := Lib.hid hg0
  clear hg0
  obtain ⟨a, cap, rfl, h1, h2, h3, _, _⟩ := hv
  obtain ⟨i0, hi, hz0, hz1, hz2⟩ := info_parts info_page
  have q : ∀ (w : World) (a : Option Addr) (n c n' c' : Nat), (binOp .eql 25 (.slice a n c) (.slice none n' c')).run Tryd.prog w = .ok (.bool a.isNone) w := fun w a n c n' c' => Lib.run_eql_slice_nil w _ _ a n c n' c' Tryd.underlying25
  cases a with
  | none =>
    have hc := h3 rfl
    have hL : X = [] := List.eq_nil_of_length_eq_zero (by omega)
    subst hL
    subst hc
    go_enter Tryd.func61, Tryd.ntmps61
    go_wp2
    go_ret
    exact ⟨_, rfl, ownG_nil, World.grownBy.refl _ _⟩
  | some ad =>
    clear h1 h2 h3
    go_enter Tryd.func61, Tryd.ntmps61
    go_wp2_with (at_builtin; go_loud (refine wpListG_append_sees _ rfl _ _ 25 rfl w.heap.size 64 i0 (.agg #[.int .i64 0, .int .i64 0, .int .i64 0, .int .i64 0]) 32 Tryd.underlying25 hi hz0 hz1 hz2 rfl _ [] rfl HW.out _ X rfl HV.out (by unfold maxLen; simp; omega) (by simp; omega) HG.out.size ?_); intro v3 w3 hown3 hgrow3; rw [List.nil_append] at hown3; have HO3 := Lib.hid hown3; have HG3 := Lib.hid (grown_new HG.out hgrow3 (fun c hc => (HW.out.lt c hc).1)); clear hown3 hgrow3)
    go_ret
    exact ⟨_, rfl, HO3.out, HG3.out⟩
end Go.Proofs.YtlhbnkjijggfaaaDoor.Wrp
