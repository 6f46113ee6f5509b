/- A strings.Builder of the call's own: written rune by rune (ASCII), and read. -/
import Derived.Test.YtoanhnklemlfmaaDoorRowE
import Derived.Test.YtoanhnklemlfmaaDoorMBase
import Derived.Lib.Builder
import Derived.Lib.OthersKept
namespace Go.Proofs.YtoanhnklemlfmaaDoor.Bld
open Go.RowKit Kit Rw Rg

theorem szB : (Tryd.prog.info? 134).map (·.size) = some 2 := by kernel_rfl
theorem liesB : liesAt Tryd.prog Tryd.prog.depth 134 (2 / Tryd.prog.cellsOf 134) 0 134 1 = true := by kernel_rfl
theorem info_u8 : (Tryd.prog.info? 5).map (fun i => (i.zero, i.size, i.bytes)) = some (some (.int .u8 0), 1, 1) := by kernel_rfl
/-- A builder in block b that holds the bytes L; its rows lie behind it. -/
def Bd (w : World) (b : Nat) (L : List Int) : Prop :=
  ∃ p v, (p = .pointer none ∨ p = .pointer (some ⟨b, 0, none⟩)) ∧ Box w b #[p, v] 134 ∧ Own .u8 5 w (b + 1) v L
def Bu (w : World) (b : Nat) (v : Value) (L : List Int) : Prop := Box w b #[.pointer (some ⟨b, 0, none⟩), v] 134 ∧ Own .u8 5 w (b + 1) v L
theorem Bd.new (w : World) : Bd (w.alloc (.cells #[.pointer none, .slice none 0 0] 134 (0, 0))) w.heap.size [] :=
  ⟨_, _, .inl rfl, box_new _ _ _, ⟨World.ownsRow_nil _ _ _ _, by simp⟩⟩
theorem Bu.bd {w : World} {b : Nat} {v : Value} {L : List Int} (h : Bu w b v L) : Bd w b L := ⟨_, v, .inr rfl, h.1, h.2⟩
theorem Bd.lt {w : World} {b : Nat} {L : List Int} (h : Bd w b L) : b < w.heap.size := by obtain ⟨_, _, _, h, _⟩ := h; exact h.lt
theorem set2_0 {w : World} {b : Nat} {x y u : Value} {t : TypeId} (h : Box w b #[x, y] t) : Box (w.setCell ⟨b, 0, none⟩ u) b #[u, y] t := box_set h 0 u
theorem set2_1 {w : World} {b : Nat} {x y u : Value} {t : TypeId} (h : Box w b #[x, y] t) : Box (w.setCell ⟨b, 1, none⟩ u) b #[x, u] t := box_set h 1 u
theorem own_off {w : World} {b : Nat} {v : Value} {L : List Int} (h : Own .u8 5 w (b + 1) v L) : v.ownBlock = none ∨ v.ownBlock ≠ some b := .inr fun e => by have := h.1.lt _ e; omega
theorem grown_below' {w w' : World} {b : Nat} (h : w.grownBy w' (some b)) (hB : b < w.heap.size) : Below b w w' := (Below.refl b w).grown h (Nat.le_of_lt hB) (fun k hk => by injection hk; omega)
theorem ret_one {a : Int} (h : a = 1) : Ending.returned (.tuple #[.int .i64 a, .nilIface]) = .returned (.tuple #[.int .i64 1, .nilIface]) := by rw [h]
/-- How much is written. -/
def bufLen (w : World) (b : Nat) : Nat := match w.cell? ⟨b, 1, none⟩ with
  | some (.slice _ n _) => n
  | _ => 0
theorem Bd.bufLen {w : World} {b : Nat} {L : List Int} (h : Bd w b L) : bufLen w b = L.length := by
  obtain ⟨p, v, _, hb, ho⟩ := h
  obtain ⟨va, vn, vc, rfl, HN⟩ := ho.sees.shape
  unfold Bld.bufLen
  rw [hb.cell 1]
  exact HN.out.symm
/-- Whatever leaves the blocks from the builder on as they were. -/
theorem Bd.kept {w w' : World} {b : Nat} {L : List Int} (h : Bd w b L) (hs : w.heap.size ≤ w'.heap.size) (hk : ∀ k, b ≤ k → k < w.heap.size → w'.heap[k]? = w.heap[k]?) : Bd w' b L := by
  obtain ⟨p, v, hp, hb, ho, hw⟩ := h
  refine ⟨p, v, hp, (hk b (Nat.le_refl _) hb.lt).trans hb, ?_, hw⟩
  obtain ⟨h1, h2⟩ := ho
  refine ⟨h1, ?_⟩
  rcases h2 with h2 | ⟨g, cap, cur, hv, hg, hh, r⟩
  · exact .inl h2
  · have hlt : g < w.heap.size := by
      rcases Nat.lt_or_ge g w.heap.size with h' | h'
      · exact h'
      · rw [Array.getElem?_eq_none h'] at hh; cases hh
    exact .inr ⟨g, cap, cur, hv, hg, (hk g (by omega) hlt).trans hh, r⟩

set_option maxHeartbeats 1000000 in
set_option maxRecDepth 100000 in
theorem check_any (w : World) (b : Nat) (L : List Int) (h : Bd w b L) :
    Calls Tryd.prog 126 #[.pointer (some ⟨b, 0, none⟩)] w fun e w' => e = .returned (.tuple #[]) ∧ (∃ v, Bu w' b v L) ∧ w.grownBy w' (some b) := by
  obtain ⟨j, hj, hjs⟩ := Option.map_eq_some_iff.1 szB
  obtain ⟨p, v, hp, hb, ho⟩ := h
  have HO := Lib.hid ho
  have HB := Lib.hid hb
  rcases hp with rfl | rfl
  · have h0 : w.cell? ⟨b, 0, none⟩ = some (.pointer none) := hb.cell 0
    have hsh : w.shape? b = some (134, 2) := by
      have h' : w.heap[b]? = _ := hb
      simp [World.shape?, h']
    have hfz := hb.free 0
    clear hb ho
    go_enter Tryd.func126, Tryd.ntmps126
    go_wp2
    rw [Lib.run_to_unsafe w ⟨b, 0, none⟩ Tryd.underlying132 Tryd.underlying168 hj (by rw [hjs]; decide) hsh (Nat.zero_lt_succ 1)]
    simp only [Result.andThen]
    rw [Oper.upon_value]
    go_wp2
    rw [run_callFunc_extern Tryd.func135 (by kernel_rfl) (by kernel_rfl) (by kernel_rfl) (e := Extern.AbiNoEscape.same) (by kernel_rfl)]
    rw [Lib.run_noEscape]
    simp only [Result.andThen]
    rw [Oper.upon_value]
    go_wp2
    rw [Lib.run_from_unsafe w ⟨b, 0, none⟩ Tryd.underlying168 Tryd.underlying132 hj hsh liesB]
    simp only [Result.andThen]
    rw [Oper.upon_value]
    go_wp2
    go_end0
    exact ⟨rfl, ⟨v, set2_0 HB.out, HO.out.kept (grown_set w b 0 _) (own_off HO.out)⟩, grown_set w b 0 _⟩
  · have h0 : w.cell? ⟨b, 0, none⟩ = some (.pointer (some ⟨b, 0, none⟩)) := hb.cell 0
    clear hb ho
    go_enter Tryd.func126, Tryd.ntmps126
    go_wp2
    rw [Lib.run_neq_ptr_same w _ Tryd.underlying132 hj]
    go_wp2
    go_end0
    exact ⟨rfl, ⟨v, HB.out, HO.out⟩, World.grownBy.refl _ _⟩

set_option maxHeartbeats 1000000 in
set_option maxRecDepth 100000 in
theorem rune_any (w : World) (base : Nat) (v : Value) (L : List Int) (r : Nat) (hr : r = 115 ∨ r = 46) (hv : Own .u8 5 w base v L) (hl : L.length ≤ 1000000000) (hb : base ≤ w.heap.size) :
    Calls Tryd.prog 129 #[v, .int .i32 (r : Int)] w fun e w' => ∃ u, e = .returned u ∧ Own .u8 5 w' base u (L ++ [(r : Int)]) ∧ w.grownBy w' v.ownBlock := by
  obtain ⟨i0, hi, hz0, hz1, hz2⟩ := info_parts info_u8
  have HV := Lib.hid hv
  have hr0 : (0 : Int) ≤ (r : Int) := by omega
  have hr1 : (r : Int) ≤ 127 := by omega
  have hc1 : IntKind.u32.wrap (r : Int) = (r : Int) := by rcases hr with rfl | rfl <;> decide
  have hc2 : IntKind.u8.wrap (r : Int) = (r : Int) := by rcases hr with rfl | rfl <;> decide
  have HWF : Hid ((Lit.int .u8 (r : Int)).wf = true) := by show _ = _; rcases hr with rfl | rfl <;> decide
  clear hr
  clear hv
  go_enter Tryd.func129, Tryd.ntmps129
  go_wp2_with (at_builtin; go_loud (refine wpList_append_one _ rfl _ _ 131 rfl base 5 i0 (.int .u8 0) 1 Tryd.underlying131 hi hz0 hz1 hz2 rfl .u8 _ L rfl HV.out (r : Int) rfl HWF.out (by omega) (by decide) hb ?_); intro v3 w3 hown3 hgrow3; have HO3 := Lib.hid hown3; have HG3 := Lib.hid hgrow3; clear hown3 hgrow3)
  go_ret
  exact ⟨_, rfl, HO3.out, HG3.out⟩

set_option maxHeartbeats 1000000 in
set_option maxRecDepth 100000 in
/-- One rune more. -/
theorem write_any (w : World) (b : Nat) (L : List Int) (r : Nat) (hr : r = 115 ∨ r = 46) (h : Bd w b L) (hl : L.length ≤ 3000000) :
    Calls Tryd.prog 117 #[.pointer (some ⟨b, 0, none⟩), .int .i32 (r : Int)] w fun e w' => e = .returned (.tuple #[.int .i64 1, .nilIface]) ∧ Bd w' b (L ++ [(r : Int)]) ∧ Below b w w' := by
  have HC := Lib.hid (check_any w b L h)
  have HR := Lib.hid hr
  have HLT := Lib.hid h.lt
  clear h hr
  go_enter Tryd.func117, Tryd.ntmps117
  go_wp2_with fail
  refine HC.out.mono ?_
  rintro e w1 ⟨rfl, ⟨v, hb1, ho1⟩, hg1⟩
  obtain ⟨va, vn, vc, rfl, HN⟩ := ho1.sees.shape
  have hvn : vn ≤ 3000000 := by rw [← HN.out]; exact hl
  have c1 : w1.cell? ⟨b, 1, none⟩ = some (.slice va vn vc) := hb1.cell 1
  have HB1 := Lib.hid hb1
  have HO1 := Lib.hid ho1
  have HG1 := Lib.hid (grown_below' hg1 HLT.out)
  clear hb1 ho1 hg1 HC
  go_wp2_with fail
  refine (rune_any w1 (b + 1) _ L r HR.out HO1.out (by omega) HB1.out.lt).mono ?_
  rintro e w2 ⟨u, rfl, ho2, hg2⟩
  obtain ⟨ua, un, uc, rfl, HUN⟩ := ho2.sees.shape
  have hun : un = vn + 1 := by rw [← HUN.out, ← HN.out]; simp
  subst hun
  have hne : (Value.slice va vn vc).ownBlock ≠ some b := fun e => by have := HO1.out.1.lt _ e; omega
  have HB2 := Lib.hid (HB1.out.kept hg2 hne)
  have HB3 := Lib.hid (set2_1 (u := .slice ua (vn + 1) uc) HB2.out)
  have HO2 := Lib.hid ho2
  have HG2 : Hid (Below b w w2) := HG1.out.trans ((Below.refl b w1).grown hg2 (Nat.le_of_lt HB1.out.lt) (fun k hk => by have := HO1.out.1.lt _ hk; omega))
  have HO3 := Lib.hid (HO2.out.kept (grown_set w2 b 1 (.slice ua (vn + 1) uc)) (own_off HO2.out))
  have HG3 : Hid (Below b w (w2.setCell ⟨b, 1, none⟩ (.slice ua (vn + 1) uc))) := HG2.out.trans (grown_below' (grown_set w2 b 1 (.slice ua (vn + 1) uc)) HB2.out.lt)
  have d1 := HB2.out.cell 1
  have f1 := HB2.out.free 1
  have e1 : World.cell? _ ⟨b, 1, none⟩ = some (.slice ua (vn + 1) uc) := HB3.out.cell 1
  clear ho2 hg2 c1
  go_wp2
  go_ret2
  exact ⟨ret_one (by omega), ⟨_, _, .inr rfl, HB3.out, HO3.out⟩, HG3.out⟩
end Go.Proofs.YtoanhnklemlfmaaDoor.Bld
