/- Contracts of the land of the example, of the program and of its model. -/
import Derived.Test.YtconlnlbaimghaaMBase
import Derived.Test.YtconlnlbaimghaaLayIx
import Derived.IntWalk
import Derived.WalkKit
import Derived.OwnWalk
import Derived.Lib.OthersKept
import Derived.Laws.RangeString
import Derived.Laws.RangeAny
namespace Go.Proofs.Ytconlnlbaimghaa.ExL
open Go.RowKit Kit Rw Md

theorem info_parts_ {x : Option TypeInfo} {z : Option Value} {s b : Nat} (h : x.map (fun i => (i.zero, i.size, i.bytes)) = some (z, s, b)) : ∃ i, x = some i ∧ i.zero = z ∧ i.size = s ∧ i.bytes = b := by
  cases x with
  | none => cases h
  | some i => simp at h; exact ⟨i, rfl, h.1, h.2.1, h.2.2⟩
theorem info_int : (Try.prog.info? 3).map (fun i => (i.zero, i.size, i.bytes)) = some (some (.int .i64 0), 1, 8) := by kernel_rfl
def exL : List Int := [0, 0, 0, 0, 0, 0, 2, 2, 1, 0, 0, 0, 0, 1, 0, 0, 2, 0, 0, 0]
theorem own_iter {w : World} {k : IntKind} {E base : Nat} {v : Value} {L : List Int} {c : Nat} {s : ByteArray} {pos : Nat} (h : Own k E w base v L) (hk : w.heap[c]? = some (.stringIter s pos)) (pos' : Nat) : Own k E (w.iterAt c s pos') base v L := by
  refine ⟨⟨h.1.1, ?_⟩, h.2⟩
  rcases h.1.2 with h0 | ⟨g, cap, cur, hv, hb, hg, rest⟩
  · exact .inl h0
  · refine .inr ⟨g, cap, cur, hv, hb, ?_, rest⟩
    rw [Lib.iterAt_other _ _ _ _ _ (fun e => by subst e; rw [hk] at hg; cases hg)]
    exact hg
theorem own_apart {w : World} {k : IntKind} {E base : Nat} {v : Value} {L : List Int} {c : Nat} {s : ByteArray} {pos : Nat} (h : Own k E w base v L) (hk : w.heap[c]? = some (.stringIter s pos)) : some c ≠ v.ownBlock := by
  rcases h.1.2 with ⟨rfl, _⟩ | ⟨g, cap, cur, rfl, hb, hg, rest⟩
  · simp [Value.ownBlock]
  · intro e
    simp only [Value.ownBlock, Option.some.injEq] at e
    subst e
    rw [hk] at hg
    cases hg
theorem grown_iter {w w' : World} {c : Nat} {s : ByteArray} {pos : Nat} (h : w.grownBy w' none) (hc : w.heap.size ≤ c) : w.grownBy (w'.iterAt c s pos) none :=
  ⟨h.os, h.tape, h.output, by rw [Lib.iterAt_size]; exact h.size, fun i hi hr => (Lib.iterAt_other _ _ _ _ _ (by omega)).trans (h.block i hi hr)⟩
theorem ex_next {j : Nat} (h : j < 20) : ∃ hj : j < ({ data := #[46, 46, 46, 46, 46, 46, 35, 35, 105, 46, 46, 46, 46, 105, 46, 46, 35, 46, 46, 46] } : ByteArray).size, (({ data := #[46, 46, 46, 46, 46, 46, 35, 35, 105, 46, 46, 46, 46, 105, 46, 46, 35, 46, 46, 46] } : ByteArray)[j]'hj).toNat < 128 ∧ Lib.indexByte [46, 105, 35] ((((({ data := #[46, 46, 46, 46, 46, 46, 35, 35, 105, 46, 46, 46, 46, 105, 46, 46, 35, 46, 46, 46] } : ByteArray)[j]'hj).toNat : Nat) : Int).toNat.toUInt8) = exL.getD j 0 := by
  have : ∀ j : Fin 20, (({ data := #[46, 46, 46, 46, 46, 46, 35, 35, 105, 46, 46, 46, 46, 105, 46, 46, 35, 46, 46, 46] } : ByteArray)[j.val]'(by have := j.2; show _ < 20; exact this)).toNat < 128 ∧ Lib.indexByte [46, 105, 35] ((((({ data := #[46, 46, 46, 46, 46, 46, 35, 35, 105, 46, 46, 46, 46, 105, 46, 46, 35, 46, 46, 46] } : ByteArray)[j.val]'(by have := j.2; show _ < 20; exact this)).toNat : Nat) : Int).toNat.toUInt8) = exL.getD j.val 0 := by decide
  exact ⟨h, this ⟨j, h⟩⟩

theorem take_next {L : List Int} {j : Nat} (h : j < L.length) : L.take (j + 1) = L.take j ++ [L.getD j 0] := by
  rw [List.take_succ_eq_append_getElem h]; simp [h]

set_option maxRecDepth 20000 in
set_option maxHeartbeats 2000000 in
theorem iEx_any (w : World) :
    Calls Try.prog 20 #[] w fun e w' => ∃ v, e = .returned (.agg #[.int .i64 5, .int .i64 4, v]) ∧ Own .i64 3 w' w.heap.size v exL ∧ w.grownBy w' none := by
  obtain ⟨i0, hi, hz0, hz1, hz2⟩ := info_parts_ info_int
  go_enter Try.func20, Try.ntmps20
  go_wp2_with (at_make; go_loud (refine wpList_make_own _ rfl _ _ 36 rfl (w.heap.size + 1) 3 i0 (.int .i64 0) 1 Try.underlying36 hi hz0 hz1 .i64 .i64 _ 20 rfl rfl rfl (by rw [hz2]; decide) (by unfold maxLen; omega) (by simp) ?_); intro w1 hown hgrow; have HO : Hid (Rw.Own .i64 3 w1 (w.heap.size + 1) _ []) := ⟨by simpa using hown, by simp⟩; have HG1 := Lib.hid hgrow; clear hown hgrow)
  obtain ⟨W2, hW2⟩ : ∃ x, x = w1.iter ({ data := #[46, 46, 46, 46, 46, 46, 35, 35, 105, 46, 46, 46, 46, 105, 46, 46, 35, 46, 46, 46] } : ByteArray) 0 := ⟨_, rfl⟩
  obtain ⟨IT, hIT⟩ : ∃ x, x = w1.heap.size := ⟨_, rfl⟩
  have hgi : w1.grownBy W2 none := by rw [hW2]; exact World.grownBy_alloc w1 (.stringIter ({ data := #[46, 46, 46, 46, 46, 46, 35, 35, 105, 46, 46, 46, 46, 105, 46, 46, 35, 46, 46, 46] } : ByteArray) 0) none
  have hlt : w.heap.size + 1 ≤ IT := by rw [hIT]; have := HG1.out.size; simpa using this
  have HLT := Lib.hid hlt
  have HB0 : Hid (Box W2 w.heap.size #[.int .i64 0, .int .i64 0, .slice none 0 0] 38) := ((box_new w #[.int .i64 0, .int .i64 0, .slice none 0 0] 38).grown HG1.out).grown hgi
  have HO2 : Hid (Own .i64 3 W2 (w.heap.size + 1) (.slice (some ⟨w.heap.size + 1, 0, none⟩) 0 20) (exL.take 0)) := HO.out.grown hgi
  have HI0 : Hid (W2.heap[IT]? = some (.stringIter ({ data := #[46, 46, 46, 46, 46, 46, 35, 35, 105, 46, 46, 46, 46, 105, 46, 46, 35, 46, 46, 46] } : ByteArray) 0)) := by show _ = _; rw [hW2, hIT]; exact World.iter_heap _ _ _
  have HG2 : Hid (w.grownBy W2 none) := grownN_trans (grownN_trans (World.grownBy_alloc w _ none) HG1.out) hgi
  rw [← hW2, ← hIT]
  clear hgi hlt hW2 hIT HO HG1
  go_loopw [1] (fun v wr => ∃ j : Nat, j ≤ 20 ∧ Hid (Own .i64 3 wr (w.heap.size + 1) v (exL.take j)) ∧ Hid (wr.heap[IT]? = some (.stringIter ({ data := #[46, 46, 46, 46, 46, 46, 35, 35, 105, 46, 46, 46, 46, 105, 46, 46, 35, 46, 46, 46] } : ByteArray) j)) ∧ Hid (Box wr w.heap.size #[.int .i64 0, .int .i64 0, .slice none 0 0] 38) ∧ Hid (w.grownBy wr none)) (fun _ wr => 20 - wr.iterPos IT)
  case atStart => exact ⟨0, by omega, HO2, HI0, HB0, HG2⟩
  case round =>
    obtain ⟨j, hj, HO, HI, HB, HG⟩ := hrel
    by_cases hlt : j < 20
    · obtain ⟨hjs, ha, hc⟩ := ex_next hlt
      have hnx := fun ty => Lib.run_next_ascii_at (P := Try.prog) wr IT ({ data := #[46, 46, 46, 46, 46, 46, 35, 35, 105, 46, 46, 46, 46, 105, 46, 46, 35, 46, 46, 46] } : ByteArray) j ty HI.out hjs ha
      have htk := take_next (L := exL) (j := j) hlt
      obtain ⟨c, hcc⟩ : ∃ c, c = (({ data := #[46, 46, 46, 46, 46, 46, 35, 35, 105, 46, 46, 46, 46, 105, 46, 46, 35, 46, 46, 46] } : ByteArray)[j]'hjs).toNat := ⟨_, rfl⟩
      rw [← hcc] at hnx hc ha
      obtain ⟨x, hx⟩ : ∃ x, x = exL.getD j 0 := ⟨_, rfl⟩
      rw [← hx] at hc htk
      have hxb : 0 ≤ x ∧ x ≤ 2 := by
        rw [hx]
        exact (show ∀ j : Fin 20, 0 ≤ exL.getD j.val 0 ∧ exL.getD j.val 0 ≤ 2 by decide) ⟨j, hlt⟩
      have HTK := Lib.hid htk
      have HC := Lib.hid hc
      clear hcc hx htk hc
      have HIP : Hid (wr.iterPos IT = j) := by { show _ = _; simp [World.iterPos, HI.out] }
      have hne : w.heap.size ≠ IT := by have := HLT.out; omega
      have HO5 := Lib.hid (own_iter HO.out HI.out (j + 1))
      have HI5 := Lib.hid (Lib.iterAt_heap wr IT ({ data := #[46, 46, 46, 46, 46, 46, 35, 35, 105, 46, 46, 46, 46, 105, 46, 46, 35, 46, 46, 46] } : ByteArray) j (j + 1) HI.out)
      have HB5 : Hid (Box (wr.iterAt IT ({ data := #[46, 46, 46, 46, 46, 46, 35, 35, 105, 46, 46, 46, 46, 105, 46, 46, 35, 46, 46, 46] } : ByteArray) (j + 1)) w.heap.size #[.int .i64 0, .int .i64 0, .slice none 0 0] 38) := (Lib.iterAt_other _ _ _ _ _ hne).trans HB.out
      have HG5 := Lib.hid (grown_iter (c := IT) (s := ({ data := #[46, 46, 46, 46, 46, 46, 35, 35, 105, 46, 46, 46, 46, 105, 46, 46, 35, 46, 46, 46] } : ByteArray)) (pos := j + 1) HG.out (by have := HLT.out; omega))
      clear hne
      go_wp2_with fail
      refine (Try.strings_IndexRune_ascii _ (c : Int) _ (by omega) (by omega)).mono ?_
      rintro e w5 ⟨rfl, rfl⟩
      rw [show Lib.indexByte (({ data := #[46, 105, 35] } : ByteArray).data.toList) ((c : Int).toNat.toUInt8) = x from HC.out]
      clear hnx HO HI HB HG HC
      generalize wr.iterAt IT ({ data := #[46, 46, 46, 46, 46, 46, 35, 35, 105, 46, 46, 46, 46, 105, 46, 46, 35, 46, 46, 46] } : ByteArray) (j + 1) = W5 at *
      have HZ5 : Hid (w.heap.size + 1 ≤ W5.heap.size) := by { show _ ≤ _; have h1 := (Array.getElem?_eq_some_iff.1 HI5.out).1; have h2 := HLT.out; omega }
      go_wp2_with (at_builtin; go_loud (refine wpList_append_one _ rfl _ _ 36 rfl (w.heap.size + 1) 3 i0 (.int .i64 0) 8 Try.underlying36 hi hz0 hz1 hz2 rfl .i64 _ (exL.take j) rfl HO5.out x rfl (i64_mk (by omega)) (by simp; omega) (by decide) HZ5.out ?_); go_loud (intro v4 w4 hown4 hgrow4; have HO6 : Hid (Own .i64 3 w4 (w.heap.size + 1) v4 (exL.take (j + 1))) := by { show Own _ _ _ _ _ _; rw [HTK.out]; exact hown4 }; have HI6 : Hid (w4.heap[IT]? = some (.stringIter ({ data := #[46, 46, 46, 46, 46, 46, 35, 35, 105, 46, 46, 46, 46, 105, 46, 46, 35, 46, 46, 46] } : ByteArray) (j + 1))) := (hgrow4.block IT (Array.getElem?_eq_some_iff.1 HI5.out).1 (own_apart HO5.out HI5.out)).trans HI5.out; have HB6 := Lib.hid (HB5.out.kept hgrow4 (HO5.out.off (Nat.lt_succ_self _))); have HG6 := Lib.hid (grown_new HG5.out hgrow4 (fun c hc => Nat.le_of_succ_le (HO5.out.lt c hc).1)); clear hown4 hgrow4))
      go_roundw
      case rel => exact ⟨j + 1, by omega, HO6, HI6, HB6, HG6⟩
      case measure =>
        have hip : w4.iterPos IT = j + 1 := by simp [World.iterPos, HI6.out]
        rw [hip, HIP.out]; omega
    · have hj20 : j = 20 := by omega
      subst hj20
      have hnx := fun ty => Lib.run_next_end_at (P := Try.prog) wr IT ({ data := #[46, 46, 46, 46, 46, 46, 35, 35, 105, 46, 46, 46, 46, 105, 46, 46, 35, 46, 46, 46] } : ByteArray) 20 ty HI.out (by decide)
      obtain ⟨va, vn, vc, hv, hvn⟩ := HO.out.sees.shape
      rw [hv] at HO ⊢
      clear hv hvn
      have k0 := HB.out.cell 0
      have k1 := HB.out.cell 1
      have k2 := HB.out.cell 2
      have y0 := HB.out.free 0
      have y1 := HB.out.free 1
      have y2 := HB.out.free 2
      simp only [List.getElem?_toArray, List.getElem?_cons_succ, List.getElem?_cons_zero] at k0 k1 k2
      go_wp2
      have HB3 : Hid (Box (((wr.setCell ⟨w.heap.size, 0, none⟩ (.int .i64 5)).setCell ⟨w.heap.size, 1, none⟩ (.int .i64 4)).setCell ⟨w.heap.size, 2, none⟩ (.slice va vn vc)) w.heap.size #[.int .i64 5, .int .i64 4, .slice va vn vc] 38) := by
        have := box_set (box_set (box_set HB.out 0 (.int .i64 5)) 1 (.int .i64 4)) 2 (.slice va vn vc)
        show Box _ _ _ _
        simpa using this
      have HO3 := Lib.hid (((HO.out.set (Nat.lt_succ_self w.heap.size) 0 (.int .i64 5)).set (Nat.lt_succ_self w.heap.size) 1 (.int .i64 4)).set (Nat.lt_succ_self w.heap.size) 2 (.slice va vn vc))
      have hs : ∀ (y : World) (g : w.grownBy y none) (i : Nat) (v : Value), w.grownBy (y.setCell ⟨w.heap.size, i, none⟩ v) none := fun y g i v => grown_new g (grown_set y w.heap.size i v) (fun c e => by injection e with e; omega)
      have HG3 := Lib.hid (hs _ (hs _ (hs _ HG.out 0 (.int .i64 5)) 1 (.int .i64 4)) 2 (.slice va vn vc))
      clear k0 k1 k2 y0 y1 y2 hs hnx HB HO HG
      generalize ((wr.setCell ⟨w.heap.size, 0, none⟩ (.int .i64 5)).setCell ⟨w.heap.size, 1, none⟩ (.int .i64 4)).setCell ⟨w.heap.size, 2, none⟩ (.slice va vn vc) = W3 at *
      have k0 := HB3.out.cell 0
      have k1 := HB3.out.cell 1
      have k2 := HB3.out.cell 2
      simp only [List.getElem?_toArray, List.getElem?_cons_succ, List.getElem?_cons_zero] at k0 k1 k2
      refine bodyPost_ret (v := .agg #[.int .i64 5, .int .i64 4, .slice va vn vc]) ?_ rfl ?_
      · simp [results, Try.results20, go_sem, k0, k1, k2]
      exact ⟨_, rfl, HO3.out.lower (Nat.le_succ _), HG3.out⟩
theorem own_lit (w : World) : Own .i64 3 (w.alloc (.cells #[.int .i64 0, .int .i64 0, .int .i64 0, .int .i64 0, .int .i64 0, .int .i64 0, .int .i64 2, .int .i64 2, .int .i64 1, .int .i64 0, .int .i64 0, .int .i64 0, .int .i64 0, .int .i64 1, .int .i64 0, .int .i64 0, .int .i64 2, .int .i64 0, .int .i64 0, .int .i64 0] 3 (0, 0))) w.heap.size (.slice (some ⟨w.heap.size, 0, none⟩) 20 20) exL :=
  ⟨World.ownsRow_lit (size := 1) w _ 20 (Nat.le_refl _) (by unfold maxLen; omega) rfl, by decide⟩
set_option maxRecDepth 20000 in
set_option maxHeartbeats 2000000 in
theorem sEx_any (w : World) :
    Calls Try.prog 19 #[] w fun e w' => ∃ v, e = .returned (.agg #[.int .i64 5, .int .i64 4, v]) ∧ Own .i64 3 w' w.heap.size v exL ∧ w.grownBy w' none := by
  have hsz : (w.alloc (.cells #[.int .i64 0, .int .i64 0, .slice none 0 0] 38 (0, 0))).heap.size = w.heap.size + 1 := by simp
  go_enter Try.func19, Try.ntmps19
  go_wp2
  have ho := own_lit (w.alloc (.cells #[.int .i64 5, .int .i64 4, .slice (some ⟨w.heap.size + 1, 0, none⟩) 20 20] 38 (0, 0)))
  rw [show (w.alloc (.cells #[.int .i64 5, .int .i64 4, .slice (some ⟨w.heap.size + 1, 0, none⟩) 20 20] 38 (0, 0))).heap.size = w.heap.size + 1 by simp] at ho
  have hg := grownN_trans (World.grownBy_alloc w (.cells #[.int .i64 5, .int .i64 4, .slice (some ⟨w.heap.size + 1, 0, none⟩) 20 20] 38 (0, 0)) (none : Option Nat)) (World.grownBy_alloc _ (.cells #[.int .i64 0, .int .i64 0, .int .i64 0, .int .i64 0, .int .i64 0, .int .i64 0, .int .i64 2, .int .i64 2, .int .i64 1, .int .i64 0, .int .i64 0, .int .i64 0, .int .i64 0, .int .i64 1, .int .i64 0, .int .i64 0, .int .i64 2, .int .i64 0, .int .i64 0, .int .i64 0] 3 (0, 0)) none)
  refine bodyPost_ret (v := .agg #[.int .i64 5, .int .i64 4, .slice (some ⟨w.heap.size + 1, 0, none⟩) 20 20]) ?_ rfl ?_
  · simp [results, Try.results19, go_sem]
  · exact ⟨_, rfl, ho.lower (Nat.le_succ _), hg⟩
end Go.Proofs.Ytconlnlbaimghaa.ExL
