/- Contracts of the program's searchIn and daysTo. -/
import Derived.Test.YtbpiojnehomljaaSr
import Derived.Deep.RegionHeld3
namespace Go.Proofs.Ytbpiojnehomljaa.Sr
open Go.RowKit Kit Rw Ld Gr GrI Bfs

theorem fold_set (l : List Value) : ∀ (k : Nat) (z : Array Value), k + l.length ≤ z.size → (l.zipIdx k).foldl (fun cs (x : Value × Nat) => cs.setIfInBounds (0 + x.2) x.1) z = (z.toList.take k ++ l ++ z.toList.drop (k + l.length)).toArray := by
  induction l with
  | nil => intro k z h; simp
  | cons v l ih =>
    intro k z h
    simp only [List.length_cons] at h
    rw [List.zipIdx_cons, List.foldl_cons, ih (k + 1) _ (by simp; omega)]
    congr 1
    simp only [Array.toList_setIfInBounds, List.length_cons, Nat.zero_add]
    have hk : k < z.toList.length := by simp; omega
    rw [List.take_set, List.drop_set_of_lt (by omega), show k + 1 + l.length = k + (l.length + 1) by omega, List.take_succ_eq_append_getElem hk, List.set_append, if_neg (by simp; omega)]
    simp only [List.length_take]
    rw [show k - min k z.toList.length = 0 by omega, List.set_cons_zero]
    simp
theorem search_cells {p : Nat} {g : List Int} (hg : g.length = 100) : (gcells p g).zipIdx.foldl (fun cs x => cs.setIfInBounds x.snd x.fst) Try.zeroCells149 = scells p g (.slice none 0 0) (List.replicate 100 0) := by
  have hz : Try.zeroCells149 = scells 0 (List.replicate 100 0) (.slice none 0 0) (List.replicate 100 0) := by kernel_rfl
  have hsz : (gcells p g).size = 101 := gcells_size hg
  have hzs := scells_size (p := 0) (g := List.replicate 100 0) (qv := .slice none 0 0) (M := List.replicate 100 0) (by simp) (by simp)
  rw [hz, ← Array.foldl_toList, Array.toList_zipIdx]
  have := fold_set (gcells p g).toList 0 (scells 0 (List.replicate 100 0) (.slice none 0 0) (List.replicate 100 0)) (by rw [Array.length_toList, hsz, hzs]; omega)
  simp only [Nat.zero_add] at this
  refine Eq.trans this ?_
  simp only [Array.length_toList, hsz, List.take_zero, List.nil_append]
  simp only [gcells, scells]
  rw [List.drop_append, List.drop_of_length_le (by simp)]
  simp
theorem searchIn_any (w : World) (p : Nat) (H : Int) (v : Value) (X : List Int) (hv : Sees .i64 w v X) (hL : isLand p H X = true) :
    Calls Try.prog 116 #[.agg #[.int .i64 (p : Int), .int .i64 H, v]] w fun e w' => ∃ b, e = .returned (.pointer (some ⟨b, 0, none⟩)) ∧ w.heap.size ≤ b ∧ SB w' b p (grid p X) (.slice none 0 0) [] (List.replicate 100 0) ∧ w.grownBy w' none := by
  have hgr := World.grownBy_alloc w (.cells #[.int .i64 (p : Int), .int .i64 H, v] 29 (0, 0)) none
  have HG := Lib.hid hgr
  have HV := Lib.hid (hv.grown hgr)
  have HB := Lib.hid (box_new w #[.int .i64 (p : Int), .int .i64 H, v] 29)
  have HL := Lib.hid hL
  obtain ⟨c0, c1, c2⟩ := HB.out.three
  clear hv hgr hL
  go_enter Try.func116, Try.ntmps116
  go_wp2_with fail
  refine (gridOf_any _ p H _ X HV.out HL.out).mono ?_
  rintro e w2 ⟨rfl, hg⟩
  have HG2 := Lib.hid (grownN_trans HG.out hg)
  have hb := search_cells (p := p) (grid_len p X)
  have hsz : (gcells p (grid p X)).size = 101 := gcells_size (grid_len p X)
  obtain ⟨cs, hcs⟩ : ∃ cs, cs = gcells p (grid p X) := ⟨_, rfl⟩
  rw [← hcs] at hb hsz ⊢
  rw [show cs.zipIdx.size = 101 by simp [hsz]] at hb
  have HBB := Lib.hid hb
  clear hg c0 c1 c2 hcs hb
  go_wp2_with fail
  go_ret
  rw [HBB.out]
  refine ⟨w2.heap.size, rfl, HG2.out.size, ⟨box_new _ _ _, own_nil _ _, grid_len _ _, by simp⟩, grownN_trans HG2.out (World.grownBy_alloc _ _ none)⟩
end Go.Proofs.Ytbpiojnehomljaa.Sr
