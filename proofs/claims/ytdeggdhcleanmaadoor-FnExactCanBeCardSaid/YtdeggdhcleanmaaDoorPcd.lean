/- Contracts of where one can be and of what is seen: the program's. -/
import Derived.Test.YtdeggdhcleanmaaDoorPcc
namespace Go.Proofs.YtdeggdhcleanmaaDoor.Pc
open Go.RowKit Kit Rw Rg Ld Bfs Wf

/-- A clue alone, just written out. -/
theorem seesK_one (w : World) (c : TypeId × Array Value) : SeesG encK (w.alloc (.cells #[.iface c.1 (.agg c.2)] 116 (0, 0))) (.slice (some ⟨w.heap.size, 0, none⟩) 1 1) [c] := seesG_one (e := encK) w c #[.iface c.1 (.agg c.2)] rfl trivial
set_option maxRecDepth 20000 in
set_option maxHeartbeats 4000000 in
theorem iCanBe_any (w : World) (W H s : Int) (v u : Value) (X F : List Int) (hv : Sees .i64 w v X) (hu : Sees .i64 w u F) (hs : -9223372036854775808 ≤ s ∧ s ≤ 9223372036854775807) (hT : TabD w) :
    Calls Tryd.prog 25 #[.agg #[.int .i64 W, .int .i64 H, v], u, .int .i64 s] w fun e w' => ∃ r, e = .returned r ∧ Own .i64 3 w' w.heap.size r (canBe W H X F s) ∧ w.grownBy w' none := by
  obtain ⟨va, vn, vc, rfl, HVN⟩ := hv.shape
  obtain ⟨ua, un, uc, rfl, HUN⟩ := hu.shape
  have g1 := World.grownBy_alloc w (.cells #[.int .i64 W, .int .i64 H, .slice va vn vc] 37 (0, 0)) (none : Option Nat)
  have g2 := grownN_trans g1 (World.grownBy_alloc (w.alloc (.cells #[.int .i64 W, .int .i64 H, .slice va vn vc] 37 (0, 0))) (.cells #[.iface 83 (.agg #[.slice ua un uc, .int .i64 s])] 116 (0, 0)) none)
  have HB := box_new w #[.int .i64 W, .int .i64 H, .slice va vn vc] 37
  have l0 := HB.cell 0
  have l1 := HB.cell 1
  have l2 := HB.cell 2
  simp only [List.getElem?_toArray, List.getElem?_cons_succ, List.getElem?_cons_zero] at l0 l1 l2
  have hsk : SeesG encK ((w.alloc (.cells #[.int .i64 W, .int .i64 H, .slice va vn vc] 37 (0, 0))).alloc (.cells #[.iface 83 (.agg #[.slice ua un uc, .int .i64 s])] 116 (0, 0))) (.slice (some ⟨w.heap.size + 1, 0, none⟩) 1 1) [(83, #[.slice ua un uc, .int .i64 s])] := by
    have h := seesK_one (w.alloc (.cells #[.int .i64 W, .int .i64 H, .slice va vn vc] 37 (0, 0))) (83, #[.slice ua un uc, .int .i64 s])
    rw [World.size_alloc] at h
    exact h
  have HQ := Lib.hid (cellsBy_any _ W H (.slice va vn vc) _ X [(83, #[.slice ua un uc, .int .i64 s])] (fun _ => walkW W H X F s) (hv.grown g2) hsk (fun _ j hj => by
    have hj0 : j = 0 := by simp at hj; exact hj
    subst hj0
    exact .inl ⟨ua, un, uc, s, F, rfl, hu.grown g2, hs, rfl⟩) ((tab_of hT).grown g2))
  have HR : Hid ((if isLand W H X = true then els (foldW (opW X) (fun _ => walkW W H X F s) 1) else []) = canBe W H X F s) := by
    show _ = _
    by_cases hL : isLand W H X = true
    · rw [if_pos hL]; exact canBe_els hL
    · rw [if_neg hL, canBe_no hL]
  have HG2 := Lib.hid g2
  clear g1 g2 hv hu hT HB hs hsk
  go_enter Tryd.func25, Tryd.ntmps25
  go_wp2_with fail
  refine HQ.out.mono ?_
  rintro e w6 ⟨r, rfl, ho, hg⟩
  have HO := Lib.hid ho
  have HG := Lib.hid (grownN_trans HG2.out hg)
  clear ho hg l0 l1 l2
  go_wp2
  go_ret
  exact ⟨_, rfl, by rw [← HR.out]; exact HO.out.lower HG2.out.size, HG.out⟩
set_option maxRecDepth 20000 in
set_option maxHeartbeats 4000000 in
theorem iSeen_any (w : World) (W H m f : Int) (v : Value) (X : List Int) (hv : Sees .i64 w v X) (hT : TabD w) :
    Calls Tryd.prog 29 #[.agg #[.int .i64 W, .int .i64 H, v], .int .i64 m, .int .i64 f] w fun e w' => ∃ r, e = .returned r ∧ Own .i64 3 w' w.heap.size r (seen W H X m f) ∧ w.grownBy w' none := by
  obtain ⟨va, vn, vc, rfl, HVN⟩ := hv.shape
  have g1 := World.grownBy_alloc w (.cells #[.int .i64 W, .int .i64 H, .slice va vn vc] 37 (0, 0)) (none : Option Nat)
  have g2 := grownN_trans g1 (World.grownBy_alloc (w.alloc (.cells #[.int .i64 W, .int .i64 H, .slice va vn vc] 37 (0, 0))) (.cells #[.iface 85 (.agg #[.int .i64 m, .int .i64 f])] 116 (0, 0)) none)
  have HB := box_new w #[.int .i64 W, .int .i64 H, .slice va vn vc] 37
  have l0 := HB.cell 0
  have l1 := HB.cell 1
  have l2 := HB.cell 2
  simp only [List.getElem?_toArray, List.getElem?_cons_succ, List.getElem?_cons_zero] at l0 l1 l2
  have hsk : SeesG encK ((w.alloc (.cells #[.int .i64 W, .int .i64 H, .slice va vn vc] 37 (0, 0))).alloc (.cells #[.iface 85 (.agg #[.int .i64 m, .int .i64 f])] 116 (0, 0))) (.slice (some ⟨w.heap.size + 1, 0, none⟩) 1 1) [(85, #[.int .i64 m, .int .i64 f])] := by
    have h := seesK_one (w.alloc (.cells #[.int .i64 W, .int .i64 H, .slice va vn vc] 37 (0, 0))) (85, #[.int .i64 m, .int .i64 f])
    rw [World.size_alloc] at h
    exact h
  have HQ := Lib.hid (cellsBy_any _ W H (.slice va vn vc) _ X [(85, #[.int .i64 m, .int .i64 f])] (fun _ => sightW W H X m f) (hv.grown g2) hsk (fun _ j hj => by
    have hj0 : j = 0 := by simp at hj; exact hj
    subst hj0
    exact .inr ⟨m, f, rfl, rfl⟩) ((tab_of hT).grown g2))
  have HR : Hid ((if isLand W H X = true then els (foldW (opW X) (fun _ => sightW W H X m f) 1) else []) = seen W H X m f) := by
    show _ = _
    by_cases hL : isLand W H X = true
    · rw [if_pos hL]; exact seen_els hL
    · rw [if_neg hL, seen_no hL]
  have HG2 := Lib.hid g2
  clear g1 g2 hv hT HB hsk
  go_enter Tryd.func29, Tryd.ntmps29
  go_wp2_with fail
  refine HQ.out.mono ?_
  rintro e w6 ⟨r, rfl, ho, hg⟩
  have HO := Lib.hid ho
  have HG := Lib.hid (grownN_trans HG2.out hg)
  clear ho hg l0 l1 l2
  go_wp2
  go_ret
  exact ⟨_, rfl, by rw [← HR.out]; exact HO.out.lower HG2.out.size, HG.out⟩
end Go.Proofs.YtdeggdhcleanmaaDoor.Pc
