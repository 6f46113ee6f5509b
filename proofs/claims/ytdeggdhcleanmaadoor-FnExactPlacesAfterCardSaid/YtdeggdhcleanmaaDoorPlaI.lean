/- Contract of where one is after some steps and sights: the program's. -/
import Derived.Test.YtdeggdhcleanmaaDoorPlaF
import Derived.Test.YtdeggdhcleanmaaDoorPcd
namespace Go.Proofs.YtdeggdhcleanmaaDoor.Pc
open Go.RowKit Kit Rw Rg Ld Bfs Wf Cros

theorem info_clue : (Tryd.prog.info? 116).map (fun i => (i.zero, i.size, i.bytes)) = some (some .nilIface, 1, 16) := by kernel_rfl
def clues (u : Value) (s : Int) (M R : List Int) (j : Nat) : List (TypeId × Array Value) := (83, #[u, .int .i64 s]) :: (List.range j).map (fun i => (85, #[.int .i64 (M.getD i 0), .int .i64 (R.getD i 0)]))
theorem clues_next (u : Value) (s : Int) (M R : List Int) (j : Nat) : clues u s M R (j + 1) = clues u s M R j ++ [(85, #[.int .i64 (M.getD j 0), .int .i64 (R.getD j 0)])] := by
  unfold clues
  rw [List.range_succ, List.map_append]; rfl
theorem clues_len (u : Value) (s : Int) (M R : List Int) (j : Nat) : (clues u s M R j).length = j + 1 := by simp [clues]
theorem clues_at {w : World} {W H s : Int} {X F M R : List Int} {a : Option Addr} {n c k : Nat} (hx : Sees .i64 w (.slice a n c) F) (hs : -9223372036854775808 ≤ s ∧ s ≤ 9223372036854775807) : ∀ j, j < (clues (.slice a n c) s M R k).length → ClueP w W H X ((clues (.slice a n c) s M R k).getD j (0, #[])) (clueW W H X F s M R j)
  | 0, _ => .inl ⟨a, n, c, s, F, rfl, hx, hs, rfl⟩
  | j + 1, hj => by
    rw [clues_len] at hj
    refine .inr ⟨M.getD j 0, R.getD j 0, ?_, rfl⟩
    unfold clues
    rw [List.getD_cons_succ, List.getD_eq_getElem?_getD, List.getElem?_map, List.getElem?_range (by omega)]
    rfl
theorem ownK_one (w : World) (c : TypeId × Array Value) : OwnG encK 116 (w.alloc (.cells #[.iface c.1 (.agg c.2)] 116 (0, 0))) w.heap.size (.slice (some ⟨w.heap.size, 0, none⟩) 1 1) [c] :=
  ⟨⟨rfl, .inr ⟨w.heap.size, 1, #[.iface c.1 (.agg c.2)], rfl, Nat.le_refl _, heap_alloc_new w _, by simp, by unfold maxLen; omega, by simp [encK], rfl⟩⟩, fun y _ => trivial⟩

set_option maxRecDepth 20000 in
set_option maxHeartbeats 8000000 in
theorem iAfter_any (w : World) (W H s : Int) (v u m r : Value) (X F M R : List Int) (hv : Sees .i64 w v X) (hu : Sees .i64 w u F) (hm : Sees .i64 w m M) (hr : Sees .i64 w r R) (hs : -9223372036854775808 ≤ s ∧ s ≤ 9223372036854775807) (hn : M.length ≤ 100000000) (hT : TabD w) :
    Calls Tryd.prog 31 #[.agg #[.int .i64 W, .int .i64 H, v], u, .int .i64 s, m, r] w fun e w' => ∃ t, e = .returned t ∧ Own .i64 3 w' w.heap.size t (after W H X F s M R) ∧ w.grownBy w' none := by
  obtain ⟨i0, hi, hz0, hz1, hz2⟩ := info_parts info_clue
  obtain ⟨va, vn, vc, rfl, HVN⟩ := hv.shape
  obtain ⟨ua, un, uc, rfl, HUN⟩ := hu.shape
  obtain ⟨ma, mn, mc, rfl, HMN⟩ := hm.shape
  obtain ⟨ra, rn, rc, rfl, HRN⟩ := hr.shape
  have HML : Hid (mn ≤ 100000000) := by show _ ≤ _; rw [← HMN.out]; exact hn
  have g1 := World.grownBy_alloc w (.cells #[.int .i64 W, .int .i64 H, .slice va vn vc] 37 (0, 0)) (none : Option Nat)
  have HG1 := Lib.hid g1
  have HB1 := Lib.hid (box_new w #[.int .i64 W, .int .i64 H, .slice va vn vc] 37)
  have HSZ : Hid ((w.alloc (.cells #[.int .i64 W, .int .i64 H, .slice va vn vc] 37 (0, 0))).heap.size = w.heap.size + 1) := by show _ = _; simp
  have HV := Lib.hid hv
  have HU := Lib.hid hu
  have HM := Lib.hid hm
  have HR := Lib.hid hr
  have HT := Lib.hid (tab_of hT)
  have HSS := Lib.hid hs
  have l0 := HB1.out.cell 0
  have l1 := HB1.out.cell 1
  have l2 := HB1.out.cell 2
  simp only [List.getElem?_toArray, List.getElem?_cons_succ, List.getElem?_cons_zero] at l0 l1 l2
  clear hv hu hm hr hn g1 hT hs
  go_enter Tryd.func31, Tryd.ntmps31
  by_cases hmr : mn = rn
  · subst hmr
    have HR9 : Hid (after W H X F s M R = afterTo W H X F s M R mn) := by show _ = _; unfold after; rw [if_pos (by rw [HMN.out, HRN.out]), HMN.out]
    have hbe : ((mn : Int) != (mn : Int)) = false := by simp
    have HO1 : Hid (OwnG encK 116 ((w.alloc (.cells #[.int .i64 W, .int .i64 H, .slice va vn vc] 37 (0, 0))).alloc (.cells #[.iface 83 (.agg #[.slice ua un uc, .int .i64 s])] 116 (0, 0))) (w.heap.size + 1) (.slice (some ⟨w.heap.size + 1, 0, none⟩) 1 1) (clues (.slice ua un uc) s M R 0)) := by
      have h := ownK_one (w.alloc (.cells #[.int .i64 W, .int .i64 H, .slice va vn vc] 37 (0, 0))) (83, #[.slice ua un uc, .int .i64 s])
      rw [HSZ.out] at h
      exact h
    have HG2 := Lib.hid (World.grownBy_alloc (w.alloc (.cells #[.int .i64 W, .int .i64 H, .slice va vn vc] 37 (0, 0))) (.cells #[.iface 83 (.agg #[.slice ua un uc, .int .i64 s])] 116 (0, 0)) none)
    go_wp2_with fail
    generalize (w.alloc (.cells #[.int .i64 W, .int .i64 H, .slice va vn vc] 37 (0, 0))).alloc (.cells #[.iface 83 (.agg #[.slice ua un uc, .int .i64 s])] 116 (0, 0)) = W2 at *
    generalize w.alloc (.cells #[.int .i64 W, .int .i64 H, .slice va vn vc] 37 (0, 0)) = W1 at *
    have HGX := Lib.hid (grownN_trans HG1.out HG2.out)
    clear l0 l1 l2
    go_loopw [11, 27] (fun t i wr => ∃ j : Nat, j ≤ mn ∧ i = .int .i64 j ∧ Hid (OwnG encK 116 wr (w.heap.size + 1) t (clues (.slice ua un uc) s M R j)) ∧ Hid (W1.grownBy wr none) ∧ Hid (w.heap.size + 1 ≤ wr.heap.size)) (fun _ i _ => mn - (intOf i).toNat)
    case atStart => exact ⟨0, Nat.zero_le _, rfl, HO1, HG2, by show _ ≤ _; have h1 := HG2.out.size; have h2 := HSZ.out; omega⟩
    case round =>
      rename_i _ _ wr
      obtain ⟨tt, htt⟩ : ∃ tt, tt = u11 := ⟨_, rfl⟩
      obtain ⟨j, hj, rfl, HO, HG, HZ⟩ := hrel
      rw [← htt] at HO ⊢
      clear htt
      by_cases hlt : j < mn
      · have hml := HML.out
        have hjI : (j : Int) < (mn : Int) := by omega
        have hj0 : (0 : Int) ≤ (j : Int) := by omega
        obtain ⟨a, ha⟩ : ∃ a, a = M.getD j 0 := ⟨_, rfl⟩
        obtain ⟨b, hb⟩ : ∃ b, b = R.getD j 0 := ⟨_, rfl⟩
        obtain ⟨mb, mo, rfl, _⟩ := HM.out.at_row (j := j) (by rw [HMN.out]; exact hlt)
        obtain ⟨rb, ro, rfl, _⟩ := HR.out.at_row (j := j) (by rw [HRN.out]; exact hlt)
        have c1 : wr.cell? ⟨mb, mo + j, none⟩ = some (.int .i64 a) := by rw [ha]; exact (HM.out.grown (grownN_trans HG1.out HG.out)).at' (by rw [HMN.out]; exact hlt)
        have c2 : wr.cell? ⟨rb, ro + j, none⟩ = some (.int .i64 b) := by rw [hb]; exact (HR.out.grown (grownN_trans HG1.out HG.out)).at' (by rw [HRN.out]; exact hlt)
        have HNX : Hid (clues (.slice ua un uc) s M R (j + 1) = clues (.slice ua un uc) s M R j ++ [(85, #[.int .i64 a, .int .i64 b])]) := by show _ = _; rw [clues_next, ha, hb]
        have HLN := Lib.hid (clues_len (.slice ua un uc) s M R j)
        clear ha hb
        go_wp2_with (at_builtin; go_loud (refine wpListG_append_one _ rfl _ _ 87 rfl (w.heap.size + 1) 116 i0 .nilIface 16 Tryd.underlying87 hi hz0 hz1 hz2 rfl _ (clues (.slice ua un uc) s M R j) rfl HO.out (85, #[.int .i64 a, .int .i64 b]) #[.iface 85 (.agg #[.int .i64 a, .int .i64 b])] rfl rfl trivial (by have := HLN.out; omega) (by decide) HZ.out ?_); intro v6 w6 hown6 hgrow6 _; have HO6 := Lib.hid hown6; have HG6 : Hid (W1.grownBy w6 none) := grown_new HG.out hgrow6 (fun c hc => by have h1 := (HO.out.lt c hc).1; have h2 := HSZ.out; omega); have HZ6 : Hid (w.heap.size + 1 ≤ w6.heap.size) := Nat.le_trans HZ.out hgrow6.size; clear hown6 hgrow6)
        go_roundw
        case rel => exact ⟨j + 1, by omega, by go_num, by rw [HNX.out]; exact HO6, HG6, HZ6⟩
        case measure => simp [intOf]; omega
      · have hju : mn = j := by omega
        subst hju
        have HGY := Lib.hid (grownN_trans HG1.out HG.out)
        have HBy := HB1.out.grown HG.out
        have l0 := HBy.cell 0
        have l1 := HBy.cell 1
        have l2 := HBy.cell 2
        simp only [List.getElem?_toArray, List.getElem?_cons_succ, List.getElem?_cons_zero] at l0 l1 l2
        have HQ := Lib.hid (cellsBy_any wr W H (.slice va vn vc) tt X (clues (.slice ua un uc) s M R mn) (clueW W H X F s M R) (HV.out.grown HGY.out) HO.out.sees (fun _ => clues_at (HU.out.grown HGY.out) HSS.out) (HT.out.grown HGY.out))
        rw [clues_len, clue_fold] at HQ
        clear HBy
        go_wp2_with fail
        refine HQ.out.mono ?_
        rintro e w6 ⟨t, rfl, ho, hg⟩
        have HO6 := Lib.hid ho
        have HG6 := Lib.hid (grownN_trans HGY.out hg)
        clear ho hg l0 l1 l2
        go_wp2
        go_ret
        exact ⟨t, rfl, by rw [HR9.out]; exact HO6.out.lower HGY.out.size, HG6.out⟩
  · have HR9 : Hid (after W H X F s M R = []) := by show _ = _; unfold after; rw [if_neg (by rw [HMN.out, HRN.out]; exact hmr)]
    have hbe : ((mn : Int) != (rn : Int)) = true := by simp; omega
    go_wp2
    go_ret
    have ho := own_empty (k := .i64) (E := 3) (w.alloc (.cells #[.int .i64 W, .int .i64 H, .slice va vn vc] 37 (0, 0)))
    rw [HSZ.out] at ho
    exact ⟨_, rfl, by rw [HR9.out]; exact ho.lower (Nat.le_succ _), grownN_trans HG1.out (World.grownBy_alloc _ _ _)⟩
end Go.Proofs.YtdeggdhcleanmaaDoor.Pc
