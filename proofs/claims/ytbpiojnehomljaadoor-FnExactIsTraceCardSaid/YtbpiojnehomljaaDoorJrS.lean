/- Contracts of journals: the model's whole test. -/
import Derived.Test.YtbpiojnehomljaaDoorJrI
namespace Go.Proofs.YtbpiojnehomljaaDoor.Jrn
open Go.RowKit Go.Shelf Kit Rw Rg Md Four Hs Rst

/-! the model: what is a journal -/
set_option maxRecDepth 20000 in
set_option maxHeartbeats 6000000 in
theorem sIsJ_any (w : World) (v : Value) (L : List I4) (hv : SeesG enc4 w v L) :
    Calls Tryd.prog 27 #[v] w fun e w' => e = .returned (.bool (isJ L)) ∧ w.grownBy w' none := by
  have hl := hv.len
  have HV := Lib.hid hv
  have HOK := Lib.hid hv.ok
  obtain ⟨a, cap, rfl, _⟩ := hv
  by_cases hlen : L.length ≤ 100
  rotate_left
  · have HR : Hid (isJ L = false) := isJ_len hlen
    have hlI : ¬ ((L.length : Int) ≤ 100) := by omega
    have h0 : (0 : Int) < (L.length : Int) := by omega
    have hd : decide (L.length ≤ 100) = false := decide_eq_false hlen
    go_enter Tryd.func27, Tryd.ntmps27
    go_wp2
    go_loopw [3, 4, 5] (fun s i _ wr => s = .int .i64 0 ∧ i = .int .i64 0 ∧ wr = w) (fun _ _ _ _ => 0)
    case atStart => exact ⟨rfl, rfl, rfl⟩
    case round =>
      obtain ⟨rfl, rfl, rfl⟩ := hrel
      go_wp2
      go_ret
      exact ⟨ret_bool (by rw [HR.out]; exact decide_eq_false (by omega)), World.grownBy.refl _ _⟩
  · have hlI : (L.length : Int) ≤ 100 := by omega
    have hd : decide (L.length ≤ 100) = true := decide_eq_true hlen
    go_enter Tryd.func27, Tryd.ntmps27
    go_wp2
    go_loopw [3, 4, 5] (fun s i _ wr => ∃ j : Nat, j ≤ L.length ∧ i = .int .i64 j ∧ s = .int .i64 (prev L j).x3 ∧ Hid (okTo L j) ∧ Hid (w.grownBy wr none)) (fun _ i _ _ => L.length - (intOf i).toNat)
    case atStart => exact ⟨0, Nat.zero_le _, rfl, rfl, okTo_zero L, World.grownBy.refl _ _⟩
    case round =>
      rename_i _ _ _ wr
      obtain ⟨j, hj, rfl, rfl, HO, HG⟩ := hrel
      have hpb := prev_bd HO.out
      by_cases hlt : j < L.length
      · obtain ⟨b, o, rfl, _, _⟩ := HV.out.at_row hlt
        have hokx := HOK.out _ (memG (d := zI4) hlt)
        have hps : (Lit.int .i64 (prev L j).x3).wf = true := by
          cases j with
          | zero => rw [prev_zero]; decide
          | succ k => rw [prev_succ]; exact (HOK.out _ (memG (d := zI4) (show k < L.length by omega))).2.2.2
        have hpd : 0 < j → (L.getD (j - 1) zI4).x0 = (prev L j).x0 := fun h => by
          obtain ⟨k, rfl⟩ : ∃ k, j = k + 1 := ⟨j - 1, by omega⟩
          rfl
        have hp0 : j = 0 → (prev L j).x0 = -1 := fun h => by rw [h]; rfl
        have hp1 : 0 < j → 0 ≤ (prev L j).x0 := fun h => by
          obtain ⟨k, rfl⟩ : ∃ k, j = k + 1 := ⟨j - 1, by omega⟩
          have h1 := mf_out (HO.out k (by omega))
          have h2 := prev_bd (L := L) (n := k) (fun i hi => HO.out i (by omega))
          rw [prev_succ]; omega
        have HS := Lib.hid fun w => sSeal_any w (prev L j).x3 (L.getD j zI4) hps hokx
        have HDN := Lib.hid fun h => (isJ_bad hlt h : isJ L = false)
        have HNX := Lib.hid fun h => okTo_next HO.out h
        have HMF : Hid (mf (prev L j) (L.getD j zI4) = (decide ((prev L j).x0 + 1 ≤ (L.getD j zI4).x0 ∧ (L.getD j zI4).x0 ≤ 10000) && (inb (L.getD j zI4).x1 0 63 && (inb (L.getD j zI4).x2 0 10000 && decide ((L.getD j zI4).x3 = sealT (prev L j).x3 (L.getD j zI4)))))) := by
          show _ = _
          rw [Bool.eq_iff_iff]
          unfold mf inb
          simp only [Bool.and_eq_true, decide_eq_true_eq]
          omega
        obtain ⟨x, hx⟩ : ∃ x, L.getD j zI4 = x := ⟨_, rfl⟩
        obtain ⟨e0, e1, e2, e3⟩ := at4_in HV.out HG.out hlt hx
        have hsx := prev_succ L j
        rw [hx] at HS HDN HNX HMF hsx
        obtain ⟨y, hy⟩ : ∃ y, prev L j = y := ⟨_, rfl⟩
        rw [hy] at HS HDN HNX HMF hpd hp0 hp1 hpb ⊢
        obtain ⟨q, hq⟩ : ∃ q, q = sealT y.x3 x := ⟨_, rfl⟩
        rw [← hq] at HS HMF
        have HB := Lib.hid (box_new wr #[.int .i64 x.x0, .int .i64 x.x1, .int .i64 x.x2, .int .i64 x.x3] 42)
        have HG1 := Lib.hid (World.grownBy_alloc wr (.cells #[.int .i64 x.x0, .int .i64 x.x1, .int .i64 x.x2, .int .i64 x.x3] 42 (0, 0)) none)
        -- the page before, by its day
        have HPD : Hid (∀ W, w.grownBy W none → 0 < j → W.cell? ⟨b, o + (j - 1) * 4, none⟩ = some (.int .i64 y.x0)) := fun W hg h => by
          have := (at4_in HV.out hg (show j - 1 < L.length by omega) rfl).1
          rw [this, hpd h]
        have HQ := Lib.hid hq
        have HX := Lib.hid hx
        have HY := Lib.hid hy
        have HYB : Hid (-1 ≤ y.x0 ∧ y.x0 ≤ 10000) := hpb
        have HP0 := Lib.hid hp0
        have HP1 := Lib.hid hp1
        have HSX := Lib.hid hsx
        clear hokx hps hpd hpb hx hy hq hp0 hp1 hsx
        obtain ⟨x0, x1, x2, x3⟩ := x
        obtain ⟨y0, y1, y2, y3⟩ := y
        dsimp only at HS HDN HNX HMF HB HG1 HPD HQ e0 e1 e2 e3 HYB HP0 HP1 HSX ⊢
        go_wp2_with fail
        generalize wr.alloc (.cells #[.int .i64 x0, .int .i64 x1, .int .i64 x2, .int .i64 x3] 42 (0, 0)) = w1 at *
        refine (HS.out _).mono ?_
        rintro e w2 ⟨rfl, hg⟩
        have HG2 := Lib.hid (grownN_trans HG1.out hg)
        have HG3 := Lib.hid (grownN_trans HG.out HG2.out)
        obtain ⟨c0, c1, c2, c3⟩ := four (HB.out.grown hg)
        clear hg e0 e1 e2 e3
        cases h0 : inb x0 0 10000
        · have HR : Hid (isJ L = false) := by
            show _ = _
            refine HDN.out ?_
            rw [HMF.out]
            have hyb := HYB.out
            have hn : ¬ (y0 + 1 ≤ x0 ∧ x0 ≤ 10000) := fun h => by
              have : inb x0 0 10000 = true := inb_yes (by omega)
              rw [h0] at this; cases this
            rw [decide_eq_false hn]; rfl
          go_wp2
          go_quiet (first | (go_at_call 43; refine Calls.quiet_of_same (inS_q _ _ _ _)))
          go_wp2
          go_ret
          exact ⟨ret_bool HR.out.symm, grown_drewN HG3.out _⟩
        · cases h1 : inb x1 0 63
          · have HR : Hid (isJ L = false) := by show _ = _; refine HDN.out ?_; rw [HMF.out, h1]; simp
            go_wp2
            go_quiet (first | (go_at_call 43; refine Calls.quiet_of_same (inS_q _ _ _ _)))
            go_wp2
            go_ret
            exact ⟨ret_bool HR.out.symm, grown_drewN HG3.out _⟩
          · cases h2 : inb x2 0 10000
            · have HR : Hid (isJ L = false) := by show _ = _; refine HDN.out ?_; rw [HMF.out, h2]; simp
              go_wp2
              go_quiet (first | (go_at_call 43; refine Calls.quiet_of_same (inS_q _ _ _ _)))
              go_wp2
              go_ret
              exact ⟨ret_bool HR.out.symm, grown_drewN HG3.out _⟩
            · by_cases h3 : x3 = q
              rotate_left
              · have HR : Hid (isJ L = false) := by show _ = _; refine HDN.out ?_; rw [HMF.out, decide_eq_false h3]; simp
                have hd3 : decide (x3 = q) = false := decide_eq_false h3
                have hb3 : (x3 == q) = false := by simpa using h3
                have hn3 : (x3 != q) = true := by simpa using h3
                go_wp2
                go_quiet (first | (go_at_call 43; refine Calls.quiet_of_same (inS_q _ _ _ _)))
                go_wp2
                go_ret
                exact ⟨ret_bool HR.out.symm, grown_drewN HG3.out _⟩
              · by_cases hj0 : j = 0
                · have hy0 := HP0.out hj0
                  have HM : Hid (okTo L (j + 1)) := by
                    refine HNX.out ?_
                    rw [HMF.out, h1, h2, decide_eq_true h3, decide_eq_true]
                    · rfl
                    · have := h0; unfold inb at this; simp at this; omega
                  have hjI : ¬ ((0 : Int) < (j : Int)) := by omega
                  have hjd : decide ((0 : Int) < (j : Int)) = false := decide_eq_false hjI
                  have hjn : decide (0 < j) = false := decide_eq_false (by omega)
                  have HX3 : Hid (x3 = (prev L (j + 1)).x3) := by show _ = _; rw [HSX.out]
                  subst h3
                  go_wp2
                  go_quiet (first | (go_at_call 43; refine Calls.quiet_of_same (inS_q _ _ _ _)))
                  go_wp2
                  go_roundw
                  case rel => exact ⟨j + 1, by omega, by go_num, by rw [← HX3.out], HM, grown_drewN HG3.out _⟩
                  case measure => simp [intOf]; omega
                · obtain ⟨k, rfl⟩ : ∃ k, j = k + 1 := ⟨j - 1, by omega⟩
                  have hy0 := HP1.out (by omega)
                  have d0 := HPD.out _ HG3.out (by omega)
                  rw [Nat.add_sub_cancel] at d0
                  have hjI : (0 : Int) < ((k + 1 : Nat) : Int) := by omega
                  have hjJ : (0 : Int) < (k : Int) + 1 := by omega
                  have hki : ((k + 1 : Nat) : Int) - 1 = (k : Int) := by omega
                  have hki2 : (k : Int) + 1 - 1 = (k : Int) := by omega
                  have hk0 : (0 : Int) ≤ (k : Int) := by omega
                  have hkl : (k : Int) < (L.length : Int) := by omega
                  have hkw : IntKind.i64.wrap (k : Int) = (k : Int) := IntWalk.i64_in _ (by omega)
                  have hjd : decide (0 < k + 1) = true := decide_eq_true (by omega)
                  have HX3 : Hid (x3 = (prev L (k + 1 + 1)).x3) := by show _ = _; rw [HSX.out]
                  by_cases h4 : x0 ≤ y0
                  · have HR : Hid (isJ L = false) := by show _ = _; refine HDN.out ?_; rw [HMF.out, decide_eq_false (by omega)]; rfl
                    subst h3
                    go_wp2
                    go_quiet (first | (go_at_call 43; refine Calls.quiet_of_same (inS_q _ _ _ _)))
                    go_wp2
                    go_ret
                    exact ⟨ret_bool HR.out.symm, grown_drewN HG3.out _⟩
                  · have HM : Hid (okTo L (k + 1 + 1)) := by
                      refine HNX.out ?_
                      rw [HMF.out, h1, h2, decide_eq_true h3, decide_eq_true]
                      · rfl
                      · have := h0; unfold inb at this; simp at this; omega
                    have hd4 : decide (x0 ≤ y0) = false := decide_eq_false h4
                    subst h3
                    go_wp2
                    go_quiet (first | (go_at_call 43; refine Calls.quiet_of_same (inS_q _ _ _ _)))
                    go_wp2
                    go_roundw
                    case rel => exact ⟨k + 1 + 1, by omega, by go_num, by rw [← HX3.out], HM, grown_drewN HG3.out _⟩
                    case measure => simp [intOf]; omega
      · have hjl : j = L.length := by omega
        have HR : Hid (isJ L = true) := isJ_yes hlen (by rw [← hjl]; exact HO.out)
        have hnl : ¬ ((j : Int) < (L.length : Int)) := by omega
        have hnd : decide (j < L.length) = false := decide_eq_false hlt
        go_wp2
        go_ret
        exact ⟨ret_bool (by first | exact HR.out.symm | (rw [HR.out]; exact decide_eq_true (by omega))), HG.out⟩
end Go.Proofs.YtbpiojnehomljaaDoor.Jrn
