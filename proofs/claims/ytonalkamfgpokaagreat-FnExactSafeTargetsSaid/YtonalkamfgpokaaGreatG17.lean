/- Contracts of the program's options of a party and of partyFrom. Plain facts on crews: no program. -/
import Derived.Test.YtonalkamfgpokaaGreatG16
import Derived.Test.YtonalkamfgpokaaGreatG1
namespace Go.Proofs.YtonalkamfgpokaaGreat.Pe
open Go.RowKit Kit Rw Rg Four PartyL Pc Cln

set_option maxRecDepth 20000 in
set_option maxHeartbeats 1000000 in
theorem opt_any (w : World) (b c : Nat) (n x k : Int) (u t : Value) (hb : Box w b #[.int .i64 n, .int .i64 x, u, t] 42) (hc : w.cell? ⟨c, 0, none⟩ = some (.int .i64 k)) :
    Calls Tryz.prog 165 #[.pointer (some ⟨b, 0, none⟩), .pointer (some ⟨c, 0, none⟩)] w fun e w' => e = .returned (.tuple #[]) ∧ w' = w.setCell ⟨b, 1, none⟩ (.int .i64 k) := by
  obtain ⟨c0, c1, c2, c3⟩ := four hb
  have f1 := hb.free 1
  clear hb
  go_enter Tryz.func165, Tryz.ntmps165
  go_wp2
  refine bodyPost_end (results_none rfl _ _ _) rfl ?_
  exact ⟨rfl, rfl⟩

set_option maxRecDepth 20000 in
set_option maxHeartbeats 1000000 in
theorem with_any (w : World) (k : Int) :
    Calls Tryz.prog 115 #[.int .i64 k] w fun e w' => e = .returned (.func (.func 165) #[] #[.pointer (some ⟨w.heap.size, 0, none⟩)]) ∧ w' = w.alloc (.cells #[.int .i64 k] 3 (0, 0)) := by
  have hmf : ∀ (fn : Fn) (first cap : Array Value) (w : World), (Instr.makeFunc fn first cap).run Tryz.prog w = .ok (.func fn first cap) w := fun _ _ _ _ => rfl
  go_enter Tryz.func115, Tryz.ntmps115
  go_wp2
  go_ret
  exact ⟨rfl, rfl⟩

/-- Where partyFrom stands: the party that it builds. -/
structure PF (W wr : World) (nb : Nat) (n x : Int) (u t : Value) (L : List Mem) (P : List Bool) : Prop where
  box : Box wr nb #[.int .i64 n, .int .i64 x, u, t] 42
  ou : OwnG encM 143 wr W.heap.size u L
  ot : OwnG encB 4 wr W.heap.size t P
  ap : ApartU u t
  nu : u.ownBlock ≠ some nb
  nt : t.ownBlock ≠ some nb
  new : W.heap.size ≤ nb
  grown : W.grownBy wr none
theorem PF.set {W wr : World} {nb : Nat} {n x y : Int} {u t : Value} {L : List Mem} {P : List Bool} (h : PF W wr nb n x u t L P) : PF W (wr.setCell ⟨nb, 1, none⟩ (.int .i64 y)) nb n y u t L P :=
  ⟨four_set1 h.box, h.ou.kept (grown_set _ _ _ _) (.inr h.nu), h.ot.kept (grown_set _ _ _ _) (.inr h.nt), h.ap, h.nu, h.nt, h.new, grown_new h.grown (grown_set _ _ _ _) (fun c e => by injection e with e; have := h.new; omega)⟩
theorem PF.fill {W wr : World} {nb : Nat} {n x : Int} {u t a b c d : Value} {L : List Mem} {P : List Bool} (hb : Box wr nb #[a, b, c, d] 42) (ho : OwnG encM 143 wr W.heap.size u L) (ht : OwnG encB 4 wr W.heap.size t P) (hap : ApartU u t) (hu : u.ownBlock ≠ some nb) (hn : t.ownBlock ≠ some nb) (hl : W.heap.size ≤ nb) (hg : W.grownBy wr none) : PF W (put4 wr nb (.int .i64 n) (.int .i64 x) u t) nb n x u t L P :=
  ⟨put4_box hb, ho.kept (put4_grown _ _ _ _ _ _) (.inr hu), ht.kept (put4_grown _ _ _ _ _ _) (.inr hn), hap, hu, hn, hl, grown_new hg (put4_grown _ _ _ _ _ _) (fun c e => by injection e with e; omega)⟩

/-- What is told of the options: none, or one that sets the food. -/
def Opts (w : World) (ov : Value) (N : Nat) (f f' : Int) : Prop := (N = 0 ∧ ov = .slice none 0 0 ∧ f' = f) ∨ ∃ g c cap, N = 1 ∧ ov = .slice (some ⟨g, 0, none⟩) 1 cap ∧ Box w c #[.int .i64 f'] 3 ∧ Box w g #[.func (.func 165) #[] #[.pointer (some ⟨c, 0, none⟩)]] 125

set_option maxRecDepth 20000 in
set_option maxHeartbeats 4000000 in
theorem from_any (w : World) (n f f' : Int) (cv pv oa : Value) (N : Nat) (L : List Mem) (P : List Bool) (hc : SeesG encM w cv L) (hp : SeesG encB w pv P) (hL : L.length ≤ 1000000000) (hP : P.length ≤ 1000000000) (hopt : Opts w oa N f f') :
    Calls Tryz.prog 102 #[.agg #[.int .i64 n, .int .i64 f, cv, pv], oa] w fun e w' => ∃ u t, e = .returned (.agg #[.int .i64 n, .int .i64 f', u, t]) ∧ PartyOut w w' u t L P := by
  obtain ⟨od, on, oc, hov, HN⟩ : ∃ od on oc, oa = .slice od on oc ∧ on = N := by
    rcases hopt with ⟨h, h1, _⟩ | ⟨g, c, cap, h, h1, _⟩
    · exact ⟨_, _, _, h1, h.symm⟩
    · exact ⟨_, _, _, h1, h.symm⟩
  subst hov
  subst HN
  have hon : on ≤ 1 := by
    rcases hopt with ⟨h, h1, _⟩ | ⟨g, c, cap, h, h1, _⟩ <;> omega
  have g0 := World.grownBy_alloc w (.cells #[.int .i64 n, .int .i64 f, cv, pv] 42 (0, 0)) (none : Option Nat)
  have g1 := World.grownBy_alloc (w.alloc (.cells #[.int .i64 n, .int .i64 f, cv, pv] 42 (0, 0))) (.cells #[.int .i64 0, .int .i64 0, .slice none 0 0, .slice none 0 0] 42 (0, 0)) (none : Option Nat)
  have b0 := (box_new w #[.int .i64 n, .int .i64 f, cv, pv] 42).grown g1
  have b1 := box_new (w.alloc (.cells #[.int .i64 n, .int .i64 f, cv, pv] 42 (0, 0))) #[.int .i64 0, .int .i64 0, .slice none 0 0, .slice none 0 0] 42
  simp only [World.size_alloc] at b1
  have HG := Lib.hid (grownN_trans g0 g1)
  have HC := Lib.hid (hc.grown HG.out)
  have HP := Lib.hid (hp.grown HG.out)
  have HOP := Lib.hid hopt
  have B0 := Lib.hid b0
  have B1 := Lib.hid b1
  have HLL := Lib.hid hL
  have HPP := Lib.hid hP
  obtain ⟨c0, c1, c2, c3⟩ := four b0
  clear hc hp g0 g1 b0 b1 hopt hL hP
  go_enter Tryz.func102, Tryz.ntmps102
  go_wp2_with fail
  generalize (w.alloc (.cells #[.int .i64 n, .int .i64 f, cv, pv] 42 (0, 0))).alloc (.cells #[.int .i64 0, .int .i64 0, .slice none 0 0, .slice none 0 0] 42 (0, 0)) = W at *
  have hkeep : ∀ w', W.grownBy w' none → (w'.cell? ⟨w.heap.size, 0, none⟩ = some (.int .i64 n) ∧ w'.cell? ⟨w.heap.size, 1, none⟩ = some (.int .i64 f) ∧ w'.cell? ⟨w.heap.size, 2, none⟩ = some cv ∧ w'.cell? ⟨w.heap.size, 3, none⟩ = some pv) := fun w' g => four (B0.out.grown g)
  have hd := grown_drew (World.grownBy.refl W none)
  refine wp_region_held_drew (S := fun w' => w'.cell? ⟨w.heap.size, 0, none⟩ = some (.int .i64 n) ∧ w'.cell? ⟨w.heap.size, 1, none⟩ = some (.int .i64 f) ∧ w'.cell? ⟨w.heap.size, 2, none⟩ = some cv ∧ w'.cell? ⟨w.heap.size, 3, none⟩ = some pv) (by kernel_rfl) (hkeep _ hd) (fun hHeld => ?_)
  have HWX0 := Lib.hid hd
  clear hd
  generalize W.drew = X0 at *
  refine wpAnyH_take (i := 0) (v := ?_) rfl (by kernel_rfl) (by kernel_rfl) (by kernel_rfl) (fun _ _ _ h => h) (Or.inl ⟨by rfl, ?_⟩) (by assumption) ?_; rotate_left; (focus (intro wS hSw; (try dsimp only at hSw); go_simp <;> with_reducible rfl)); (try simp only [Act.put, List.getElem_toArray, List.getElem_cons_succ, List.getElem_cons_zero, List.setIfInBounds_toArray, List.set_cons_zero, List.set_cons_succ])
  refine wpAnyH_take (i := 1) (v := ?_) rfl (by kernel_rfl) (by kernel_rfl) (by kernel_rfl) (fun _ _ _ h => h) (Or.inl ⟨by rfl, ?_⟩) (by assumption) ?_; rotate_left; (focus (intro wS hSw; (try dsimp only at hSw); go_simp <;> with_reducible rfl)); (try simp only [Act.put, List.getElem_toArray, List.getElem_cons_succ, List.getElem_cons_zero, List.setIfInBounds_toArray, List.set_cons_zero, List.set_cons_succ])
  refine wpAnyH_take (i := 2) (v := ?_) rfl (by kernel_rfl) (by kernel_rfl) (by kernel_rfl) (fun _ _ _ h => h) (Or.inl ⟨by rfl, ?_⟩) (by assumption) ?_; rotate_left; (focus (intro wS hSw; (try dsimp only at hSw); go_simp <;> with_reducible rfl)); (try simp only [Act.put, List.getElem_toArray, List.getElem_cons_succ, List.getElem_cons_zero, List.setIfInBounds_toArray, List.set_cons_zero, List.set_cons_succ])
  refine wpAnyH_take (i := 3) (v := ?_) rfl (by kernel_rfl) (by kernel_rfl) (by kernel_rfl) (fun _ _ _ h => h) (Or.inl ⟨by rfl, ?_⟩) (by assumption) ?_; rotate_left; (focus (intro wS hSw; (try dsimp only at hSw); go_simp <;> with_reducible rfl)); (try simp only [Act.put, List.getElem_toArray, List.getElem_cons_succ, List.getElem_cons_zero, List.setIfInBounds_toArray, List.set_cons_zero, List.set_cons_succ])
  refine wpAnyH_take (i := 4) (v := ?_) rfl (by kernel_rfl) (by kernel_rfl) (by kernel_rfl) (fun _ _ _ h => h) (Or.inl ⟨by rfl, ?_⟩) (by assumption) ?_; rotate_left; (focus (intro wS hSw; (try dsimp only at hSw); go_simp <;> with_reducible rfl)); (try simp only [Act.put, List.getElem_toArray, List.getElem_cons_succ, List.getElem_cons_zero, List.setIfInBounds_toArray, List.set_cons_zero, List.set_cons_succ])
  refine wpAnyH_take (i := 5) (v := ?_) rfl (by kernel_rfl) (by kernel_rfl) (by kernel_rfl) (fun _ _ _ h => h) (Or.inl ⟨by rfl, ?_⟩) (by assumption) ?_; rotate_left; (focus (intro wS hSw; (try dsimp only at hSw); go_simp <;> with_reducible rfl)); (try simp only [Act.put, List.getElem_toArray, List.getElem_cons_succ, List.getElem_cons_zero, List.setIfInBounds_toArray, List.set_cons_zero, List.set_cons_succ])
  refine wpAnyH_take (i := 7) (v := ?_) rfl (by kernel_rfl) (by kernel_rfl) (by kernel_rfl) (fun _ _ _ h => h) (Or.inl ⟨by rfl, ?_⟩) (by assumption) ?_; rotate_left; (focus (intro wS hSw; (try dsimp only at hSw); go_simp <;> with_reducible rfl)); (try simp only [Act.put, List.getElem_toArray, List.getElem_cons_succ, List.getElem_cons_zero, List.setIfInBounds_toArray, List.set_cons_zero, List.set_cons_succ])
  refine wpAnyH_take (i := 8) (v := ?_) rfl (by kernel_rfl) (by kernel_rfl) (by kernel_rfl) (fun _ _ _ h => h) (Or.inl ⟨by rfl, ?_⟩) (by assumption) ?_; rotate_left; (focus (intro wS hSw; (try dsimp only at hSw); go_simp <;> with_reducible rfl)); (try simp only [Act.put, List.getElem_toArray, List.getElem_cons_succ, List.getElem_cons_zero, List.setIfInBounds_toArray, List.set_cons_zero, List.set_cons_succ])
  refine wpAnyH_ready (rs := [6, 11]) (by kernel_rfl) (by simp) ?_
  refine AllReadyH.cons rfl (fun K hK => ?_) (AllReadyH.cons rfl (fun K hK => ?_) AllReadyH.nil)
  · go_simp
    go_at_call 151
    refine (cloneM_any X0 cv L (HC.out.grown HWX0.out) HLL.out).mono ?_
    rintro e x1 ⟨u, rfl, ho, gn⟩
    have HOux1 := Lib.hid (ho.lower HWX0.out.size)
    have HWx1 := Lib.hid (grownN_trans HWX0.out gn)
    refine hK.out _ _ ?_ (fun hHeld => ?_)
    · exact hkeep _ HWx1.out
    clear hK K
    (try simp only [Act.put, List.getElem_toArray, List.getElem_cons_succ, List.getElem_cons_zero, List.setIfInBounds_toArray, List.set_cons_zero, List.set_cons_succ])
    refine wpAnyH_ready (rs := [9, 11]) (by kernel_rfl) (by simp) ?_
    refine AllReadyH.cons rfl (fun K hK => ?_) (AllReadyH.cons rfl (fun K hK => ?_) AllReadyH.nil)
    · go_simp
      go_at_call 152
      refine (cloneB_any x1 pv P (HP.out.grown HWx1.out) HPP.out).mono ?_
      rintro e x2 ⟨t, rfl, ho, gn⟩
      have HOtx2 := Lib.hid (ho.lower HWx1.out.size)
      have HAPx2 : Hid (ApartU u t) := ApartU.symm (apart_lt ho.lt HOux1.out.lt (Nat.le_refl _))
      have HWx2 := Lib.hid (grownN_trans HWx1.out gn)
      have HOux2 := Lib.hid (HOux1.out.grown gn)
      refine hK.out _ _ ?_ (fun hHeld => ?_)
      · exact hkeep _ HWx2.out
      clear hK K
      (try simp only [Act.put, List.getElem_toArray, List.getElem_cons_succ, List.getElem_cons_zero, List.setIfInBounds_toArray, List.set_cons_zero, List.set_cons_succ])
      have hsu := HOux2.out.sees.shape
      have hst := HOtx2.out.sees.shape
      obtain ⟨ua, un, uc, hu, HUN⟩ := hsu
      obtain ⟨ta, tn, tc, ht, HTN⟩ := hst
      subst hu
      subst ht
      refine wpAnyH_take (i := 10) (v := ?_) rfl (by kernel_rfl) (by kernel_rfl) (by kernel_rfl) (fun _ _ _ h => h) (Or.inl ⟨by rfl, ?_⟩) (by assumption) ?_; rotate_left; (focus (intro wS hSw; (try dsimp only at hSw); go_simp <;> with_reducible rfl)); (try simp only [Act.put, List.getElem_toArray, List.getElem_cons_succ, List.getElem_cons_zero, List.setIfInBounds_toArray, List.set_cons_zero, List.set_cons_succ])
      refine wpAnyH_ready (rs := [11]) (by kernel_rfl) (by simp) ?_
      refine AllReadyH.cons rfl (fun K hK => ?_) AllReadyH.nil
      · go_simp
        have gn := World.grownBy_alloc x2 (.cells #[.int .i64 0, .int .i64 0, .slice none 0 0, .slice none 0 0] 42 (0, 0)) (none : Option Nat)
        have hn := box_new x2 #[.int .i64 0, .int .i64 0, .slice none 0 0, .slice none 0 0] 42
        have HNL := Lib.hid HWx2.out.size
        have HNUx3 : Hid ((Value.slice ua un uc).ownBlock ≠ some x2.heap.size) := fun e => by have := (HOux2.out.lt _ e).2; omega
        have HNTx3 : Hid ((Value.slice ta tn tc).ownBlock ≠ some x2.heap.size) := fun e => by have := (HOtx2.out.lt _ e).2; omega
        generalize x2.alloc (.cells #[.int .i64 0, .int .i64 0, .slice none 0 0, .slice none 0 0] 42 (0, 0)) = x3 at *
        generalize x2.heap.size = nb at *
        have HNBx3 := Lib.hid hn
        have HWx3 := Lib.hid (grownN_trans HWx2.out gn)
        have HOux3 := Lib.hid (HOux2.out.grown gn)
        have HOtx3 := Lib.hid (HOtx2.out.grown gn)
        have HAPx3 := HAPx2
        refine hK.out _ _ ?_ (fun hHeld => ?_)
        · exact hkeep _ HWx3.out
        clear hK K
        (try simp only [Act.put, List.getElem_toArray, List.getElem_cons_succ, List.getElem_cons_zero, List.setIfInBounds_toArray, List.set_cons_zero, List.set_cons_succ])
        obtain ⟨⟨p0, r0⟩, ⟨p1, r1⟩, ⟨p2, r2⟩, ⟨p3, r3⟩⟩ := put4_on HNBx3.out (.int .i64 n) (.int .i64 f) (.slice ua un uc) (.slice ta tn tc)
        have hpf : PF W (put4 x3 nb (.int .i64 n) (.int .i64 f) (.slice ua un uc) (.slice ta tn tc)) nb n f (.slice ua un uc) (.slice ta tn tc) L P := PF.fill HNBx3.out HOux3.out HOtx3.out HAPx3.out HNUx3.out HNTx3.out HNL.out HWx3.out
        have hb0lt := B0.out.lt
        have hnl := HNL.out
        refine wpAnyH_ready (rs := [12]) (by kernel_rfl) (by simp) ?_
        refine AllReadyH.cons rfl (fun K hK => ?_) AllReadyH.nil
        go_simp
        refine hK.out _ _ ?_ (fun hHeld => ?_)
        · exact hkeep _ hpf.grown
        clear hK K
        refine wpAnyH_done (by kernel_rfl) ?_ _
        (try simp only [Act.put, List.getElem_toArray, List.getElem_cons_succ, List.getElem_cons_zero, List.setIfInBounds_toArray, List.set_cons_zero, List.set_cons_succ])
        replace hpf := Lib.hid hpf
        change Hid (PF W ((((x3.setCell ⟨nb, 0, none⟩ (.int .i64 n)).setCell ⟨nb, 1, none⟩ (.int .i64 f)).setCell ⟨nb, 2, none⟩ (.slice ua un uc)).setCell ⟨nb, 3, none⟩ (.slice ta tn tc)) nb n f (.slice ua un uc) (.slice ta tn tc) L P) at hpf
        generalize (((x3.setCell ⟨nb, 0, none⟩ (.int .i64 n)).setCell ⟨nb, 1, none⟩ (.int .i64 f)).setCell ⟨nb, 2, none⟩ (.slice ua un uc)).setCell ⟨nb, 3, none⟩ (.slice ta tn tc) = Y at *
        clear p0 r0 p1 r1 p2 r2 p3 r3 hHeld hnl hb0lt hkeep c0 c1 c2 c3
        go_wp2_with fail
        go_loopw [21] (fun i wr => ∃ j : Nat, ∃ x : Int, j ≤ on ∧ i = .int .i64 j ∧ (j = on → x = f') ∧ Hid (PF W wr nb n x (.slice ua un uc) (.slice ta tn tc) L P)) (fun i _ => on - (intOf i).toNat)
        case atStart =>
          refine ⟨0, f, by omega, rfl, fun h => ?_, hpf.out⟩
          rcases HOP.out with ⟨_, _, h2⟩ | ⟨g, c, cap, h1, _⟩
          · exact h2.symm
          · omega
        case round =>
          obtain ⟨j, x, hj, rfl, hx, HN⟩ := hrel
          by_cases hlt : j < on
          · rcases HOP.out with ⟨h1, _, _⟩ | ⟨g, c, cap, h1, h2, h3, h4⟩
            · omega
            · injection h2 with h2a h2b h2c
              subst h2a
              have hj0 : j = 0 := by omega
              have cf : wr.cell? ⟨g, j, none⟩ = some (.func (.func 165) #[] #[.pointer (some ⟨c, 0, none⟩)]) := by rw [hj0]; exact ((h4.grown HG.out).grown HN.out.grown).cell 0
              have hcc := ((h3.grown HG.out).grown HN.out.grown).cell 0
              have HCC := Lib.hid hcc
              clear h1 h2b h2c h3 h4 hcc hx hj0
              go_wp2_with fail
              refine (opt_any wr nb c n x f' _ _ HN.out.box HCC.out).mono ?_
              rintro e w' ⟨rfl, rfl⟩
              have HN2 := Lib.hid (PF.set (y := f') HN.out)
              clear HN
              go_wp2
              go_roundw
              case rel => exact ⟨j + 1, f', by omega, by go_num, fun _ => rfl, HN2.out⟩
              case measure => simp [intOf]; omega
          · have hxx := hx (by omega)
            subst hxx
            obtain ⟨c0, c1, c2, c3⟩ := four HN.out.box
            have HB := Lib.hid (B1.out.grown HN.out.grown)
            obtain ⟨⟨p0, r0⟩, ⟨p1, r1⟩, ⟨p2, r2⟩, ⟨p3, r3⟩⟩ := put4_on HB.out (.int .i64 n) (.int .i64 x) (.slice ua un uc) (.slice ta tn tc)
            go_wp2
            try simp only [Exit.inBlock, Exit.then]
            have hP4 := put4_grown wr (w.heap.size + 1) (.int .i64 n) (.int .i64 x) (.slice ua un uc) (.slice ta tn tc)
            have hlt := B1.out.lt
            refine ret_box rfl rfl (put4_box (x' := .int .i64 n) (y' := .int .i64 x) (z' := (.slice ua un uc)) (u' := (.slice ta tn tc)) HB.out) Tryz.underlying42 rfl (by kernel_rfl) rfl ?_
            exact ⟨(.slice ua un uc), (.slice ta tn tc), rfl, (HN.out.ou.kept hP4 (.inr (HN.out.ou.off (by omega)))).lower (by omega), (HN.out.ot.kept hP4 (.inr (HN.out.ot.off (by omega)))).lower (by omega), HN.out.ap, grown_new (grownN_trans HG.out HN.out.grown) hP4 (fun c h => by injection h with h; omega)⟩
    · go_simp
      have gn := World.grownBy_alloc x1 (.cells #[.int .i64 0, .int .i64 0, .slice none 0 0, .slice none 0 0] 42 (0, 0)) (none : Option Nat)
      have hn := box_new x1 #[.int .i64 0, .int .i64 0, .slice none 0 0, .slice none 0 0] 42
      have HNL := Lib.hid HWx1.out.size
      have HNUx2 : Hid (u.ownBlock ≠ some x1.heap.size) := fun e => by have := (HOux1.out.lt _ e).2; omega
      generalize x1.alloc (.cells #[.int .i64 0, .int .i64 0, .slice none 0 0, .slice none 0 0] 42 (0, 0)) = x2 at *
      generalize x1.heap.size = nb at *
      have HNBx2 := Lib.hid hn
      have HWx2 := Lib.hid (grownN_trans HWx1.out gn)
      have HOux2 := Lib.hid (HOux1.out.grown gn)
      refine hK.out _ _ ?_ (fun hHeld => ?_)
      · exact hkeep _ HWx2.out
      clear hK K
      (try simp only [Act.put, List.getElem_toArray, List.getElem_cons_succ, List.getElem_cons_zero, List.setIfInBounds_toArray, List.set_cons_zero, List.set_cons_succ])
      refine wpAnyH_ready (rs := [9]) (by kernel_rfl) (by simp) ?_
      refine AllReadyH.cons rfl (fun K hK => ?_) AllReadyH.nil
      · go_simp
        go_at_call 152
        refine (cloneB_any x2 pv P (HP.out.grown HWx2.out) HPP.out).mono ?_
        rintro e x3 ⟨t, rfl, ho, gn⟩
        have HOtx3 := Lib.hid (ho.lower HWx2.out.size)
        have HNBx3 := Lib.hid (HNBx2.out.grown gn)
        have HNTx3 := Lib.hid (ho.off HNBx2.out.lt)
        have HAPx3 : Hid (ApartU u t) := ApartU.symm (apart_lt ho.lt HOux2.out.lt (Nat.le_refl _))
        have HWx3 := Lib.hid (grownN_trans HWx2.out gn)
        have HOux3 := Lib.hid (HOux2.out.grown gn)
        have HNUx3 := HNUx2
        refine hK.out _ _ ?_ (fun hHeld => ?_)
        · exact hkeep _ HWx3.out
        clear hK K
        (try simp only [Act.put, List.getElem_toArray, List.getElem_cons_succ, List.getElem_cons_zero, List.setIfInBounds_toArray, List.set_cons_zero, List.set_cons_succ])
        have hsu := HOux3.out.sees.shape
        have hst := HOtx3.out.sees.shape
        obtain ⟨ua, un, uc, hu, HUN⟩ := hsu
        obtain ⟨ta, tn, tc, ht, HTN⟩ := hst
        subst hu
        subst ht
        refine wpAnyH_take (i := 10) (v := ?_) rfl (by kernel_rfl) (by kernel_rfl) (by kernel_rfl) (fun _ _ _ h => h) (Or.inl ⟨by rfl, ?_⟩) (by assumption) ?_; rotate_left; (focus (intro wS hSw; (try dsimp only at hSw); go_simp <;> with_reducible rfl)); (try simp only [Act.put, List.getElem_toArray, List.getElem_cons_succ, List.getElem_cons_zero, List.setIfInBounds_toArray, List.set_cons_zero, List.set_cons_succ])
        obtain ⟨⟨p0, r0⟩, ⟨p1, r1⟩, ⟨p2, r2⟩, ⟨p3, r3⟩⟩ := put4_on HNBx3.out (.int .i64 n) (.int .i64 f) (.slice ua un uc) (.slice ta tn tc)
        have hpf : PF W (put4 x3 nb (.int .i64 n) (.int .i64 f) (.slice ua un uc) (.slice ta tn tc)) nb n f (.slice ua un uc) (.slice ta tn tc) L P := PF.fill HNBx3.out HOux3.out HOtx3.out HAPx3.out HNUx3.out HNTx3.out HNL.out HWx3.out
        have hb0lt := B0.out.lt
        have hnl := HNL.out
        refine wpAnyH_ready (rs := [12]) (by kernel_rfl) (by simp) ?_
        refine AllReadyH.cons rfl (fun K hK => ?_) AllReadyH.nil
        go_simp
        refine hK.out _ _ ?_ (fun hHeld => ?_)
        · exact hkeep _ hpf.grown
        clear hK K
        refine wpAnyH_done (by kernel_rfl) ?_ _
        (try simp only [Act.put, List.getElem_toArray, List.getElem_cons_succ, List.getElem_cons_zero, List.setIfInBounds_toArray, List.set_cons_zero, List.set_cons_succ])
        replace hpf := Lib.hid hpf
        change Hid (PF W ((((x3.setCell ⟨nb, 0, none⟩ (.int .i64 n)).setCell ⟨nb, 1, none⟩ (.int .i64 f)).setCell ⟨nb, 2, none⟩ (.slice ua un uc)).setCell ⟨nb, 3, none⟩ (.slice ta tn tc)) nb n f (.slice ua un uc) (.slice ta tn tc) L P) at hpf
        generalize (((x3.setCell ⟨nb, 0, none⟩ (.int .i64 n)).setCell ⟨nb, 1, none⟩ (.int .i64 f)).setCell ⟨nb, 2, none⟩ (.slice ua un uc)).setCell ⟨nb, 3, none⟩ (.slice ta tn tc) = Y at *
        clear p0 r0 p1 r1 p2 r2 p3 r3 hHeld hnl hb0lt hkeep c0 c1 c2 c3
        go_wp2_with fail
        go_loopw [21] (fun i wr => ∃ j : Nat, ∃ x : Int, j ≤ on ∧ i = .int .i64 j ∧ (j = on → x = f') ∧ Hid (PF W wr nb n x (.slice ua un uc) (.slice ta tn tc) L P)) (fun i _ => on - (intOf i).toNat)
        case atStart =>
          refine ⟨0, f, by omega, rfl, fun h => ?_, hpf.out⟩
          rcases HOP.out with ⟨_, _, h2⟩ | ⟨g, c, cap, h1, _⟩
          · exact h2.symm
          · omega
        case round =>
          obtain ⟨j, x, hj, rfl, hx, HN⟩ := hrel
          by_cases hlt : j < on
          · rcases HOP.out with ⟨h1, _, _⟩ | ⟨g, c, cap, h1, h2, h3, h4⟩
            · omega
            · injection h2 with h2a h2b h2c
              subst h2a
              have hj0 : j = 0 := by omega
              have cf : wr.cell? ⟨g, j, none⟩ = some (.func (.func 165) #[] #[.pointer (some ⟨c, 0, none⟩)]) := by rw [hj0]; exact ((h4.grown HG.out).grown HN.out.grown).cell 0
              have hcc := ((h3.grown HG.out).grown HN.out.grown).cell 0
              have HCC := Lib.hid hcc
              clear h1 h2b h2c h3 h4 hcc hx hj0
              go_wp2_with fail
              refine (opt_any wr nb c n x f' _ _ HN.out.box HCC.out).mono ?_
              rintro e w' ⟨rfl, rfl⟩
              have HN2 := Lib.hid (PF.set (y := f') HN.out)
              clear HN
              go_wp2
              go_roundw
              case rel => exact ⟨j + 1, f', by omega, by go_num, fun _ => rfl, HN2.out⟩
              case measure => simp [intOf]; omega
          · have hxx := hx (by omega)
            subst hxx
            obtain ⟨c0, c1, c2, c3⟩ := four HN.out.box
            have HB := Lib.hid (B1.out.grown HN.out.grown)
            obtain ⟨⟨p0, r0⟩, ⟨p1, r1⟩, ⟨p2, r2⟩, ⟨p3, r3⟩⟩ := put4_on HB.out (.int .i64 n) (.int .i64 x) (.slice ua un uc) (.slice ta tn tc)
            go_wp2
            try simp only [Exit.inBlock, Exit.then]
            have hP4 := put4_grown wr (w.heap.size + 1) (.int .i64 n) (.int .i64 x) (.slice ua un uc) (.slice ta tn tc)
            have hlt := B1.out.lt
            refine ret_box rfl rfl (put4_box (x' := .int .i64 n) (y' := .int .i64 x) (z' := (.slice ua un uc)) (u' := (.slice ta tn tc)) HB.out) Tryz.underlying42 rfl (by kernel_rfl) rfl ?_
            exact ⟨(.slice ua un uc), (.slice ta tn tc), rfl, (HN.out.ou.kept hP4 (.inr (HN.out.ou.off (by omega)))).lower (by omega), (HN.out.ot.kept hP4 (.inr (HN.out.ot.off (by omega)))).lower (by omega), HN.out.ap, grown_new (grownN_trans HG.out HN.out.grown) hP4 (fun c h => by injection h with h; omega)⟩
  · go_simp
    have gn := World.grownBy_alloc X0 (.cells #[.int .i64 0, .int .i64 0, .slice none 0 0, .slice none 0 0] 42 (0, 0)) (none : Option Nat)
    have hn := box_new X0 #[.int .i64 0, .int .i64 0, .slice none 0 0, .slice none 0 0] 42
    have HNL := Lib.hid HWX0.out.size
    generalize X0.alloc (.cells #[.int .i64 0, .int .i64 0, .slice none 0 0, .slice none 0 0] 42 (0, 0)) = x1 at *
    generalize X0.heap.size = nb at *
    have HNBx1 := Lib.hid hn
    have HWx1 := Lib.hid (grownN_trans HWX0.out gn)
    refine hK.out _ _ ?_ (fun hHeld => ?_)
    · exact hkeep _ HWx1.out
    clear hK K
    (try simp only [Act.put, List.getElem_toArray, List.getElem_cons_succ, List.getElem_cons_zero, List.setIfInBounds_toArray, List.set_cons_zero, List.set_cons_succ])
    refine wpAnyH_ready (rs := [6]) (by kernel_rfl) (by simp) ?_
    refine AllReadyH.cons rfl (fun K hK => ?_) AllReadyH.nil
    · go_simp
      go_at_call 151
      refine (cloneM_any x1 cv L (HC.out.grown HWx1.out) HLL.out).mono ?_
      rintro e x2 ⟨u, rfl, ho, gn⟩
      have HOux2 := Lib.hid (ho.lower HWx1.out.size)
      have HNBx2 := Lib.hid (HNBx1.out.grown gn)
      have HNUx2 := Lib.hid (ho.off HNBx1.out.lt)
      have HWx2 := Lib.hid (grownN_trans HWx1.out gn)
      refine hK.out _ _ ?_ (fun hHeld => ?_)
      · exact hkeep _ HWx2.out
      clear hK K
      (try simp only [Act.put, List.getElem_toArray, List.getElem_cons_succ, List.getElem_cons_zero, List.setIfInBounds_toArray, List.set_cons_zero, List.set_cons_succ])
      refine wpAnyH_ready (rs := [9]) (by kernel_rfl) (by simp) ?_
      refine AllReadyH.cons rfl (fun K hK => ?_) AllReadyH.nil
      · go_simp
        go_at_call 152
        refine (cloneB_any x2 pv P (HP.out.grown HWx2.out) HPP.out).mono ?_
        rintro e x3 ⟨t, rfl, ho, gn⟩
        have HOtx3 := Lib.hid (ho.lower HWx2.out.size)
        have HNBx3 := Lib.hid (HNBx2.out.grown gn)
        have HNTx3 := Lib.hid (ho.off HNBx2.out.lt)
        have HAPx3 : Hid (ApartU u t) := ApartU.symm (apart_lt ho.lt HOux2.out.lt (Nat.le_refl _))
        have HWx3 := Lib.hid (grownN_trans HWx2.out gn)
        have HOux3 := Lib.hid (HOux2.out.grown gn)
        have HNUx3 := HNUx2
        refine hK.out _ _ ?_ (fun hHeld => ?_)
        · exact hkeep _ HWx3.out
        clear hK K
        (try simp only [Act.put, List.getElem_toArray, List.getElem_cons_succ, List.getElem_cons_zero, List.setIfInBounds_toArray, List.set_cons_zero, List.set_cons_succ])
        have hsu := HOux3.out.sees.shape
        have hst := HOtx3.out.sees.shape
        obtain ⟨ua, un, uc, hu, HUN⟩ := hsu
        obtain ⟨ta, tn, tc, ht, HTN⟩ := hst
        subst hu
        subst ht
        refine wpAnyH_take (i := 10) (v := ?_) rfl (by kernel_rfl) (by kernel_rfl) (by kernel_rfl) (fun _ _ _ h => h) (Or.inl ⟨by rfl, ?_⟩) (by assumption) ?_; rotate_left; (focus (intro wS hSw; (try dsimp only at hSw); go_simp <;> with_reducible rfl)); (try simp only [Act.put, List.getElem_toArray, List.getElem_cons_succ, List.getElem_cons_zero, List.setIfInBounds_toArray, List.set_cons_zero, List.set_cons_succ])
        obtain ⟨⟨p0, r0⟩, ⟨p1, r1⟩, ⟨p2, r2⟩, ⟨p3, r3⟩⟩ := put4_on HNBx3.out (.int .i64 n) (.int .i64 f) (.slice ua un uc) (.slice ta tn tc)
        have hpf : PF W (put4 x3 nb (.int .i64 n) (.int .i64 f) (.slice ua un uc) (.slice ta tn tc)) nb n f (.slice ua un uc) (.slice ta tn tc) L P := PF.fill HNBx3.out HOux3.out HOtx3.out HAPx3.out HNUx3.out HNTx3.out HNL.out HWx3.out
        have hb0lt := B0.out.lt
        have hnl := HNL.out
        refine wpAnyH_ready (rs := [12]) (by kernel_rfl) (by simp) ?_
        refine AllReadyH.cons rfl (fun K hK => ?_) AllReadyH.nil
        go_simp
        refine hK.out _ _ ?_ (fun hHeld => ?_)
        · exact hkeep _ hpf.grown
        clear hK K
        refine wpAnyH_done (by kernel_rfl) ?_ _
        (try simp only [Act.put, List.getElem_toArray, List.getElem_cons_succ, List.getElem_cons_zero, List.setIfInBounds_toArray, List.set_cons_zero, List.set_cons_succ])
        replace hpf := Lib.hid hpf
        change Hid (PF W ((((x3.setCell ⟨nb, 0, none⟩ (.int .i64 n)).setCell ⟨nb, 1, none⟩ (.int .i64 f)).setCell ⟨nb, 2, none⟩ (.slice ua un uc)).setCell ⟨nb, 3, none⟩ (.slice ta tn tc)) nb n f (.slice ua un uc) (.slice ta tn tc) L P) at hpf
        generalize (((x3.setCell ⟨nb, 0, none⟩ (.int .i64 n)).setCell ⟨nb, 1, none⟩ (.int .i64 f)).setCell ⟨nb, 2, none⟩ (.slice ua un uc)).setCell ⟨nb, 3, none⟩ (.slice ta tn tc) = Y at *
        clear p0 r0 p1 r1 p2 r2 p3 r3 hHeld hnl hb0lt hkeep c0 c1 c2 c3
        go_wp2_with fail
        go_loopw [21] (fun i wr => ∃ j : Nat, ∃ x : Int, j ≤ on ∧ i = .int .i64 j ∧ (j = on → x = f') ∧ Hid (PF W wr nb n x (.slice ua un uc) (.slice ta tn tc) L P)) (fun i _ => on - (intOf i).toNat)
        case atStart =>
          refine ⟨0, f, by omega, rfl, fun h => ?_, hpf.out⟩
          rcases HOP.out with ⟨_, _, h2⟩ | ⟨g, c, cap, h1, _⟩
          · exact h2.symm
          · omega
        case round =>
          obtain ⟨j, x, hj, rfl, hx, HN⟩ := hrel
          by_cases hlt : j < on
          · rcases HOP.out with ⟨h1, _, _⟩ | ⟨g, c, cap, h1, h2, h3, h4⟩
            · omega
            · injection h2 with h2a h2b h2c
              subst h2a
              have hj0 : j = 0 := by omega
              have cf : wr.cell? ⟨g, j, none⟩ = some (.func (.func 165) #[] #[.pointer (some ⟨c, 0, none⟩)]) := by rw [hj0]; exact ((h4.grown HG.out).grown HN.out.grown).cell 0
              have hcc := ((h3.grown HG.out).grown HN.out.grown).cell 0
              have HCC := Lib.hid hcc
              clear h1 h2b h2c h3 h4 hcc hx hj0
              go_wp2_with fail
              refine (opt_any wr nb c n x f' _ _ HN.out.box HCC.out).mono ?_
              rintro e w' ⟨rfl, rfl⟩
              have HN2 := Lib.hid (PF.set (y := f') HN.out)
              clear HN
              go_wp2
              go_roundw
              case rel => exact ⟨j + 1, f', by omega, by go_num, fun _ => rfl, HN2.out⟩
              case measure => simp [intOf]; omega
          · have hxx := hx (by omega)
            subst hxx
            obtain ⟨c0, c1, c2, c3⟩ := four HN.out.box
            have HB := Lib.hid (B1.out.grown HN.out.grown)
            obtain ⟨⟨p0, r0⟩, ⟨p1, r1⟩, ⟨p2, r2⟩, ⟨p3, r3⟩⟩ := put4_on HB.out (.int .i64 n) (.int .i64 x) (.slice ua un uc) (.slice ta tn tc)
            go_wp2
            try simp only [Exit.inBlock, Exit.then]
            have hP4 := put4_grown wr (w.heap.size + 1) (.int .i64 n) (.int .i64 x) (.slice ua un uc) (.slice ta tn tc)
            have hlt := B1.out.lt
            refine ret_box rfl rfl (put4_box (x' := .int .i64 n) (y' := .int .i64 x) (z' := (.slice ua un uc)) (u' := (.slice ta tn tc)) HB.out) Tryz.underlying42 rfl (by kernel_rfl) rfl ?_
            exact ⟨(.slice ua un uc), (.slice ta tn tc), rfl, (HN.out.ou.kept hP4 (.inr (HN.out.ou.off (by omega)))).lower (by omega), (HN.out.ot.kept hP4 (.inr (HN.out.ot.off (by omega)))).lower (by omega), HN.out.ap, grown_new (grownN_trans HG.out HN.out.grown) hP4 (fun c h => by injection h with h; omega)⟩
end Go.Proofs.YtonalkamfgpokaaGreat.Pe

namespace Go.Proofs.YtonalkamfgpokaaGreat.Crw
open Rg

def okMem (m : Mem) : Bool := decide (1 ≤ m.id ∧ m.id ≤ 99) && (decide (0 ≤ m.str ∧ m.str ≤ 100) && decide (1 ≤ m.need ∧ m.need ≤ 10))
def dM : Mem := ⟨0, 0, 0, false⟩
/-- The first j members are valid, and ascend. -/
def upTo (L : List Mem) (j : Nat) : Prop := ∀ i, i < j → okMem (L.getD i dM) = true ∧ (0 < i → (L.getD (i - 1) dM).id < (L.getD i dM).id)
instance (L : List Mem) (j : Nat) : Decidable (upTo L j) := by unfold upTo; infer_instance
def areCrew (L : List Mem) : Bool := decide (1 ≤ L.length ∧ L.length ≤ 8) && decide (upTo L L.length)
theorem upTo_zero (L : List Mem) : upTo L 0 := fun i h => absurd h (Nat.not_lt_zero _)
theorem upTo_next {L : List Mem} {j : Nat} (h : upTo L j) (h1 : okMem (L.getD j dM) = true) (h2 : 0 < j → (L.getD (j - 1) dM).id < (L.getD j dM).id) : upTo L (j + 1) := fun i hi => by
  by_cases h' : i < j
  · exact h i h'
  · obtain rfl : i = j := by omega
    exact ⟨h1, h2⟩
theorem crew_yes {L : List Mem} (h1 : 1 ≤ L.length ∧ L.length ≤ 8) (h2 : upTo L L.length) : areCrew L = true := by
  unfold areCrew; rw [decide_eq_true h1, decide_eq_true h2]; rfl
theorem crew_long {L : List Mem} (h1 : ¬ (1 ≤ L.length ∧ L.length ≤ 8)) : areCrew L = false := by
  unfold areCrew; rw [decide_eq_false h1]; rfl
theorem crew_bad {L : List Mem} {j : Nat} (hj : j < L.length) (h : okMem (L.getD j dM) = false ∨ (0 < j ∧ ¬ (L.getD (j - 1) dM).id < (L.getD j dM).id)) : areCrew L = false := by
  unfold areCrew
  have : ¬ upTo L L.length := fun hu => by
    have := hu j hj
    rcases h with h | ⟨h0, h⟩
    · rw [this.1] at h; cases h
    · exact h (this.2 h0)
  rw [decide_eq_false this, Bool.and_false]
theorem crew_len {L : List Mem} (h : areCrew L = true) : 1 ≤ L.length ∧ L.length ≤ 8 := by
  unfold areCrew at h; simp only [Bool.and_eq_true, decide_eq_true_eq] at h; exact h.1
theorem crew_up {L : List Mem} (h : areCrew L = true) : upTo L L.length := by
  unfold areCrew at h; simp only [Bool.and_eq_true, decide_eq_true_eq] at h; exact h.2
theorem ok_of {m : Mem} (h : okMem m = true) : (1 ≤ m.id ∧ m.id ≤ 99) ∧ (0 ≤ m.str ∧ m.str ≤ 100) ∧ (1 ≤ m.need ∧ m.need ≤ 10) := by
  unfold okMem at h; simp only [Bool.and_eq_true, decide_eq_true_eq] at h; exact ⟨h.1, h.2.1, h.2.2⟩
theorem crew_at {L : List Mem} (h : areCrew L = true) {j : Nat} (hj : j < L.length) : (1 ≤ (L.getD j dM).id ∧ (L.getD j dM).id ≤ 99) ∧ (0 ≤ (L.getD j dM).str ∧ (L.getD j dM).str ≤ 100) ∧ (1 ≤ (L.getD j dM).need ∧ (L.getD j dM).need ≤ 10) := ok_of ((crew_up h) j hj).1
/-- Sums over the first members. -/
def sumTo (f : Mem → Int) (L : List Mem) (j : Nat) : Int := ((L.take j).map f).sum
theorem sumTo_zero (f : Mem → Int) (L : List Mem) : sumTo f L 0 = 0 := by simp [sumTo]
theorem sumTo_next {f : Mem → Int} {L : List Mem} {j : Nat} (hj : j < L.length) : sumTo f L (j + 1) = sumTo f L j + f (L.getD j dM) := by
  unfold sumTo
  rw [List.take_add_one, List.map_append, List.sum_append]
  congr 1
  simp [hj]
def eats (m : Mem) : Int := m.need
def carries (m : Mem) : Int := if m.ill = true then 0 else m.str
def needOf (L : List Mem) : Int := if areCrew L = true then sumTo eats L L.length else 0
def capOf (L : List Mem) : Int := if areCrew L = true then sumTo carries L L.length else 0
theorem sumTo_bound {f : Mem → Int} {L : List Mem} (b : Int) (hb : 0 ≤ b) (h : ∀ j, j < L.length → 0 ≤ f (L.getD j dM) ∧ f (L.getD j dM) ≤ b) : ∀ j, j ≤ L.length → 0 ≤ sumTo f L j ∧ sumTo f L j ≤ j * b
  | 0, _ => by rw [sumTo_zero]; simp
  | j + 1, hj => by
    have h1 := sumTo_bound b hb h j (by omega)
    have h2 := h j (by omega)
    rw [sumTo_next (by omega), show ((j + 1 : Nat) : Int) * b = j * b + b by rw [Int.natCast_add, Int.add_mul]; simp]
    omega
theorem eats_at {L : List Mem} (h : areCrew L = true) {j : Nat} (hj : j < L.length) : 0 ≤ eats (L.getD j dM) ∧ eats (L.getD j dM) ≤ 100 := by
  have := crew_at h hj; unfold eats; omega
theorem carries_at {L : List Mem} (h : areCrew L = true) {j : Nat} (hj : j < L.length) : 0 ≤ carries (L.getD j dM) ∧ carries (L.getD j dM) ≤ 100 := by
  have := crew_at h hj; unfold carries; split <;> omega
theorem sum_small {f : Mem → Int} {L : List Mem} (h : areCrew L = true) (hf : ∀ j, j < L.length → 0 ≤ f (L.getD j dM) ∧ f (L.getD j dM) ≤ 100) {j : Nat} (hj : j ≤ L.length) : 0 ≤ sumTo f L j ∧ sumTo f L j ≤ 800 := by
  have h1 := sumTo_bound 100 (by omega) hf j hj
  have h2 := crew_len h
  omega
theorem needOf_bound (L : List Mem) : 0 ≤ needOf L ∧ needOf L ≤ 800 := by
  unfold needOf
  split
  · rename_i h; exact sum_small h (fun j hj => eats_at h hj) (Nat.le_refl _)
  · omega
theorem capOf_bound (L : List Mem) : 0 ≤ capOf L ∧ capOf L ≤ 800 := by
  unfold capOf
  split
  · rename_i h; exact sum_small h (fun j hj => carries_at h hj) (Nat.le_refl _)
  · omega
theorem needOf_pos {L : List Mem} (h : areCrew L = true) : 0 < needOf L := by
  have hl := crew_len h
  unfold needOf
  rw [if_pos h]
  have h1 := sumTo_next (f := eats) (L := L) (j := 0) (by omega)
  have h2 := crew_at h (j := 0) (by omega)
  have : ∀ k, 1 ≤ k → k ≤ L.length → 0 < sumTo eats L k := by
    intro k hk
    induction k with
    | zero => omega
    | succ k ih =>
      intro hle
      rw [sumTo_next (by omega)]
      have h3 := eats_at h (j := k) (by omega)
      by_cases e : k = 0
      · subst e; rw [sumTo_zero]; unfold eats; omega
      · have := ih (by omega) (by omega); omega
  exact this _ hl.1 (Nat.le_refl _)
theorem needOf_zero {L : List Mem} (h : areCrew L = false) : needOf L = 0 := by unfold needOf; rw [h]; rfl
theorem capOf_zero {L : List Mem} (h : areCrew L = false) : capOf L = 0 := by unfold capOf; rw [h]; rfl

def setOne (id : Int) (ill : Bool) (m : Mem) : Mem := if m.id = id then { m with ill := ill } else m
def hasId (L : List Mem) (id : Int) : Bool := L.any (fun m => decide (m.id = id))
/-- What becomes of the first j members. -/
def setTo (L : List Mem) (id : Int) (ill : Bool) (j : Nat) : List Mem := (L.map (setOne id ill)).take j ++ L.drop j
def setIll (L : List Mem) (id : Int) (ill : Bool) : List Mem := if areCrew L = true then L.map (setOne id ill) else L
def setOk (L : List Mem) (id : Int) : Bool := areCrew L && hasId L id

def healthy (L : List Mem) : List Int := (L.filter (fun m => !m.ill)).map (·.id)
/-- The place of the strongest of the first j who are well; -1: none. -/
def best (L : List Mem) : Nat → Int
  | 0 => -1
  | j + 1 => if (L.getD j dM).ill = false ∧ (best L j < 0 ∨ (L.getD (best L j).toNat dM).str < (L.getD j dM).str) then (j : Int) else best L j
def strongest (L : List Mem) : Int := if best L L.length < 0 then 0 else (L.getD (best L L.length).toNat dM).id
end Go.Proofs.YtonalkamfgpokaaGreat.Crw
