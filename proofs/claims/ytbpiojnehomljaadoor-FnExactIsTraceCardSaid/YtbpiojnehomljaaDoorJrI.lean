/- Contracts of journals: the program's page that may follow, its iterator over pages that are linked, and the model's whole test. -/
import Derived.Test.YtbpiojnehomljaaDoorJrn
import Derived.Test.YtbpiojnehomljaaDoorRst
import Derived.Deep.RegionHeld3
import Derived.Deep.QuietTactic
import Derived.BigQuiet
namespace Go.Proofs.YtbpiojnehomljaaDoor.Jrn
open Go.RowKit Go.Shelf Kit Rw Rg Md Four Hs Rst

def inb (n l h : Int) : Bool := decide (l ≤ n) && decide (n ≤ h)
theorem inb_yes {n l h : Int} (hn : l ≤ n ∧ n ≤ h) : inb n l h = true := by simp [inb, hn.1, hn.2]
theorem inb_no {n l h : Int} (hn : ¬ (l ≤ n ∧ n ≤ h)) : inb n l h = false := by simp [inb]; omega
theorem inR_b (n l h : Int) (w : World) :
    Calls Tryd.prog 47 #[.int .i64 n, .int .i64 l, .int .i64 h] w fun e w' => e = .returned (.bool (inb n l h)) ∧ w = w' := by
  by_cases h1 : l ≤ n
  · go_enter Tryd.func47, Tryd.ntmps47
    go_wp2
    go_ret
    exact ⟨by simp [inb, h1], rfl⟩
  · go_enter Tryd.func47, Tryd.ntmps47
    go_wp2
    go_ret
    exact ⟨by simp [inb]; omega, rfl⟩
theorem inS_b (n l h : Int) (w : World) :
    Calls Tryd.prog 43 #[.int .i64 n, .int .i64 l, .int .i64 h] w fun e w' => e = .returned (.bool (inb n l h)) ∧ w = w' := by
  by_cases h1 : l ≤ n
  · go_enter Tryd.func43, Tryd.ntmps43
    go_wp2
    go_ret
    exact ⟨by simp [inb, h1], rfl⟩
  · go_enter Tryd.func43, Tryd.ntmps43
    go_wp2
    go_ret
    exact ⟨by simp [inb]; omega, rfl⟩

theorem inR_q (n l h : Int) (w : World) :
    Calls Tryd.prog 47 #[.int .i64 n, .int .i64 l, .int .i64 h] w fun e w' => e = .returned (.bool (inb n l h)) ∧ w' = w := (inR_b n l h w).mono fun _ _ q => ⟨q.1, q.2.symm⟩
theorem inS_q (n l h : Int) (w : World) :
    Calls Tryd.prog 43 #[.int .i64 n, .int .i64 l, .int .i64 h] w fun e w' => e = .returned (.bool (inb n l h)) ∧ w' = w := (inS_b n l h w).mono fun _ _ q => ⟨q.1, q.2.symm⟩

/-! the program: a page that may follow -/
set_option maxRecDepth 20000 in
set_option maxHeartbeats 1000000 in
theorem iSeal_any (w : World) (p b : I4) (hp : enc4.ok p) (hb : enc4.ok b) :
    Calls Tryd.prog 61 #[.agg #[.int .i64 p.x0, .int .i64 p.x1, .int .i64 p.x2, .int .i64 p.x3], .agg #[.int .i64 b.x0, .int .i64 b.x1, .int .i64 b.x2, .int .i64 b.x3]] w fun e w' => e = .returned (.int .i64 (sealT b.x3 p)) ∧ w.grownBy w' none := by
  obtain ⟨x0, x1, x2, x3⟩ := p
  obtain ⟨y0, y1, y2, y3⟩ := b
  obtain ⟨h0, h1, h2, h3⟩ := hp
  obtain ⟨k0, k1, k2, k3⟩ := hb
  dsimp only at h0 h1 h2 h3 k0 k1 k2 k3 ⊢
  have g1 := World.grownBy_alloc w (.cells #[.int .i64 x0, .int .i64 x1, .int .i64 x2, .int .i64 x3] 42 (0, 0)) (none : Option Nat)
  have b0 := box_new w #[.int .i64 x0, .int .i64 x1, .int .i64 x2, .int .i64 x3] 42
  obtain ⟨w1, hw1⟩ : ∃ w1, w1 = w.alloc (.cells #[.int .i64 x0, .int .i64 x1, .int .i64 x2, .int .i64 x3] 42 (0, 0)) := ⟨_, rfl⟩
  have g2 := World.grownBy_alloc (w.alloc (.cells #[.int .i64 x0, .int .i64 x1, .int .i64 x2, .int .i64 x3] 42 (0, 0))) (.cells #[.int .i64 y0, .int .i64 y1, .int .i64 y2, .int .i64 y3] 42 (0, 0)) (none : Option Nat)
  have b1 := box_new (w.alloc (.cells #[.int .i64 x0, .int .i64 x1, .int .i64 x2, .int .i64 x3] 42 (0, 0))) #[.int .i64 y0, .int .i64 y1, .int .i64 y2, .int .i64 y3] 42
  rw [World.size_alloc] at b1
  obtain ⟨c0, c1, c2, c3⟩ := four (b0.grown g2)
  obtain ⟨d0, d1, d2, d3⟩ := four b1
  have HG := Lib.hid (grownN_trans g1 g2)
  have hH := hash_any _ _ [y3, x0, x1, x2] (sees_four (E := 3) ((w.alloc (.cells #[.int .i64 x0, .int .i64 x1, .int .i64 x2, .int .i64 x3] 42 (0, 0))).alloc (.cells #[.int .i64 y0, .int .i64 y1, .int .i64 y2, .int .i64 y3] 42 (0, 0))) y3 x0 x1 x2 k3 h0 h1 h2)
  obtain ⟨q, hq⟩ : ∃ q, q = hs 11 [y3, x0, x1, x2] := ⟨_, rfl⟩
  rw [← hq, World.size_alloc, World.size_alloc] at hH
  rw [show sealT y3 ⟨x0, x1, x2, x3⟩ = q from hq.symm]
  have HH := Lib.hid hH
  clear hH hq
  clear b0 b1 g1 g2 hw1 h0 h1 h2 h3 k0 k1 k2 k3
  go_enter Tryd.func61, Tryd.ntmps61
  go_wp2_with fail
  simp only [Nat.add_assoc] at HH ⊢
  refine HH.out.mono ?_
  rintro e w' ⟨rfl, rfl⟩
  go_wp2
  go_ret
  exact ⟨rfl, grownN_trans HG.out (World.grownBy_alloc _ _ _)⟩

set_option maxRecDepth 20000 in
set_option maxHeartbeats 2000000 in
theorem mayFollow_any (w : World) (p b : I4) (hp : enc4.ok p) (hb : enc4.ok b) (hd : b.x0 ≤ 10000) :
    Calls Tryd.prog 45 #[.agg #[.int .i64 p.x0, .int .i64 p.x1, .int .i64 p.x2, .int .i64 p.x3], .agg #[.int .i64 b.x0, .int .i64 b.x1, .int .i64 b.x2, .int .i64 b.x3]] w fun e w' => e = .returned (.bool (mf b p)) ∧ w.grownBy w' none := by
  have HSL := Lib.hid fun w => iSeal_any w p b hp hb
  obtain ⟨m, hm⟩ : ∃ m, m = mf b p := ⟨_, rfl⟩
  have hmf : m = (inb p.x0 (b.x0 + 1) 10000 && (inb p.x1 0 63 && (inb p.x2 0 10000 && decide (p.x3 = sealT b.x3 p)))) := by
    rw [hm, Bool.eq_iff_iff]
    unfold mf inb
    simp only [Bool.and_eq_true, decide_eq_true_eq]
    omega
  rw [← hm]
  clear hm
  obtain ⟨s, hs⟩ : ∃ s, s = sealT b.x3 p := ⟨_, rfl⟩
  rw [← hs] at HSL hmf
  have HMF := Lib.hid hmf
  obtain ⟨x0, x1, x2, x3⟩ := p
  obtain ⟨y0, y1, y2, y3⟩ := b
  have hy0 : (Lit.int .i64 y0).wf = true := hb.1
  have hyb := i64_of hy0
  dsimp only at HSL HMF hd ⊢
  have g1 := World.grownBy_alloc w (.cells #[.int .i64 x0, .int .i64 x1, .int .i64 x2, .int .i64 x3] 42 (0, 0)) (none : Option Nat)
  have b0 := box_new w #[.int .i64 x0, .int .i64 x1, .int .i64 x2, .int .i64 x3] 42
  have g2 := World.grownBy_alloc (w.alloc (.cells #[.int .i64 x0, .int .i64 x1, .int .i64 x2, .int .i64 x3] 42 (0, 0))) (.cells #[.int .i64 y0, .int .i64 y1, .int .i64 y2, .int .i64 y3] 42 (0, 0)) (none : Option Nat)
  have b1 := box_new (w.alloc (.cells #[.int .i64 x0, .int .i64 x1, .int .i64 x2, .int .i64 x3] 42 (0, 0))) #[.int .i64 y0, .int .i64 y1, .int .i64 y2, .int .i64 y3] 42
  rw [World.size_alloc] at b1
  have B0 := Lib.hid (b0.grown g2)
  have B1 := Lib.hid b1
  have HG := Lib.hid (grownN_trans g1 g2)
  have hwr : IntKind.i64.wrap (y0 + 1) = y0 + 1 := IntWalk.i64_in _ (by omega)
  clear b0 b1 g1 g2 hmf hp hb hs hy0
  obtain ⟨c0, c1, c2, c3⟩ := four B0.out
  obtain ⟨d0, d1, d2, d3⟩ := four B1.out
  cases h1 : inb x0 (y0 + 1) 10000
  · have HR : Hid (m = false) := by show _ = _; rw [HMF.out, h1]; rfl
    go_enter Tryd.func45, Tryd.ntmps45
    go_wp2
    go_quiet (first | (go_at_call 47; refine Calls.quiet_of_same (inR_q _ _ _ _)))
    go_wp2
    go_ret
    exact ⟨ret_bool HR.out.symm, grown_drewN HG.out _⟩
  · cases h2 : inb x1 0 63
    · have HR : Hid (m = false) := by show _ = _; rw [HMF.out, h1, h2]; rfl
      go_enter Tryd.func45, Tryd.ntmps45
      go_wp2
      go_quiet (first | (go_at_call 47; refine Calls.quiet_of_same (inR_q _ _ _ _)))
      go_wp2
      go_ret
      exact ⟨ret_bool HR.out.symm, grown_drewN HG.out _⟩
    · cases h3 : inb x2 0 10000
      · have HR : Hid (m = false) := by show _ = _; rw [HMF.out, h1, h2, h3]; rfl
        go_enter Tryd.func45, Tryd.ntmps45
        go_wp2
        go_quiet (first | (go_at_call 47; refine Calls.quiet_of_same (inR_q _ _ _ _)))
        go_wp2
        go_ret
        exact ⟨ret_bool HR.out.symm, grown_drewN HG.out _⟩
      · have HR : Hid (m = decide (x3 = s)) := by show _ = _; rw [HMF.out, h1, h2, h3]; rfl
        go_enter Tryd.func45, Tryd.ntmps45
        go_wp2_with fail
        generalize (w.alloc (.cells #[.int .i64 x0, .int .i64 x1, .int .i64 x2, .int .i64 x3] 42 (0, 0))).alloc (.cells #[.int .i64 y0, .int .i64 y1, .int .i64 y2, .int .i64 y3] 42 (0, 0)) = w2 at *
        have HGD := Lib.hid (grown_drew HG.out)
        have D0 := Lib.hid (B0.out.grown (grown_drew (World.grownBy.refl w2 none)))
        have D1 := Lib.hid (B1.out.grown (grown_drew (World.grownBy.refl w2 none)))
        clear c0 c1 c2 c3 d0 d1 d2 d3
        refine wp_region_held_drew (S := fun w' => (w'.cell? ⟨w.heap.size, 0, none⟩ = some (.int .i64 x0) ∧ w'.cell? ⟨w.heap.size, 1, none⟩ = some (.int .i64 x1) ∧ w'.cell? ⟨w.heap.size, 2, none⟩ = some (.int .i64 x2) ∧ w'.cell? ⟨w.heap.size, 3, none⟩ = some (.int .i64 x3)) ∧ (w'.cell? ⟨w.heap.size + 1, 0, none⟩ = some (.int .i64 y0) ∧ w'.cell? ⟨w.heap.size + 1, 1, none⟩ = some (.int .i64 y1) ∧ w'.cell? ⟨w.heap.size + 1, 2, none⟩ = some (.int .i64 y2) ∧ w'.cell? ⟨w.heap.size + 1, 3, none⟩ = some (.int .i64 y3))) (by kernel_rfl) ⟨four D0.out, four D1.out⟩ (fun hHeld => ?_)
        refine wpAnyH_take (i := 0) (v := ?_) rfl (by kernel_rfl) (by kernel_rfl) (by kernel_rfl) (fun _ _ _ h => h) (Or.inl ⟨by rfl, ?_⟩) (by assumption) ?_; rotate_left; (focus (intro wS hSw; (try dsimp only at hSw); go_simp <;> with_reducible rfl)); (try simp only [Act.put, List.getElem_toArray, List.getElem_cons_succ, List.getElem_cons_zero, List.setIfInBounds_toArray, List.set_cons_zero, List.set_cons_succ])
        refine wpAnyH_take (i := 1) (v := ?_) rfl (by kernel_rfl) (by kernel_rfl) (by kernel_rfl) (fun _ _ _ h => h) (Or.inl ⟨by rfl, ?_⟩) (by assumption) ?_; rotate_left; (focus (intro wS hSw; (try dsimp only at hSw); go_simp <;> with_reducible rfl)); (try simp only [Act.put, List.getElem_toArray, List.getElem_cons_succ, List.getElem_cons_zero, List.setIfInBounds_toArray, List.set_cons_zero, List.set_cons_succ])
        refine wpAnyH_take (i := 2) (v := ?_) rfl (by kernel_rfl) (by kernel_rfl) (by kernel_rfl) (fun _ _ _ h => h) (Or.inl ⟨by rfl, ?_⟩) (by assumption) ?_; rotate_left; (focus (intro wS hSw; (try dsimp only at hSw); go_simp <;> with_reducible rfl)); (try simp only [Act.put, List.getElem_toArray, List.getElem_cons_succ, List.getElem_cons_zero, List.setIfInBounds_toArray, List.set_cons_zero, List.set_cons_succ])
        refine wpAnyH_take (i := 3) (v := ?_) rfl (by kernel_rfl) (by kernel_rfl) (by kernel_rfl) (fun _ _ _ h => h) (Or.inl ⟨by rfl, ?_⟩) (by assumption) ?_; rotate_left; (focus (intro wS hSw; (try dsimp only at hSw); go_simp <;> with_reducible rfl)); (try simp only [Act.put, List.getElem_toArray, List.getElem_cons_succ, List.getElem_cons_zero, List.setIfInBounds_toArray, List.set_cons_zero, List.set_cons_succ])
        refine wpAnyH_take (i := 4) (v := ?_) rfl (by kernel_rfl) (by kernel_rfl) (by kernel_rfl) (fun _ _ _ h => h) (Or.inl ⟨by rfl, ?_⟩) (by assumption) ?_; rotate_left; (focus (intro wS hSw; (try dsimp only at hSw); go_simp <;> with_reducible rfl)); (try simp only [Act.put, List.getElem_toArray, List.getElem_cons_succ, List.getElem_cons_zero, List.setIfInBounds_toArray, List.set_cons_zero, List.set_cons_succ])
        refine wpAnyH_ready (rs := [5]) (by kernel_rfl) (by simp) ?_; refine AllReadyH.cons rfl (fun K hK => ?_) AllReadyH.nil; go_simp; (go_at_call 47; refine (inR_b _ _ _ _).mono ?_; rintro e w3 ⟨rfl, rfl⟩; rw [h1])
        refine hK.out _ _ ?_ (fun hHeld => ?_)
        · exact ⟨four D0.out, four D1.out⟩
        clear hK K
        (try simp only [Act.put, List.getElem_toArray, List.getElem_cons_succ, List.getElem_cons_zero, List.setIfInBounds_toArray, List.set_cons_zero, List.set_cons_succ])
        refine wpAnyH_take (i := 6) (v := ?_) rfl (by kernel_rfl) (by kernel_rfl) (by kernel_rfl) (fun _ _ _ h => h) (Or.inl ⟨by rfl, ?_⟩) (by assumption) ?_; rotate_left; (focus (intro wS hSw; (try dsimp only at hSw); go_simp <;> with_reducible rfl)); (try simp only [Act.put, List.getElem_toArray, List.getElem_cons_succ, List.getElem_cons_zero, List.setIfInBounds_toArray, List.set_cons_zero, List.set_cons_succ])
        refine wpAnyH_take (i := 7) (v := ?_) rfl (by kernel_rfl) (by kernel_rfl) (by kernel_rfl) (fun _ _ _ h => h) (Or.inl ⟨by rfl, ?_⟩) (by assumption) ?_; rotate_left; (focus (intro wS hSw; (try dsimp only at hSw); go_simp <;> with_reducible rfl)); (try simp only [Act.put, List.getElem_toArray, List.getElem_cons_succ, List.getElem_cons_zero, List.setIfInBounds_toArray, List.set_cons_zero, List.set_cons_succ])
        refine wpAnyH_take (i := 8) (v := ?_) rfl (by kernel_rfl) (by kernel_rfl) (by kernel_rfl) (fun _ _ _ h => h) (Or.inl ⟨by rfl, ?_⟩) (by assumption) ?_; rotate_left; (focus (intro wS hSw; (try dsimp only at hSw); go_simp <;> with_reducible rfl)); (try simp only [Act.put, List.getElem_toArray, List.getElem_cons_succ, List.getElem_cons_zero, List.setIfInBounds_toArray, List.set_cons_zero, List.set_cons_succ])
        refine wpAnyH_ready (rs := [9]) (by kernel_rfl) (by simp) ?_; refine AllReadyH.cons rfl (fun K hK => ?_) AllReadyH.nil; go_simp; (go_at_call 47; refine (inR_b _ _ _ _).mono ?_; rintro e w3 ⟨rfl, rfl⟩; rw [h2])
        refine hK.out _ _ ?_ (fun hHeld => ?_)
        · exact ⟨four D0.out, four D1.out⟩
        clear hK K
        (try simp only [Act.put, List.getElem_toArray, List.getElem_cons_succ, List.getElem_cons_zero, List.setIfInBounds_toArray, List.set_cons_zero, List.set_cons_succ])
        refine wpAnyH_take (i := 10) (v := ?_) rfl (by kernel_rfl) (by kernel_rfl) (by kernel_rfl) (fun _ _ _ h => h) (Or.inl ⟨by rfl, ?_⟩) (by assumption) ?_; rotate_left; (focus (intro wS hSw; (try dsimp only at hSw); go_simp <;> with_reducible rfl)); (try simp only [Act.put, List.getElem_toArray, List.getElem_cons_succ, List.getElem_cons_zero, List.setIfInBounds_toArray, List.set_cons_zero, List.set_cons_succ])
        refine wpAnyH_take (i := 11) (v := ?_) rfl (by kernel_rfl) (by kernel_rfl) (by kernel_rfl) (fun _ _ _ h => h) (Or.inl ⟨by rfl, ?_⟩) (by assumption) ?_; rotate_left; (focus (intro wS hSw; (try dsimp only at hSw); go_simp <;> with_reducible rfl)); (try simp only [Act.put, List.getElem_toArray, List.getElem_cons_succ, List.getElem_cons_zero, List.setIfInBounds_toArray, List.set_cons_zero, List.set_cons_succ])
        refine wpAnyH_take (i := 12) (v := ?_) rfl (by kernel_rfl) (by kernel_rfl) (by kernel_rfl) (fun _ _ _ h => h) (Or.inl ⟨by rfl, ?_⟩) (by assumption) ?_; rotate_left; (focus (intro wS hSw; (try dsimp only at hSw); go_simp <;> with_reducible rfl)); (try simp only [Act.put, List.getElem_toArray, List.getElem_cons_succ, List.getElem_cons_zero, List.setIfInBounds_toArray, List.set_cons_zero, List.set_cons_succ])
        refine wpAnyH_take (i := 13) (v := ?_) rfl (by kernel_rfl) (by kernel_rfl) (by kernel_rfl) (fun _ _ _ h => h) (Or.inl ⟨by rfl, ?_⟩) (by assumption) ?_; rotate_left; (focus (intro wS hSw; (try dsimp only at hSw); go_simp <;> with_reducible rfl)); (try simp only [Act.put, List.getElem_toArray, List.getElem_cons_succ, List.getElem_cons_zero, List.setIfInBounds_toArray, List.set_cons_zero, List.set_cons_succ])
        refine wpAnyH_ready (rs := [14]) (by kernel_rfl) (by simp) ?_; refine AllReadyH.cons rfl (fun K hK => ?_) AllReadyH.nil; go_simp; (go_at_call 47; refine (inR_b _ _ _ _).mono ?_; rintro e w3 ⟨rfl, rfl⟩; rw [h3])
        refine hK.out _ _ ?_ (fun hHeld => ?_)
        · exact ⟨four D0.out, four D1.out⟩
        clear hK K
        (try simp only [Act.put, List.getElem_toArray, List.getElem_cons_succ, List.getElem_cons_zero, List.setIfInBounds_toArray, List.set_cons_zero, List.set_cons_succ])
        refine wpAnyH_take (i := 15) (v := ?_) rfl (by kernel_rfl) (by kernel_rfl) (by kernel_rfl) (fun _ _ _ h => h) (Or.inl ⟨by rfl, ?_⟩) (by assumption) ?_; rotate_left; (focus (intro wS hSw; (try dsimp only at hSw); go_simp <;> with_reducible rfl)); (try simp only [Act.put, List.getElem_toArray, List.getElem_cons_succ, List.getElem_cons_zero, List.setIfInBounds_toArray, List.set_cons_zero, List.set_cons_succ])
        refine wpAnyH_take (i := 16) (v := ?_) rfl (by kernel_rfl) (by kernel_rfl) (by kernel_rfl) (fun _ _ _ h => h) (Or.inl ⟨by rfl, ?_⟩) (by assumption) ?_; rotate_left; (focus (intro wS hSw; (try dsimp only at hSw); go_simp <;> with_reducible rfl)); (try simp only [Act.put, List.getElem_toArray, List.getElem_cons_succ, List.getElem_cons_zero, List.setIfInBounds_toArray, List.set_cons_zero, List.set_cons_succ])
        refine wpAnyH_take (i := 17) (v := ?_) rfl (by kernel_rfl) (by kernel_rfl) (by kernel_rfl) (fun _ _ _ h => h) (Or.inl ⟨by rfl, ?_⟩) (by assumption) ?_; rotate_left; (focus (intro wS hSw; (try dsimp only at hSw); go_simp <;> with_reducible rfl)); (try simp only [Act.put, List.getElem_toArray, List.getElem_cons_succ, List.getElem_cons_zero, List.setIfInBounds_toArray, List.set_cons_zero, List.set_cons_succ])
        refine wpAnyH_take (i := 18) (v := ?_) rfl (by kernel_rfl) (by kernel_rfl) (by kernel_rfl) (fun _ _ _ h => h) (Or.inl ⟨by rfl, ?_⟩) (by assumption) ?_; rotate_left; (focus (intro wS hSw; (try dsimp only at hSw); go_simp <;> with_reducible rfl)); (try simp only [Act.put, List.getElem_toArray, List.getElem_cons_succ, List.getElem_cons_zero, List.setIfInBounds_toArray, List.set_cons_zero, List.set_cons_succ])
        refine wpAnyH_take (i := 19) (v := ?_) rfl (by kernel_rfl) (by kernel_rfl) (by kernel_rfl) (fun _ _ _ h => h) (Or.inl ⟨by rfl, ?_⟩) (by assumption) ?_; rotate_left; (focus (intro wS hSw; (try dsimp only at hSw); go_simp <;> with_reducible rfl)); (try simp only [Act.put, List.getElem_toArray, List.getElem_cons_succ, List.getElem_cons_zero, List.setIfInBounds_toArray, List.set_cons_zero, List.set_cons_succ])
        refine wpAnyH_take (i := 20) (v := ?_) rfl (by kernel_rfl) (by kernel_rfl) (by kernel_rfl) (fun _ _ _ h => h) (Or.inl ⟨by rfl, ?_⟩) (by assumption) ?_; rotate_left; (focus (intro wS hSw; (try dsimp only at hSw); go_simp <;> with_reducible rfl)); (try simp only [Act.put, List.getElem_toArray, List.getElem_cons_succ, List.getElem_cons_zero, List.setIfInBounds_toArray, List.set_cons_zero, List.set_cons_succ])
        refine wpAnyH_ready (rs := [21]) (by kernel_rfl) (by simp) ?_; refine AllReadyH.cons rfl (fun K hK => ?_) AllReadyH.nil; go_simp; (go_at_call 61; refine (HSL.out _).mono ?_; rintro e w3 ⟨rfl, hg⟩; have HG3 := Lib.hid (grownN_trans HGD.out hg); have E0 := Lib.hid (D0.out.grown hg); have E1 := Lib.hid (D1.out.grown hg); clear hg)
        refine hK.out _ _ ?_ (fun hHeld => ?_)
        · exact ⟨four E0.out, four E1.out⟩
        clear hK K
        (try simp only [Act.put, List.getElem_toArray, List.getElem_cons_succ, List.getElem_cons_zero, List.setIfInBounds_toArray, List.set_cons_zero, List.set_cons_succ])
        refine wpAnyH_take (i := 22) (v := ?_) rfl (by kernel_rfl) (by kernel_rfl) (by kernel_rfl) (fun _ _ _ h => h) (Or.inl ⟨by rfl, ?_⟩) (by assumption) ?_; rotate_left; (focus (intro wS hSw; (try dsimp only at hSw); go_simp <;> with_reducible rfl)); (try simp only [Act.put, List.getElem_toArray, List.getElem_cons_succ, List.getElem_cons_zero, List.setIfInBounds_toArray, List.set_cons_zero, List.set_cons_succ])
        refine wpAnyH_take (i := 23) (v := ?_) rfl (by kernel_rfl) (by kernel_rfl) (by kernel_rfl) (fun _ _ _ h => h) (Or.inl ⟨by rfl, ?_⟩) (by assumption) ?_; rotate_left; (focus (intro wS hSw; (try dsimp only at hSw); go_simp <;> with_reducible rfl)); (try simp only [Act.put, List.getElem_toArray, List.getElem_cons_succ, List.getElem_cons_zero, List.setIfInBounds_toArray, List.set_cons_zero, List.set_cons_succ])
        refine wpAnyH_take (i := 24) (v := ?_) rfl (by kernel_rfl) (by kernel_rfl) (by kernel_rfl) (fun _ _ _ h => h) (Or.inl ⟨by rfl, ?_⟩) (by assumption) ?_; rotate_left; (focus (intro wS hSw; (try dsimp only at hSw); go_simp <;> with_reducible rfl)); (try simp only [Act.put, List.getElem_toArray, List.getElem_cons_succ, List.getElem_cons_zero, List.setIfInBounds_toArray, List.set_cons_zero, List.set_cons_succ])
        refine wpAnyH_done (by kernel_rfl) ?_ _
        (try simp only [Act.put, List.getElem_toArray, List.getElem_cons_succ, List.getElem_cons_zero, List.setIfInBounds_toArray, List.set_cons_zero, List.set_cons_succ])
        go_wp2
        go_ret
        exact ⟨ret_bool (by rw [HR.out]; first | rfl | simp [Bool.eq_iff_iff]), HG3.out⟩

end Go.Proofs.YtbpiojnehomljaaDoor.Jrn
