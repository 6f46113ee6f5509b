/- Contracts of the program's other options of a party, and of partyFrom with both of them. -/
import Derived.Test.YtonalkamfgpokaaGreatG17
import Derived.Test.YtonalkamfgpokaaGreatG9
import Derived.Test.YtonalkamfgpokaaGreatExc
namespace Go.Proofs.YtonalkamfgpokaaGreat.Pe2
open Go.RowKit Kit Rw Rg Four PartyL Pc Cln Pe Stm
attribute [local go_sem] Oper.semAt_some

set_option maxRecDepth 20000 in
set_option maxHeartbeats 1000000 in
theorem cell_any (w : World) (b c : Nat) (n x k : Int) (u t : Value) (hb : Box w b #[.int .i64 n, .int .i64 x, u, t] 42) (hc : w.cell? ⟨c, 0, none⟩ = some (.int .i64 k)) :
    Calls Tryz.prog 196 #[.pointer (some ⟨b, 0, none⟩), .pointer (some ⟨c, 0, none⟩)] w fun e w' => e = .returned (.tuple #[]) ∧ w' = w.setCell ⟨b, 0, none⟩ (.int .i64 k) := by
  obtain ⟨c0, c1, c2, c3⟩ := four hb
  have f0 := hb.free 0
  clear hb
  go_enter Tryz.func196, Tryz.ntmps196
  go_wp2
  refine bodyPost_end (results_none rfl _ _ _) rfl ?_
  exact ⟨rfl, rfl⟩

set_option maxRecDepth 20000 in
set_option maxHeartbeats 1000000 in
theorem withCell_any (w : World) (k : Int) :
    Calls Tryz.prog 158 #[.int .i64 k] w fun e w' => e = .returned (.func (.func 196) #[] #[.pointer (some ⟨w.heap.size, 0, none⟩)]) ∧ w' = w.alloc (.cells #[.int .i64 k] 3 (0, 0)) := by
  have hmf : ∀ (fn : Fn) (first cap : Array Value) (w : World), (Instr.makeFunc fn first cap).run Tryz.prog w = .ok (.func fn first cap) w := fun _ _ _ _ => rfl
  go_enter Tryz.func158, Tryz.ntmps158
  go_wp2
  go_ret
  exact ⟨rfl, rfl⟩

set_option maxRecDepth 20000 in
set_option maxHeartbeats 1000000 in
theorem withDay_any (w : World) (k : Bool) :
    Calls Tryz.prog 159 #[.bool k] w fun e w' => e = .returned (.func (.func 197) #[] #[.pointer (some ⟨w.heap.size, 0, none⟩)]) ∧ w' = w.alloc (.cells #[.bool k] 4 (0, 0)) := by
  have hmf : ∀ (fn : Fn) (first cap : Array Value) (w : World), (Instr.makeFunc fn first cap).run Tryz.prog w = .ok (.func fn first cap) w := fun _ _ _ _ => rfl
  go_enter Tryz.func159, Tryz.ntmps159
  go_wp2
  go_ret
  exact ⟨rfl, rfl⟩

theorem PF.setAt {W wr : World} {nb : Nat} {n x y : Int} {u t : Value} {L : List Mem} {P : List Bool} (h : PF W wr nb n x u t L P) : PF W (wr.setCell ⟨nb, 0, none⟩ (.int .i64 y)) nb y x u t L P :=
  ⟨four_set0 h.box, h.ou.kept (grown_set _ _ _ _) (.inr h.nu), h.ot.kept (grown_set _ _ _ _) (.inr h.nt), h.ap, h.nu, h.nt, h.new, grown_new h.grown (grown_set _ _ _ _) (fun c e => by injection e with e; have := h.new; omega)⟩
theorem PF.day {W wr w1 : World} {nb : Nat} {n x : Int} {u t t' : Value} {L : List Mem} {P Q : List Bool} (h : PF W wr nb n x u t L P) (ho : OwnG encB 4 w1 wr.heap.size t' Q) (hg : wr.grownBy w1 none) : PF W (w1.setCell ⟨nb, 3, none⟩ t') nb n x u t' L Q :=
  ⟨four_set3 (h.box.grown hg), (h.ou.grown hg).kept (grown_set _ _ _ _) (.inr h.nu), (ho.kept (grown_set _ _ _ _) (.inr (ho.off h.box.lt))).lower h.grown.size, ApartU.symm (apart_lt ho.lt h.ou.lt (Nat.le_refl _)), h.nu, ho.off h.box.lt, h.new, grown_new (grownN_trans h.grown hg) (grown_set _ _ _ _) (fun c e => by injection e with e; have := h.new; omega)⟩

set_option maxRecDepth 20000 in
set_option maxHeartbeats 1000000 in
theorem day_any (w : World) (b c : Nat) (n x : Int) (u t : Value) (st : Bool) (P : List Bool) (hb : Box w b #[.int .i64 n, .int .i64 x, u, t] 42) (hc : w.cell? ⟨c, 0, none⟩ = some (.bool st)) (ht : SeesG encB w t P) (hP : P.length ≤ 100000000) :
    Calls Tryz.prog 197 #[.pointer (some ⟨b, 0, none⟩), .pointer (some ⟨c, 0, none⟩)] w fun e w' => e = .returned (.tuple #[]) ∧ ∃ w1 ta tn tc, OwnG encB 4 w1 w.heap.size (.slice ta tn tc) (addDay P st) ∧ w.grownBy w1 none ∧ w' = w1.setCell ⟨b, 3, none⟩ (.slice ta tn tc) := by
  have HB := Lib.hid hb
  have HC := Lib.hid hc
  have HT := Lib.hid ht
  have HPP := Lib.hid hP
  have HD := Lib.hid (grown_drew (World.grownBy.refl w none))
  clear hb hc ht hP
  go_enter Tryz.func197, Tryz.ntmps197
  go_wp2_with fail
  refine Exc.region_E 9 (S := fun w' => w'.cell? ⟨b, 3, none⟩ = some t ∧ w'.cell? ⟨c, 0, none⟩ = some (.bool st)) (by kernel_rfl) ⟨(HB.out.grown HD.out).cell 3, HD.out.cell HC.out (by simp)⟩ (fun hHeld => ?_)
  refine Exc.take_W (i := 0) (v := ?_) rfl (by kernel_rfl) (by kernel_rfl) (by kernel_rfl) (by kernel_rfl) (fun _ _ _ h => h) (Or.inl ⟨by rfl, ?_⟩) (by first | exact (fun _ => by assumption) | exact (fun h => absurd h (by decide))) ?_; rotate_left; (focus (intro wS hSw; (try dsimp only at hSw); go_simp <;> with_reducible rfl)); (try simp only [Act.put, List.getElem_toArray, List.getElem_cons_succ, List.getElem_cons_zero, List.setIfInBounds_toArray, List.set_cons_zero, List.set_cons_succ])
  refine Exc.take_W (i := 1) (v := ?_) rfl (by kernel_rfl) (by kernel_rfl) (by kernel_rfl) (by kernel_rfl) (fun _ _ _ h => h) (Or.inl ⟨by rfl, ?_⟩) (by first | exact (fun _ => by assumption) | exact (fun h => absurd h (by decide))) ?_; rotate_left; (focus (intro wS hSw; (try dsimp only at hSw); go_simp <;> with_reducible rfl)); (try simp only [Act.put, List.getElem_toArray, List.getElem_cons_succ, List.getElem_cons_zero, List.setIfInBounds_toArray, List.set_cons_zero, List.set_cons_succ])
  refine Exc.take_W (i := 2) (v := ?_) rfl (by kernel_rfl) (by kernel_rfl) (by kernel_rfl) (by kernel_rfl) (fun _ _ _ h => h) (Or.inl ⟨by rfl, ?_⟩) (by first | exact (fun _ => by assumption) | exact (fun h => absurd h (by decide))) ?_; rotate_left; (focus (intro wS hSw; (try dsimp only at hSw); go_simp <;> with_reducible rfl)); (try simp only [Act.put, List.getElem_toArray, List.getElem_cons_succ, List.getElem_cons_zero, List.setIfInBounds_toArray, List.set_cons_zero, List.set_cons_succ])
  refine Exc.take_W (i := 3) (v := ?_) rfl (by kernel_rfl) (by kernel_rfl) (by kernel_rfl) (by kernel_rfl) (fun _ _ _ h => h) (Or.inl ⟨by rfl, ?_⟩) (by first | exact (fun _ => by assumption) | exact (fun h => absurd h (by decide))) ?_; rotate_left; (focus (intro wS hSw; (try dsimp only at hSw); go_simp <;> with_reducible rfl)); (try simp only [Act.put, List.getElem_toArray, List.getElem_cons_succ, List.getElem_cons_zero, List.setIfInBounds_toArray, List.set_cons_zero, List.set_cons_succ])
  refine Exc.take_E (i := 4) (v := ?_) rfl (by kernel_rfl) (by kernel_rfl) (by kernel_rfl) (by kernel_rfl) (by kernel_rfl) (by kernel_rfl) (fun _ _ _ h => h) (Or.inl ⟨by rfl, ?_⟩) (by assumption) ?_; rotate_left; (focus (intro wS hSw; (try dsimp only at hSw); go_simp <;> with_reducible rfl)); (try simp only [Act.put, List.getElem_toArray, List.getElem_cons_succ, List.getElem_cons_zero, List.setIfInBounds_toArray, List.set_cons_zero, List.set_cons_succ])
  refine Exc.take_E (i := 5) (v := ?_) rfl (by kernel_rfl) (by kernel_rfl) (by kernel_rfl) (by kernel_rfl) (by kernel_rfl) (by kernel_rfl) (fun _ _ _ h => h) (Or.inl ⟨by rfl, ?_⟩) (by assumption) ?_; rotate_left; (focus (intro wS hSw; (try dsimp only at hSw); go_simp <;> with_reducible rfl)); (try simp only [Act.put, List.getElem_toArray, List.getElem_cons_succ, List.getElem_cons_zero, List.setIfInBounds_toArray, List.set_cons_zero, List.set_cons_succ])
  refine Exc.ready_E (i := 6) (by kernel_rfl) rfl (fun K hK => ?_); go_simp; (go_at_call 198; refine (StI.iAddDay_any _ _ P st (HT.out.grown HD.out) HPP.out).mono ?_; rintro e v1 ⟨u, rfl, ho, hg⟩; obtain ⟨ua, un, uc, hu, HUN⟩ := ho.sees.shape; subst hu; have HO := Lib.hid ho; have HG := Lib.hid (grownN_trans HD.out hg); obtain ⟨e0, e1, e2, e3⟩ := four (HB.out.grown HG.out); have y3 := (HB.out.grown HG.out).free 3; clear ho hg)
  refine hK.out _ _ ?_ (fun hHeld => ?_)
  · exact ⟨(HB.out.grown HG.out).cell 3, HG.out.cell HC.out (by simp)⟩
  clear hK K
  (try simp only [Act.put, List.getElem_toArray, List.getElem_cons_succ, List.getElem_cons_zero, List.setIfInBounds_toArray, List.set_cons_zero, List.set_cons_succ])
  refine Exc.take_W (i := 7) (v := ?_) rfl (by kernel_rfl) (by kernel_rfl) (by kernel_rfl) (by kernel_rfl) (fun _ _ _ h => h) (Or.inl ⟨by rfl, ?_⟩) (by first | exact (fun _ => by assumption) | exact (fun h => absurd h (by decide))) ?_; rotate_left; (focus (intro wS hSw; (try dsimp only at hSw); go_simp <;> with_reducible rfl)); (try simp only [Act.put, List.getElem_toArray, List.getElem_cons_succ, List.getElem_cons_zero, List.setIfInBounds_toArray, List.set_cons_zero, List.set_cons_succ])
  refine Exc.take_W (i := 8) (v := ?_) rfl (by kernel_rfl) (by kernel_rfl) (by kernel_rfl) (by kernel_rfl) (fun _ _ _ h => h) (Or.inl ⟨by rfl, ?_⟩) (by first | exact (fun _ => by assumption) | exact (fun h => absurd h (by decide))) ?_; rotate_left; (focus (intro wS hSw; (try dsimp only at hSw); go_simp <;> with_reducible rfl)); (try simp only [Act.put, List.getElem_toArray, List.getElem_cons_succ, List.getElem_cons_zero, List.setIfInBounds_toArray, List.set_cons_zero, List.set_cons_succ])
  refine Exc.last_E (by kernel_rfl) rfl (by kernel_rfl) (fun K hK => ?_); go_simp
  refine hK.out _ _ ?_
  clear hK K
  (try simp only [Act.put, List.getElem_toArray, List.getElem_cons_succ, List.getElem_cons_zero, List.setIfInBounds_toArray, List.set_cons_zero, List.set_cons_succ])
  refine Exc.done_E (by kernel_rfl) ?_ _
  (try simp only [Act.put, List.getElem_toArray, List.getElem_cons_succ, List.getElem_cons_zero, List.setIfInBounds_toArray, List.set_cons_zero, List.set_cons_succ])
  go_wp2
  refine bodyPost_end (results_none rfl _ _ _) rfl ?_
  exact ⟨rfl, v1, ua, un, uc, HO.out.lower HD.out.size, HG.out, rfl⟩

set_option maxRecDepth 20000 in
set_option maxHeartbeats 4000000 in
theorem from2_any (w : World) (n f a : Int) (st : Bool) (cv pv : Value) (g ca da : Nat) (L : List Mem) (P : List Bool) (hc : SeesG encM w cv L) (hp : SeesG encB w pv P) (hL : L.length ≤ 1000000000) (hP : P.length ≤ 100000000)
    (hopt : Box w g #[.func (.func 196) #[] #[.pointer (some ⟨ca, 0, none⟩)], .func (.func 197) #[] #[.pointer (some ⟨da, 0, none⟩)]] 125 ∧ w.cell? ⟨ca, 0, none⟩ = some (.int .i64 a) ∧ w.cell? ⟨da, 0, none⟩ = some (.bool st)) :
    Calls Tryz.prog 102 #[.agg #[.int .i64 n, .int .i64 f, cv, pv], .slice (some ⟨g, 0, none⟩) 2 2] w fun e w' => ∃ u t, e = .returned (.agg #[.int .i64 a, .int .i64 f, u, t]) ∧ PartyOut w w' u t L (addDay P st) := by
  have g0 := World.grownBy_alloc w (.cells #[.int .i64 n, .int .i64 f, cv, pv] 42 (0, 0)) (none : Option Nat)
  have g1 := World.grownBy_alloc (w.alloc (.cells #[.int .i64 n, .int .i64 f, cv, pv] 42 (0, 0))) (.cells #[.int .i64 0, .int .i64 0, .slice none 0 0, .slice none 0 0] 42 (0, 0)) (none : Option Nat)
  have b0 := (box_new w #[.int .i64 n, .int .i64 f, cv, pv] 42).grown g1
  have b1 := box_new (w.alloc (.cells #[.int .i64 n, .int .i64 f, cv, pv] 42 (0, 0))) #[.int .i64 0, .int .i64 0, .slice none 0 0, .slice none 0 0] 42
  simp only [World.size_alloc] at b1
  have HG := Lib.hid (grownN_trans g0 g1)
  have HC := Lib.hid (hc.grown HG.out)
  have HP := Lib.hid (hp.grown HG.out)
  have HOP := Lib.hid hopt
  have B0 := Lib.hid b0
  have B1 := Lib.hid b1
  have HLL := Lib.hid hL
  have HPP := Lib.hid hP
  obtain ⟨c0, c1, c2, c3⟩ := four b0
  clear hc hp g0 g1 b0 b1 hopt hL hP
  go_enter Tryz.func102, Tryz.ntmps102
  go_wp2_with fail
  generalize (w.alloc (.cells #[.int .i64 n, .int .i64 f, cv, pv] 42 (0, 0))).alloc (.cells #[.int .i64 0, .int .i64 0, .slice none 0 0, .slice none 0 0] 42 (0, 0)) = W at *
  have hkeep : ∀ w', W.grownBy w' none → (w'.cell? ⟨w.heap.size, 0, none⟩ = some (.int .i64 n) ∧ w'.cell? ⟨w.heap.size, 1, none⟩ = some (.int .i64 f) ∧ w'.cell? ⟨w.heap.size, 2, none⟩ = some cv ∧ w'.cell? ⟨w.heap.size, 3, none⟩ = some pv) := fun w' g => four (B0.out.grown g)
  have hd := grown_drew (World.grownBy.refl W none)
  refine wp_region_held_drew (S := fun w' => w'.cell? ⟨w.heap.size, 0, none⟩ = some (.int .i64 n) ∧ w'.cell? ⟨w.heap.size, 1, none⟩ = some (.int .i64 f) ∧ w'.cell? ⟨w.heap.size, 2, none⟩ = some cv ∧ w'.cell? ⟨w.heap.size, 3, none⟩ = some pv) (by kernel_rfl) (hkeep _ hd) (fun hHeld => ?_)
  have HWX0 := Lib.hid hd
  clear hd
  generalize W.drew = X0 at *
  refine wpAnyH_take (i := 0) (v := ?_) rfl (by kernel_rfl) (by kernel_rfl) (by kernel_rfl) (fun _ _ _ h => h) (Or.inl ⟨by rfl, ?_⟩) (by assumption) ?_; rotate_left; (focus (intro wS hSw; (try dsimp only at hSw); go_simp <;> with_reducible rfl)); (try simp only [Act.put, List.getElem_toArray, List.getElem_cons_succ, List.getElem_cons_zero, List.setIfInBounds_toArray, List.set_cons_zero, List.set_cons_succ])
  refine wpAnyH_take (i := 1) (v := ?_) rfl (by kernel_rfl) (by kernel_rfl) (by kernel_rfl) (fun _ _ _ h => h) (Or.inl ⟨by rfl, ?_⟩) (by assumption) ?_; rotate_left; (focus (intro wS hSw; (try dsimp only at hSw); go_simp <;> with_reducible rfl)); (try simp only [Act.put, List.getElem_toArray, List.getElem_cons_succ, List.getElem_cons_zero, List.setIfInBounds_toArray, List.set_cons_zero, List.set_cons_succ])
  refine wpAnyH_take (i := 2) (v := ?_) rfl (by kernel_rfl) (by kernel_rfl) (by kernel_rfl) (fun _ _ _ h => h) (Or.inl ⟨by rfl, ?_⟩) (by assumption) ?_; rotate_left; (focus (intro wS hSw; (try dsimp only at hSw); go_simp <;> with_reducible rfl)); (try simp only [Act.put, List.getElem_toArray, List.getElem_cons_succ, List.getElem_cons_zero, List.setIfInBounds_toArray, List.set_cons_zero, List.set_cons_succ])
  refine wpAnyH_take (i := 3) (v := ?_) rfl (by kernel_rfl) (by kernel_rfl) (by kernel_rfl) (fun _ _ _ h => h) (Or.inl ⟨by rfl, ?_⟩) (by assumption) ?_; rotate_left; (focus (intro wS hSw; (try dsimp only at hSw); go_simp <;> with_reducible rfl)); (try simp only [Act.put, List.getElem_toArray, List.getElem_cons_succ, List.getElem_cons_zero, List.setIfInBounds_toArray, List.set_cons_zero, List.set_cons_succ])
  refine wpAnyH_take (i := 4) (v := ?_) rfl (by kernel_rfl) (by kernel_rfl) (by kernel_rfl) (fun _ _ _ h => h) (Or.inl ⟨by rfl, ?_⟩) (by assumption) ?_; rotate_left; (focus (intro wS hSw; (try dsimp only at hSw); go_simp <;> with_reducible rfl)); (try simp only [Act.put, List.getElem_toArray, List.getElem_cons_succ, List.getElem_cons_zero, List.setIfInBounds_toArray, List.set_cons_zero, List.set_cons_succ])
  refine wpAnyH_take (i := 5) (v := ?_) rfl (by kernel_rfl) (by kernel_rfl) (by kernel_rfl) (fun _ _ _ h => h) (Or.inl ⟨by rfl, ?_⟩) (by assumption) ?_; rotate_left; (focus (intro wS hSw; (try dsimp only at hSw); go_simp <;> with_reducible rfl)); (try simp only [Act.put, List.getElem_toArray, List.getElem_cons_succ, List.getElem_cons_zero, List.setIfInBounds_toArray, List.set_cons_zero, List.set_cons_succ])
  refine wpAnyH_take (i := 7) (v := ?_) rfl (by kernel_rfl) (by kernel_rfl) (by kernel_rfl) (fun _ _ _ h => h) (Or.inl ⟨by rfl, ?_⟩) (by assumption) ?_; rotate_left; (focus (intro wS hSw; (try dsimp only at hSw); go_simp <;> with_reducible rfl)); (try simp only [Act.put, List.getElem_toArray, List.getElem_cons_succ, List.getElem_cons_zero, List.setIfInBounds_toArray, List.set_cons_zero, List.set_cons_succ])
  refine wpAnyH_take (i := 8) (v := ?_) rfl (by kernel_rfl) (by kernel_rfl) (by kernel_rfl) (fun _ _ _ h => h) (Or.inl ⟨by rfl, ?_⟩) (by assumption) ?_; rotate_left; (focus (intro wS hSw; (try dsimp only at hSw); go_simp <;> with_reducible rfl)); (try simp only [Act.put, List.getElem_toArray, List.getElem_cons_succ, List.getElem_cons_zero, List.setIfInBounds_toArray, List.set_cons_zero, List.set_cons_succ])
  refine wpAnyH_ready (rs := [6, 11]) (by kernel_rfl) (by simp) ?_
  refine AllReadyH.cons rfl (fun K hK => ?_) (AllReadyH.cons rfl (fun K hK => ?_) AllReadyH.nil)
  · go_simp
    go_at_call 151
    refine (cloneM_any X0 cv L (HC.out.grown HWX0.out) HLL.out).mono ?_
    rintro e x1 ⟨u, rfl, ho, gn⟩
    have HOux1 := Lib.hid (ho.lower HWX0.out.size)
    have HWx1 := Lib.hid (grownN_trans HWX0.out gn)
    refine hK.out _ _ ?_ (fun hHeld => ?_)
    · exact hkeep _ HWx1.out
    clear hK K
    (try simp only [Act.put, List.getElem_toArray, List.getElem_cons_succ, List.getElem_cons_zero, List.setIfInBounds_toArray, List.set_cons_zero, List.set_cons_succ])
    refine wpAnyH_ready (rs := [9, 11]) (by kernel_rfl) (by simp) ?_
    refine AllReadyH.cons rfl (fun K hK => ?_) (AllReadyH.cons rfl (fun K hK => ?_) AllReadyH.nil)
    · go_simp
      go_at_call 152
      refine (cloneB_any x1 pv P (HP.out.grown HWx1.out) (by have := HPP.out; omega)).mono ?_
      rintro e x2 ⟨t, rfl, ho, gn⟩
      have HOtx2 := Lib.hid (ho.lower HWx1.out.size)
      have HAPx2 : Hid (ApartU u t) := ApartU.symm (apart_lt ho.lt HOux1.out.lt (Nat.le_refl _))
      have HWx2 := Lib.hid (grownN_trans HWx1.out gn)
      have HOux2 := Lib.hid (HOux1.out.grown gn)
      refine hK.out _ _ ?_ (fun hHeld => ?_)
      · exact hkeep _ HWx2.out
      clear hK K
      (try simp only [Act.put, List.getElem_toArray, List.getElem_cons_succ, List.getElem_cons_zero, List.setIfInBounds_toArray, List.set_cons_zero, List.set_cons_succ])
      have hsu := HOux2.out.sees.shape
      have hst := HOtx2.out.sees.shape
      obtain ⟨ua, un, uc, hu, HUN⟩ := hsu
      obtain ⟨ta, tn, tc, ht, HTN⟩ := hst
      subst hu
      subst ht
      refine wpAnyH_take (i := 10) (v := ?_) rfl (by kernel_rfl) (by kernel_rfl) (by kernel_rfl) (fun _ _ _ h => h) (Or.inl ⟨by rfl, ?_⟩) (by assumption) ?_; rotate_left; (focus (intro wS hSw; (try dsimp only at hSw); go_simp <;> with_reducible rfl)); (try simp only [Act.put, List.getElem_toArray, List.getElem_cons_succ, List.getElem_cons_zero, List.setIfInBounds_toArray, List.set_cons_zero, List.set_cons_succ])
      refine wpAnyH_ready (rs := [11]) (by kernel_rfl) (by simp) ?_
      refine AllReadyH.cons rfl (fun K hK => ?_) AllReadyH.nil
      · go_simp
        have gn := World.grownBy_alloc x2 (.cells #[.int .i64 0, .int .i64 0, .slice none 0 0, .slice none 0 0] 42 (0, 0)) (none : Option Nat)
        have hn := box_new x2 #[.int .i64 0, .int .i64 0, .slice none 0 0, .slice none 0 0] 42
        have HNL := Lib.hid HWx2.out.size
        have HNUx3 : Hid ((Value.slice ua un uc).ownBlock ≠ some x2.heap.size) := fun e => by have := (HOux2.out.lt _ e).2; omega
        have HNTx3 : Hid ((Value.slice ta tn tc).ownBlock ≠ some x2.heap.size) := fun e => by have := (HOtx2.out.lt _ e).2; omega
        generalize x2.alloc (.cells #[.int .i64 0, .int .i64 0, .slice none 0 0, .slice none 0 0] 42 (0, 0)) = x3 at *
        generalize x2.heap.size = nb at *
        have HNBx3 := Lib.hid hn
        have HWx3 := Lib.hid (grownN_trans HWx2.out gn)
        have HOux3 := Lib.hid (HOux2.out.grown gn)
        have HOtx3 := Lib.hid (HOtx2.out.grown gn)
        have HAPx3 := HAPx2
        refine hK.out _ _ ?_ (fun hHeld => ?_)
        · exact hkeep _ HWx3.out
        clear hK K
        (try simp only [Act.put, List.getElem_toArray, List.getElem_cons_succ, List.getElem_cons_zero, List.setIfInBounds_toArray, List.set_cons_zero, List.set_cons_succ])
        obtain ⟨⟨p0, r0⟩, ⟨p1, r1⟩, ⟨p2, r2⟩, ⟨p3, r3⟩⟩ := put4_on HNBx3.out (.int .i64 n) (.int .i64 f) (.slice ua un uc) (.slice ta tn tc)
        have hpf : PF W (put4 x3 nb (.int .i64 n) (.int .i64 f) (.slice ua un uc) (.slice ta tn tc)) nb n f (.slice ua un uc) (.slice ta tn tc) L P := PF.fill HNBx3.out HOux3.out HOtx3.out HAPx3.out HNUx3.out HNTx3.out HNL.out HWx3.out
        have hb0lt := B0.out.lt
        have hnl := HNL.out
        refine wpAnyH_ready (rs := [12]) (by kernel_rfl) (by simp) ?_
        refine AllReadyH.cons rfl (fun K hK => ?_) AllReadyH.nil
        go_simp
        refine hK.out _ _ ?_ (fun hHeld => ?_)
        · exact hkeep _ hpf.grown
        clear hK K
        refine wpAnyH_done (by kernel_rfl) ?_ _
        (try simp only [Act.put, List.getElem_toArray, List.getElem_cons_succ, List.getElem_cons_zero, List.setIfInBounds_toArray, List.set_cons_zero, List.set_cons_succ])
        replace hpf := Lib.hid hpf
        change Hid (PF W ((((x3.setCell ⟨nb, 0, none⟩ (.int .i64 n)).setCell ⟨nb, 1, none⟩ (.int .i64 f)).setCell ⟨nb, 2, none⟩ (.slice ua un uc)).setCell ⟨nb, 3, none⟩ (.slice ta tn tc)) nb n f (.slice ua un uc) (.slice ta tn tc) L P) at hpf
        generalize (((x3.setCell ⟨nb, 0, none⟩ (.int .i64 n)).setCell ⟨nb, 1, none⟩ (.int .i64 f)).setCell ⟨nb, 2, none⟩ (.slice ua un uc)).setCell ⟨nb, 3, none⟩ (.slice ta tn tc) = Y at *
        clear p0 r0 p1 r1 p2 r2 p3 r3 hHeld hnl hb0lt hkeep c0 c1 c2 c3
        go_wp2_with fail
        go_loopw [21] (fun i wr => (i = .int .i64 0 ∧ Hid (PF W wr nb n f (.slice ua un uc) (.slice ta tn tc) L P)) ∨ (i = .int .i64 1 ∧ Hid (PF W wr nb a f (.slice ua un uc) (.slice ta tn tc) L P)) ∨ (i = .int .i64 2 ∧ ∃ xa xn xc, Hid (PF W wr nb a f (.slice ua un uc) (.slice xa xn xc) L (addDay P st)))) (fun i _ => 2 - (intOf i).toNat)
        case atStart => exact .inl ⟨rfl, hpf⟩
        case round =>
          rcases hrel with ⟨rfl, HN⟩ | ⟨rfl, HN⟩ | ⟨rfl, xa, xn, xc, HN⟩
          · have cf := ((HOP.out.1.grown HG.out).grown HN.out.grown).cell 0
            have cc := HN.out.grown.cell (HG.out.cell HOP.out.2.1 (by simp)) (by simp)
            have HCC := Lib.hid cc
            clear cc
            go_wp2_with fail
            refine (cell_any wr nb ca n f a _ _ HN.out.box HCC.out).mono ?_
            rintro e w' ⟨rfl, rfl⟩
            have HN2 := Lib.hid (PF.setAt (y := a) HN.out)
            clear HN
            go_wp2
            go_roundw
            case rel => exact .inr (.inl ⟨rfl, HN2⟩)
            case measure => simp [intOf]
          · have cf := ((HOP.out.1.grown HG.out).grown HN.out.grown).cell 1
            have cc := HN.out.grown.cell (HG.out.cell HOP.out.2.2 (by simp)) (by simp)
            have HCC := Lib.hid cc
            clear cc
            go_wp2_with fail
            refine (day_any wr nb da a f _ _ st P HN.out.box HCC.out HN.out.ot.sees (by have := HPP.out; omega)).mono ?_
            rintro e w' ⟨rfl, w1, xa, xn, xc, ho, hg, rfl⟩
            have HN2 := Lib.hid (PF.day HN.out ho hg)
            clear HN ho hg
            go_wp2
            go_roundw
            case rel => exact .inr (.inr ⟨rfl, _, _, _, HN2⟩)
            case measure => simp [intOf]
          · obtain ⟨c0, c1, c2, c3⟩ := four HN.out.box
            have HB := Lib.hid (B1.out.grown HN.out.grown)
            obtain ⟨⟨p0, r0⟩, ⟨p1, r1⟩, ⟨p2, r2⟩, ⟨p3, r3⟩⟩ := put4_on HB.out (.int .i64 a) (.int .i64 f) (.slice ua un uc) (.slice xa xn xc)
            go_wp2
            try simp only [Exit.inBlock, Exit.then]
            have hP4 := put4_grown wr (w.heap.size + 1) (.int .i64 a) (.int .i64 f) (.slice ua un uc) (.slice xa xn xc)
            have hlt := B1.out.lt
            refine ret_box rfl rfl (put4_box (x' := .int .i64 a) (y' := .int .i64 f) (z' := (.slice ua un uc)) (u' := (.slice xa xn xc)) HB.out) Tryz.underlying42 rfl (by kernel_rfl) rfl ?_
            exact ⟨(.slice ua un uc), (.slice xa xn xc), rfl, (HN.out.ou.kept hP4 (.inr (HN.out.ou.off (by omega)))).lower (by omega), (HN.out.ot.kept hP4 (.inr (HN.out.ot.off (by omega)))).lower (by omega), HN.out.ap, grown_new (grownN_trans HG.out HN.out.grown) hP4 (fun c h => by injection h with h; omega)⟩
    · go_simp
      have gn := World.grownBy_alloc x1 (.cells #[.int .i64 0, .int .i64 0, .slice none 0 0, .slice none 0 0] 42 (0, 0)) (none : Option Nat)
      have hn := box_new x1 #[.int .i64 0, .int .i64 0, .slice none 0 0, .slice none 0 0] 42
      have HNL := Lib.hid HWx1.out.size
      have HNUx2 : Hid (u.ownBlock ≠ some x1.heap.size) := fun e => by have := (HOux1.out.lt _ e).2; omega
      generalize x1.alloc (.cells #[.int .i64 0, .int .i64 0, .slice none 0 0, .slice none 0 0] 42 (0, 0)) = x2 at *
      generalize x1.heap.size = nb at *
      have HNBx2 := Lib.hid hn
      have HWx2 := Lib.hid (grownN_trans HWx1.out gn)
      have HOux2 := Lib.hid (HOux1.out.grown gn)
      refine hK.out _ _ ?_ (fun hHeld => ?_)
      · exact hkeep _ HWx2.out
      clear hK K
      (try simp only [Act.put, List.getElem_toArray, List.getElem_cons_succ, List.getElem_cons_zero, List.setIfInBounds_toArray, List.set_cons_zero, List.set_cons_succ])
      refine wpAnyH_ready (rs := [9]) (by kernel_rfl) (by simp) ?_
      refine AllReadyH.cons rfl (fun K hK => ?_) AllReadyH.nil
      · go_simp
        go_at_call 152
        refine (cloneB_any x2 pv P (HP.out.grown HWx2.out) (by have := HPP.out; omega)).mono ?_
        rintro e x3 ⟨t, rfl, ho, gn⟩
        have HOtx3 := Lib.hid (ho.lower HWx2.out.size)
        have HNBx3 := Lib.hid (HNBx2.out.grown gn)
        have HNTx3 := Lib.hid (ho.off HNBx2.out.lt)
        have HAPx3 : Hid (ApartU u t) := ApartU.symm (apart_lt ho.lt HOux2.out.lt (Nat.le_refl _))
        have HWx3 := Lib.hid (grownN_trans HWx2.out gn)
        have HOux3 := Lib.hid (HOux2.out.grown gn)
        have HNUx3 := HNUx2
        refine hK.out _ _ ?_ (fun hHeld => ?_)
        · exact hkeep _ HWx3.out
        clear hK K
        (try simp only [Act.put, List.getElem_toArray, List.getElem_cons_succ, List.getElem_cons_zero, List.setIfInBounds_toArray, List.set_cons_zero, List.set_cons_succ])
        have hsu := HOux3.out.sees.shape
        have hst := HOtx3.out.sees.shape
        obtain ⟨ua, un, uc, hu, HUN⟩ := hsu
        obtain ⟨ta, tn, tc, ht, HTN⟩ := hst
        subst hu
        subst ht
        refine wpAnyH_take (i := 10) (v := ?_) rfl (by kernel_rfl) (by kernel_rfl) (by kernel_rfl) (fun _ _ _ h => h) (Or.inl ⟨by rfl, ?_⟩) (by assumption) ?_; rotate_left; (focus (intro wS hSw; (try dsimp only at hSw); go_simp <;> with_reducible rfl)); (try simp only [Act.put, List.getElem_toArray, List.getElem_cons_succ, List.getElem_cons_zero, List.setIfInBounds_toArray, List.set_cons_zero, List.set_cons_succ])
        obtain ⟨⟨p0, r0⟩, ⟨p1, r1⟩, ⟨p2, r2⟩, ⟨p3, r3⟩⟩ := put4_on HNBx3.out (.int .i64 n) (.int .i64 f) (.slice ua un uc) (.slice ta tn tc)
        have hpf : PF W (put4 x3 nb (.int .i64 n) (.int .i64 f) (.slice ua un uc) (.slice ta tn tc)) nb n f (.slice ua un uc) (.slice ta tn tc) L P := PF.fill HNBx3.out HOux3.out HOtx3.out HAPx3.out HNUx3.out HNTx3.out HNL.out HWx3.out
        have hb0lt := B0.out.lt
        have hnl := HNL.out
        refine wpAnyH_ready (rs := [12]) (by kernel_rfl) (by simp) ?_
        refine AllReadyH.cons rfl (fun K hK => ?_) AllReadyH.nil
        go_simp
        refine hK.out _ _ ?_ (fun hHeld => ?_)
        · exact hkeep _ hpf.grown
        clear hK K
        refine wpAnyH_done (by kernel_rfl) ?_ _
        (try simp only [Act.put, List.getElem_toArray, List.getElem_cons_succ, List.getElem_cons_zero, List.setIfInBounds_toArray, List.set_cons_zero, List.set_cons_succ])
        replace hpf := Lib.hid hpf
        change Hid (PF W ((((x3.setCell ⟨nb, 0, none⟩ (.int .i64 n)).setCell ⟨nb, 1, none⟩ (.int .i64 f)).setCell ⟨nb, 2, none⟩ (.slice ua un uc)).setCell ⟨nb, 3, none⟩ (.slice ta tn tc)) nb n f (.slice ua un uc) (.slice ta tn tc) L P) at hpf
        generalize (((x3.setCell ⟨nb, 0, none⟩ (.int .i64 n)).setCell ⟨nb, 1, none⟩ (.int .i64 f)).setCell ⟨nb, 2, none⟩ (.slice ua un uc)).setCell ⟨nb, 3, none⟩ (.slice ta tn tc) = Y at *
        clear p0 r0 p1 r1 p2 r2 p3 r3 hHeld hnl hb0lt hkeep c0 c1 c2 c3
        go_wp2_with fail
        go_loopw [21] (fun i wr => (i = .int .i64 0 ∧ Hid (PF W wr nb n f (.slice ua un uc) (.slice ta tn tc) L P)) ∨ (i = .int .i64 1 ∧ Hid (PF W wr nb a f (.slice ua un uc) (.slice ta tn tc) L P)) ∨ (i = .int .i64 2 ∧ ∃ xa xn xc, Hid (PF W wr nb a f (.slice ua un uc) (.slice xa xn xc) L (addDay P st)))) (fun i _ => 2 - (intOf i).toNat)
        case atStart => exact .inl ⟨rfl, hpf⟩
        case round =>
          rcases hrel with ⟨rfl, HN⟩ | ⟨rfl, HN⟩ | ⟨rfl, xa, xn, xc, HN⟩
          · have cf := ((HOP.out.1.grown HG.out).grown HN.out.grown).cell 0
            have cc := HN.out.grown.cell (HG.out.cell HOP.out.2.1 (by simp)) (by simp)
            have HCC := Lib.hid cc
            clear cc
            go_wp2_with fail
            refine (cell_any wr nb ca n f a _ _ HN.out.box HCC.out).mono ?_
            rintro e w' ⟨rfl, rfl⟩
            have HN2 := Lib.hid (PF.setAt (y := a) HN.out)
            clear HN
            go_wp2
            go_roundw
            case rel => exact .inr (.inl ⟨rfl, HN2⟩)
            case measure => simp [intOf]
          · have cf := ((HOP.out.1.grown HG.out).grown HN.out.grown).cell 1
            have cc := HN.out.grown.cell (HG.out.cell HOP.out.2.2 (by simp)) (by simp)
            have HCC := Lib.hid cc
            clear cc
            go_wp2_with fail
            refine (day_any wr nb da a f _ _ st P HN.out.box HCC.out HN.out.ot.sees (by have := HPP.out; omega)).mono ?_
            rintro e w' ⟨rfl, w1, xa, xn, xc, ho, hg, rfl⟩
            have HN2 := Lib.hid (PF.day HN.out ho hg)
            clear HN ho hg
            go_wp2
            go_roundw
            case rel => exact .inr (.inr ⟨rfl, _, _, _, HN2⟩)
            case measure => simp [intOf]
          · obtain ⟨c0, c1, c2, c3⟩ := four HN.out.box
            have HB := Lib.hid (B1.out.grown HN.out.grown)
            obtain ⟨⟨p0, r0⟩, ⟨p1, r1⟩, ⟨p2, r2⟩, ⟨p3, r3⟩⟩ := put4_on HB.out (.int .i64 a) (.int .i64 f) (.slice ua un uc) (.slice xa xn xc)
            go_wp2
            try simp only [Exit.inBlock, Exit.then]
            have hP4 := put4_grown wr (w.heap.size + 1) (.int .i64 a) (.int .i64 f) (.slice ua un uc) (.slice xa xn xc)
            have hlt := B1.out.lt
            refine ret_box rfl rfl (put4_box (x' := .int .i64 a) (y' := .int .i64 f) (z' := (.slice ua un uc)) (u' := (.slice xa xn xc)) HB.out) Tryz.underlying42 rfl (by kernel_rfl) rfl ?_
            exact ⟨(.slice ua un uc), (.slice xa xn xc), rfl, (HN.out.ou.kept hP4 (.inr (HN.out.ou.off (by omega)))).lower (by omega), (HN.out.ot.kept hP4 (.inr (HN.out.ot.off (by omega)))).lower (by omega), HN.out.ap, grown_new (grownN_trans HG.out HN.out.grown) hP4 (fun c h => by injection h with h; omega)⟩
  · go_simp
    have gn := World.grownBy_alloc X0 (.cells #[.int .i64 0, .int .i64 0, .slice none 0 0, .slice none 0 0] 42 (0, 0)) (none : Option Nat)
    have hn := box_new X0 #[.int .i64 0, .int .i64 0, .slice none 0 0, .slice none 0 0] 42
    have HNL := Lib.hid HWX0.out.size
    generalize X0.alloc (.cells #[.int .i64 0, .int .i64 0, .slice none 0 0, .slice none 0 0] 42 (0, 0)) = x1 at *
    generalize X0.heap.size = nb at *
    have HNBx1 := Lib.hid hn
    have HWx1 := Lib.hid (grownN_trans HWX0.out gn)
    refine hK.out _ _ ?_ (fun hHeld => ?_)
    · exact hkeep _ HWx1.out
    clear hK K
    (try simp only [Act.put, List.getElem_toArray, List.getElem_cons_succ, List.getElem_cons_zero, List.setIfInBounds_toArray, List.set_cons_zero, List.set_cons_succ])
    refine wpAnyH_ready (rs := [6]) (by kernel_rfl) (by simp) ?_
    refine AllReadyH.cons rfl (fun K hK => ?_) AllReadyH.nil
    · go_simp
      go_at_call 151
      refine (cloneM_any x1 cv L (HC.out.grown HWx1.out) HLL.out).mono ?_
      rintro e x2 ⟨u, rfl, ho, gn⟩
      have HOux2 := Lib.hid (ho.lower HWx1.out.size)
      have HNBx2 := Lib.hid (HNBx1.out.grown gn)
      have HNUx2 := Lib.hid (ho.off HNBx1.out.lt)
      have HWx2 := Lib.hid (grownN_trans HWx1.out gn)
      refine hK.out _ _ ?_ (fun hHeld => ?_)
      · exact hkeep _ HWx2.out
      clear hK K
      (try simp only [Act.put, List.getElem_toArray, List.getElem_cons_succ, List.getElem_cons_zero, List.setIfInBounds_toArray, List.set_cons_zero, List.set_cons_succ])
      refine wpAnyH_ready (rs := [9]) (by kernel_rfl) (by simp) ?_
      refine AllReadyH.cons rfl (fun K hK => ?_) AllReadyH.nil
      · go_simp
        go_at_call 152
        refine (cloneB_any x2 pv P (HP.out.grown HWx2.out) (by have := HPP.out; omega)).mono ?_
        rintro e x3 ⟨t, rfl, ho, gn⟩
        have HOtx3 := Lib.hid (ho.lower HWx2.out.size)
        have HNBx3 := Lib.hid (HNBx2.out.grown gn)
        have HNTx3 := Lib.hid (ho.off HNBx2.out.lt)
        have HAPx3 : Hid (ApartU u t) := ApartU.symm (apart_lt ho.lt HOux2.out.lt (Nat.le_refl _))
        have HWx3 := Lib.hid (grownN_trans HWx2.out gn)
        have HOux3 := Lib.hid (HOux2.out.grown gn)
        have HNUx3 := HNUx2
        refine hK.out _ _ ?_ (fun hHeld => ?_)
        · exact hkeep _ HWx3.out
        clear hK K
        (try simp only [Act.put, List.getElem_toArray, List.getElem_cons_succ, List.getElem_cons_zero, List.setIfInBounds_toArray, List.set_cons_zero, List.set_cons_succ])
        have hsu := HOux3.out.sees.shape
        have hst := HOtx3.out.sees.shape
        obtain ⟨ua, un, uc, hu, HUN⟩ := hsu
        obtain ⟨ta, tn, tc, ht, HTN⟩ := hst
        subst hu
        subst ht
        refine wpAnyH_take (i := 10) (v := ?_) rfl (by kernel_rfl) (by kernel_rfl) (by kernel_rfl) (fun _ _ _ h => h) (Or.inl ⟨by rfl, ?_⟩) (by assumption) ?_; rotate_left; (focus (intro wS hSw; (try dsimp only at hSw); go_simp <;> with_reducible rfl)); (try simp only [Act.put, List.getElem_toArray, List.getElem_cons_succ, List.getElem_cons_zero, List.setIfInBounds_toArray, List.set_cons_zero, List.set_cons_succ])
        obtain ⟨⟨p0, r0⟩, ⟨p1, r1⟩, ⟨p2, r2⟩, ⟨p3, r3⟩⟩ := put4_on HNBx3.out (.int .i64 n) (.int .i64 f) (.slice ua un uc) (.slice ta tn tc)
        have hpf : PF W (put4 x3 nb (.int .i64 n) (.int .i64 f) (.slice ua un uc) (.slice ta tn tc)) nb n f (.slice ua un uc) (.slice ta tn tc) L P := PF.fill HNBx3.out HOux3.out HOtx3.out HAPx3.out HNUx3.out HNTx3.out HNL.out HWx3.out
        have hb0lt := B0.out.lt
        have hnl := HNL.out
        refine wpAnyH_ready (rs := [12]) (by kernel_rfl) (by simp) ?_
        refine AllReadyH.cons rfl (fun K hK => ?_) AllReadyH.nil
        go_simp
        refine hK.out _ _ ?_ (fun hHeld => ?_)
        · exact hkeep _ hpf.grown
        clear hK K
        refine wpAnyH_done (by kernel_rfl) ?_ _
        (try simp only [Act.put, List.getElem_toArray, List.getElem_cons_succ, List.getElem_cons_zero, List.setIfInBounds_toArray, List.set_cons_zero, List.set_cons_succ])
        replace hpf := Lib.hid hpf
        change Hid (PF W ((((x3.setCell ⟨nb, 0, none⟩ (.int .i64 n)).setCell ⟨nb, 1, none⟩ (.int .i64 f)).setCell ⟨nb, 2, none⟩ (.slice ua un uc)).setCell ⟨nb, 3, none⟩ (.slice ta tn tc)) nb n f (.slice ua un uc) (.slice ta tn tc) L P) at hpf
        generalize (((x3.setCell ⟨nb, 0, none⟩ (.int .i64 n)).setCell ⟨nb, 1, none⟩ (.int .i64 f)).setCell ⟨nb, 2, none⟩ (.slice ua un uc)).setCell ⟨nb, 3, none⟩ (.slice ta tn tc) = Y at *
        clear p0 r0 p1 r1 p2 r2 p3 r3 hHeld hnl hb0lt hkeep c0 c1 c2 c3
        go_wp2_with fail
        go_loopw [21] (fun i wr => (i = .int .i64 0 ∧ Hid (PF W wr nb n f (.slice ua un uc) (.slice ta tn tc) L P)) ∨ (i = .int .i64 1 ∧ Hid (PF W wr nb a f (.slice ua un uc) (.slice ta tn tc) L P)) ∨ (i = .int .i64 2 ∧ ∃ xa xn xc, Hid (PF W wr nb a f (.slice ua un uc) (.slice xa xn xc) L (addDay P st)))) (fun i _ => 2 - (intOf i).toNat)
        case atStart => exact .inl ⟨rfl, hpf⟩
        case round =>
          rcases hrel with ⟨rfl, HN⟩ | ⟨rfl, HN⟩ | ⟨rfl, xa, xn, xc, HN⟩
          · have cf := ((HOP.out.1.grown HG.out).grown HN.out.grown).cell 0
            have cc := HN.out.grown.cell (HG.out.cell HOP.out.2.1 (by simp)) (by simp)
            have HCC := Lib.hid cc
            clear cc
            go_wp2_with fail
            refine (cell_any wr nb ca n f a _ _ HN.out.box HCC.out).mono ?_
            rintro e w' ⟨rfl, rfl⟩
            have HN2 := Lib.hid (PF.setAt (y := a) HN.out)
            clear HN
            go_wp2
            go_roundw
            case rel => exact .inr (.inl ⟨rfl, HN2⟩)
            case measure => simp [intOf]
          · have cf := ((HOP.out.1.grown HG.out).grown HN.out.grown).cell 1
            have cc := HN.out.grown.cell (HG.out.cell HOP.out.2.2 (by simp)) (by simp)
            have HCC := Lib.hid cc
            clear cc
            go_wp2_with fail
            refine (day_any wr nb da a f _ _ st P HN.out.box HCC.out HN.out.ot.sees (by have := HPP.out; omega)).mono ?_
            rintro e w' ⟨rfl, w1, xa, xn, xc, ho, hg, rfl⟩
            have HN2 := Lib.hid (PF.day HN.out ho hg)
            clear HN ho hg
            go_wp2
            go_roundw
            case rel => exact .inr (.inr ⟨rfl, _, _, _, HN2⟩)
            case measure => simp [intOf]
          · obtain ⟨c0, c1, c2, c3⟩ := four HN.out.box
            have HB := Lib.hid (B1.out.grown HN.out.grown)
            obtain ⟨⟨p0, r0⟩, ⟨p1, r1⟩, ⟨p2, r2⟩, ⟨p3, r3⟩⟩ := put4_on HB.out (.int .i64 a) (.int .i64 f) (.slice ua un uc) (.slice xa xn xc)
            go_wp2
            try simp only [Exit.inBlock, Exit.then]
            have hP4 := put4_grown wr (w.heap.size + 1) (.int .i64 a) (.int .i64 f) (.slice ua un uc) (.slice xa xn xc)
            have hlt := B1.out.lt
            refine ret_box rfl rfl (put4_box (x' := .int .i64 a) (y' := .int .i64 f) (z' := (.slice ua un uc)) (u' := (.slice xa xn xc)) HB.out) Tryz.underlying42 rfl (by kernel_rfl) rfl ?_
            exact ⟨(.slice ua un uc), (.slice xa xn xc), rfl, (HN.out.ou.kept hP4 (.inr (HN.out.ou.off (by omega)))).lower (by omega), (HN.out.ot.kept hP4 (.inr (HN.out.ot.off (by omega)))).lower (by omega), HN.out.ap, grown_new (grownN_trans HG.out HN.out.grown) hP4 (fun c h => by injection h with h; omega)⟩
end Go.Proofs.YtonalkamfgpokaaGreat.Pe2
