/- Contracts of the program's functions on watches. -/
import Derived.Test.YtfdadeiemfmgkaaWatI
import Derived.Test.YtfdadeiemfmgkaaMin
import Derived.Deep.RegionHeld3
namespace Go.Proofs.Ytfdadeiemfmgkaa.WatI
open Go.RowKit Kit Rw Rg Crw Wat Tw CrI

theorem tIn {h : List Int} {id : Int} {p : Nat} (hp : place h id 0 = p) : tF h id = p ∧ tR h id = h.length ∧ decide (0 ≤ place h id 0) = true := ⟨by unfold tF; rw [if_pos (by omega), hp], by unfold tR; rw [if_pos (by omega)], decide_eq_true (by omega)⟩
theorem tOut {h : List Int} {id : Int} (hp : place h id 0 = -1) : tF h id = 0 ∧ tR h id = 0 ∧ decide (0 ≤ place h id 0) = false := ⟨by unfold tF; rw [if_neg (by omega)], by unfold tR; rw [if_neg (by omega)], decide_eq_false (by omega)⟩

set_option maxRecDepth 20000 in
set_option maxHeartbeats 1000000 in
theorem iAt_any (w : World) (v : Value) (L : List Mem) (t : Int) (ht : -9223372036854775808 ≤ t ∧ t ≤ 9223372036854775807) (hv : SeesG encM w v L) (hn : L.length ≤ 1000000000) :
    Calls Try.prog 23 #[v, .int .i64 t] w fun e w' => e = .returned (.int .i64 (at_ (ring L) t)) ∧ w.grownBy w' none := by
  have HH := Lib.hid (ring_any w v L hv hn)
  clear hv hn
  go_enter Try.func23, Try.ntmps23
  go_wp2_with fail
  refine HH.out.mono ?_
  rintro e w2 ⟨u, rfl, ho, hg⟩
  have HG := Lib.hid hg
  have HO := Lib.hid ho.sees
  clear ho hg
  obtain ⟨a, n, cap, rfl, HN⟩ := HO.out.shape
  by_cases h0 : n = 0
  · subst h0
    have HR : Hid (at_ (ring L) t = 0) := by show _ = _; unfold at_; rw [if_pos (.inl HN.out)]
    go_wp2
    go_ret
    exact ⟨ret_i64 HR.out.symm, HG.out⟩
  · have hb : ((n : Int) == 0) = false := by simp; omega
    by_cases h1 : t < 0
    · have HR : Hid (at_ (ring L) t = 0) := by show _ = _; unfold at_; rw [if_pos (.inr h1)]
      go_wp2
      go_ret
      exact ⟨ret_i64 HR.out.symm, HG.out⟩
    · obtain ⟨q, rfl⟩ : ∃ q : Nat, t = q := ⟨t.toNat, by omega⟩
      obtain ⟨r, hr⟩ : ∃ r, r = q % n := ⟨_, rfl⟩
      have hrn : r < n := by rw [hr]; exact Nat.mod_lt _ (by omega)
      have hm : Int.tmod (q : Int) (n : Int) = (r : Int) := by rw [hr]; rfl
      have HR : Hid (at_ (ring L) q = (ring L).getD r 0) := by
        show _ = _
        unfold at_; rw [if_neg (by rw [HN.out]; omega), HN.out, hr]; rfl
      obtain ⟨b, o, rfl, hcj⟩ := HO.out.at_row (j := r) (by rw [HN.out]; exact hrn)
      clear hr
      go_wp2
      go_ret
      exact ⟨ret_i64 HR.out.symm, HG.out⟩

set_option maxHeartbeats 400000 in
theorem ceil_any (a b : Int) (w : World) (ha : 0 ≤ a ∧ a ≤ 2000) (hb : 1 ≤ b ∧ b ≤ 8) :
    Calls Try.prog 64 #[.int .i64 a, .int .i64 b] w fun e w' => e = .returned (.int .i64 (cdiv a b)) ∧ w = w' := by
  have h1 : inb a 0 1000000000000 = true := decide_eq_true (by omega)
  have h2 : inb b 1 1000000000000 = true := decide_eq_true (by omega)
  have hq : Int.tdiv (a + b - 1) b = cdiv a b := by unfold cdiv; exact Int.tdiv_eq_ediv_of_nonneg (by omega)
  have hc : 0 ≤ cdiv a b ∧ cdiv a b ≤ 3000 := by
    unfold cdiv
    refine ⟨Int.ediv_nonneg (by omega) (by omega), ?_⟩
    have := Int.ediv_le_self b (show 0 ≤ a + b - 1 by omega)
    omega
  go_enter Try.func64, Try.ntmps64
  go_wp2_with (go_at_call 63; refine (inR_b _ _ _ _).mono ?_; rintro e w' ⟨rfl, rfl⟩)
  go_ret
  exact ⟨rfl, rfl⟩

set_option maxRecDepth 20000 in
set_option maxHeartbeats 1000000 in
theorem iHours_any (w : World) (v : Value) (L : List Mem) (id frm k : Int) (hf : -9223372036854775808 ≤ frm ∧ frm ≤ 9223372036854775807) (hk : -9223372036854775808 ≤ k ∧ k ≤ 9223372036854775807) (hv : SeesG encM w v L) (hn : L.length ≤ 1000000000) :
    Calls Try.prog 26 #[v, .int .i64 id, .int .i64 frm, .int .i64 k] w fun e w' => e = .returned (.int .i64 (hours (ring L) id frm k)) ∧ w.grownBy w' none := by
  have HH := Lib.hid (ring_any w v L hv hn)
  clear hv hn
  go_enter Try.func26, Try.ntmps26
  go_wp2_with fail
  refine HH.out.mono ?_
  rintro e w2 ⟨u, rfl, ho, hg⟩
  have HG := Lib.hid hg
  have HT := Lib.hid (turnOf_any w2 u id (ring L) ho.sees)
  obtain ⟨a, n, cap, rfl, HN⟩ := ho.sees.shape
  clear ho hg
  go_wp2_with fail
  refine HT.out.mono ?_
  rintro e w3 ⟨rfl, hg⟩
  have HG3 := Lib.hid (grownN_trans HG.out hg)
  clear hg
  rcases in_or L id with ⟨hp, hm⟩ | ⟨p, hp, hpl, hidp, h1⟩
  · obtain ⟨t1, t2, t3⟩ := tOut hp
    rw [t1, t2, t3]
    have HR : Hid (hours (ring L) id frm k = 0) := hours_miss hm
    have HGA := Lib.hid (grownN_trans HG3.out (World.grownBy_alloc w3 (.cells #[.int .i64 0, .int .i64 0] 78 (0, 0)) none))
    clear hp hm t1 t2 t3
    go_wp2
    go_ret
    exact ⟨ret_i64 HR.out.symm, HGA.out⟩
  · obtain ⟨t1, t2, t3⟩ := tIn hpl
    rw [t1, t2, t3, HN.out]
    have hga := World.grownBy_alloc w3 (.cells #[.int .i64 p, .int .i64 n] 78 (0, 0)) none
    have HGA := Lib.hid (grownN_trans HG3.out hga)
    have HB := Lib.hid (box_new w3 #[.int .i64 p, .int .i64 n] 78)
    have h8 : n ≤ 8 := by rw [← HN.out]; exact ring_len L
    have hpn : p < n := by rw [← HN.out]; exact hp
    have HP := Lib.hid hp
    clear hga t1 t2 t3 hpl hp
    by_cases h3 : 0 ≤ frm ∧ frm ≤ 100000
    · have hb : inb frm 0 100000 = true := decide_eq_true h3
      by_cases h4 : 0 ≤ k ∧ k ≤ 1000
      · have hb2 : inb k 0 1000 = true := decide_eq_true h4
        have HR : Hid (hours (ring L) id frm k = cdiv (most 0 (frm + k - nxt n p frm)) n) := by have := hours_place HP.out hidp h1 h3 h4; rw [HN.out] at this; exact this
        have hx := nxt_bd h8 (by omega) p frm
        have HNX := Lib.hid (fun w => next_any w n p frm h8 (by omega) hpn (by omega))
        obtain ⟨x, hxx⟩ : ∃ x, x = nxt n p frm := ⟨_, rfl⟩
        rw [← hxx] at hx HR HNX
        have hmo : 0 ≤ most 0 (frm + k - x) ∧ most 0 (frm + k - x) ≤ 1000 := by unfold most; split <;> omega
        have HMX := Lib.hid (fun w => Mn.max_any 0 (frm + k - x) w)
        have hme : Mn.most 0 (frm + k - x) = most 0 (frm + k - x) := rfl
        rw [hme] at HMX
        obtain ⟨m, hmm⟩ : ∃ m, m = most 0 (frm + k - x) := ⟨_, rfl⟩
        rw [← hmm] at hmo HMX HR
        have HC := Lib.hid (fun w => ceil_any m n w (by omega) (by omega))
        have hw1 : IntKind.i64.wrap (frm + k) = frm + k := IntWalk.i64_in _ (by omega)
        have hw2 : IntKind.i64.wrap (frm + k - x) = frm + k - x := IntWalk.i64_in _ (by omega)
        clear hidp hxx hmm hme
        go_wp2_with (go_at_call 63; refine (inR_b _ _ _ _).mono ?_; rintro e w6 ⟨rfl, rfl⟩; (try rw [hb]); (try rw [hb2]))
        generalize w3.alloc (.cells #[.int .i64 p, .int .i64 n] 78 (0, 0)) = w4 at *
        refine wp_region_held_drew (S := fun w' => w'.cell? ⟨w3.heap.size, 0, none⟩ = some (.int .i64 p) ∧ w'.cell? ⟨w3.heap.size, 1, none⟩ = some (.int .i64 n)) (by kernel_rfl) (two (HB.out.grown (grown_drew (World.grownBy.refl w4 none)))) (fun hHeld => ?_)
        refine wpAnyH_take (i := 0) (v := ?_) rfl (by kernel_rfl) (by kernel_rfl) (by kernel_rfl) (fun _ _ _ h => h) (Or.inl ⟨by rfl, ?_⟩) (by assumption) ?_; rotate_left; (focus (intro wS hSw; (try dsimp only at hSw); go_simp <;> with_reducible rfl)); (try simp only [Act.put, List.getElem_toArray, List.getElem_cons_succ, List.getElem_cons_zero, List.setIfInBounds_toArray, List.set_cons_zero, List.set_cons_succ])
        refine wpAnyH_take (i := 1) (v := ?_) rfl (by kernel_rfl) (by kernel_rfl) (by kernel_rfl) (fun _ _ _ h => h) (Or.inl ⟨by rfl, ?_⟩) (by assumption) ?_; rotate_left; (focus (intro wS hSw; (try dsimp only at hSw); go_simp <;> with_reducible rfl)); (try simp only [Act.put, List.getElem_toArray, List.getElem_cons_succ, List.getElem_cons_zero, List.setIfInBounds_toArray, List.set_cons_zero, List.set_cons_succ])
        refine wpAnyH_take (i := 2) (v := ?_) rfl (by kernel_rfl) (by kernel_rfl) (by kernel_rfl) (fun _ _ _ h => h) (Or.inl ⟨by rfl, ?_⟩) (by assumption) ?_; rotate_left; (focus (intro wS hSw; (try dsimp only at hSw); go_simp <;> with_reducible rfl)); (try simp only [Act.put, List.getElem_toArray, List.getElem_cons_succ, List.getElem_cons_zero, List.setIfInBounds_toArray, List.set_cons_zero, List.set_cons_succ])
        refine wpAnyH_take (i := 3) (v := ?_) rfl (by kernel_rfl) (by kernel_rfl) (by kernel_rfl) (fun _ _ _ h => h) (Or.inl ⟨by rfl, ?_⟩) (by assumption) ?_; rotate_left; (focus (intro wS hSw; (try dsimp only at hSw); go_simp <;> with_reducible rfl)); (try simp only [Act.put, List.getElem_toArray, List.getElem_cons_succ, List.getElem_cons_zero, List.setIfInBounds_toArray, List.set_cons_zero, List.set_cons_succ])
        refine wpAnyH_take (i := 4) (v := ?_) rfl (by kernel_rfl) (by kernel_rfl) (by kernel_rfl) (fun _ _ _ h => h) (Or.inl ⟨by rfl, ?_⟩) (by assumption) ?_; rotate_left; (focus (intro wS hSw; (try dsimp only at hSw); go_simp <;> with_reducible rfl)); (try simp only [Act.put, List.getElem_toArray, List.getElem_cons_succ, List.getElem_cons_zero, List.setIfInBounds_toArray, List.set_cons_zero, List.set_cons_succ])
        refine wpAnyH_take (i := 8) (v := ?_) rfl (by kernel_rfl) (by kernel_rfl) (by kernel_rfl) (fun _ _ _ h => h) (Or.inl ⟨by rfl, ?_⟩) (by assumption) ?_; rotate_left; (focus (intro wS hSw; (try dsimp only at hSw); go_simp <;> with_reducible rfl)); (try simp only [Act.put, List.getElem_toArray, List.getElem_cons_succ, List.getElem_cons_zero, List.setIfInBounds_toArray, List.set_cons_zero, List.set_cons_succ])
        refine wpAnyH_take (i := 9) (v := ?_) rfl (by kernel_rfl) (by kernel_rfl) (by kernel_rfl) (fun _ _ _ h => h) (Or.inl ⟨by rfl, ?_⟩) (by assumption) ?_; rotate_left; (focus (intro wS hSw; (try dsimp only at hSw); go_simp <;> with_reducible rfl)); (try simp only [Act.put, List.getElem_toArray, List.getElem_cons_succ, List.getElem_cons_zero, List.setIfInBounds_toArray, List.set_cons_zero, List.set_cons_succ])
        refine wpAnyH_ready (rs := [5]) (by kernel_rfl) (by simp) ?_; refine AllReadyH.cons rfl (fun K hK => ?_) AllReadyH.nil; go_simp; (go_at_call 66; refine (HNX.out _).mono ?_; rintro e w5 ⟨rfl, hg⟩; have HX5 := Lib.hid (grownN_trans (grown_drew (World.grownBy.refl w4 none)) hg); clear hg)
        refine hK.out _ _ ?_ (fun hHeld => ?_)
        · exact two (HB.out.grown HX5.out)
        clear hK K
        (try simp only [Act.put, List.getElem_toArray, List.getElem_cons_succ, List.getElem_cons_zero, List.setIfInBounds_toArray, List.set_cons_zero, List.set_cons_succ])
        refine wpAnyH_take (i := 6) (v := ?_) rfl (by kernel_rfl) (by kernel_rfl) (by kernel_rfl) (fun _ _ _ h => h) (Or.inl ⟨by rfl, ?_⟩) (by assumption) ?_; rotate_left; (focus (intro wS hSw; (try dsimp only at hSw); go_simp <;> with_reducible rfl)); (try simp only [Act.put, List.getElem_toArray, List.getElem_cons_succ, List.getElem_cons_zero, List.setIfInBounds_toArray, List.set_cons_zero, List.set_cons_succ])
        refine wpAnyH_ready (rs := [7]) (by kernel_rfl) (by simp) ?_; refine AllReadyH.cons rfl (fun K hK => ?_) AllReadyH.nil; go_simp; (go_at_call 65; refine (HMX.out _).mono ?_; rintro e w6 ⟨rfl, hg⟩; have HX6 := Lib.hid (grownN_trans HX5.out hg); clear hg)
        refine hK.out _ _ ?_ (fun hHeld => ?_)
        · exact two (HB.out.grown HX6.out)
        clear hK K
        (try simp only [Act.put, List.getElem_toArray, List.getElem_cons_succ, List.getElem_cons_zero, List.setIfInBounds_toArray, List.set_cons_zero, List.set_cons_succ])
        refine wpAnyH_ready (rs := [10]) (by kernel_rfl) (by simp) ?_; refine AllReadyH.cons rfl (fun K hK => ?_) AllReadyH.nil; go_simp; (go_at_call 64; refine (HC.out _).mono ?_; rintro e w7 ⟨rfl, rfl⟩)
        refine hK.out _ _ ?_ (fun hHeld => ?_)
        · exact two (HB.out.grown HX6.out)
        clear hK K
        (try simp only [Act.put, List.getElem_toArray, List.getElem_cons_succ, List.getElem_cons_zero, List.setIfInBounds_toArray, List.set_cons_zero, List.set_cons_succ])
        refine wpAnyH_take (i := 11) (v := ?_) rfl (by kernel_rfl) (by kernel_rfl) (by kernel_rfl) (fun _ _ _ h => h) (Or.inl ⟨by rfl, ?_⟩) (by assumption) ?_; rotate_left; (focus (intro wS hSw; (try dsimp only at hSw); go_simp <;> with_reducible rfl)); (try simp only [Act.put, List.getElem_toArray, List.getElem_cons_succ, List.getElem_cons_zero, List.setIfInBounds_toArray, List.set_cons_zero, List.set_cons_succ])
        refine wpAnyH_done (by kernel_rfl) ?_ _
        (try simp only [Act.put, List.getElem_toArray, List.getElem_cons_succ, List.getElem_cons_zero, List.setIfInBounds_toArray, List.set_cons_zero, List.set_cons_succ])
        go_wp2
        go_ret
        exact ⟨ret_i64 HR.out.symm, grownN_trans HGA.out HX6.out⟩
      · have hb2 : inb k 0 1000 = false := decide_eq_false h4
        have HR : Hid (hours (ring L) id frm k = 0) := hours_out (fun h => h4 h.2)
        clear h4 hidp
        go_wp2_with (go_at_call 63; refine (inR_b _ _ _ _).mono ?_; rintro e w6 ⟨rfl, rfl⟩; (try rw [hb]); (try rw [hb2]))
        go_ret
        exact ⟨ret_i64 HR.out.symm, HGA.out⟩
    · have hb : inb frm 0 100000 = false := decide_eq_false h3
      have HR : Hid (hours (ring L) id frm k = 0) := hours_out (fun h => h3 h.1)
      clear h3 hidp
      go_wp2_with (go_at_call 63; refine (inR_b _ _ _ _).mono ?_; rintro e w6 ⟨rfl, rfl⟩; (try rw [hb]); (try rw [hb2]))
      go_ret
      exact ⟨ret_i64 HR.out.symm, HGA.out⟩

set_option maxRecDepth 20000 in
set_option maxHeartbeats 1000000 in
theorem iSwap_any (w : World) (v : Value) (L : List Mem) (hour id : Int) (hf : -9223372036854775808 ≤ hour ∧ hour ≤ 9223372036854775807) (hv : SeesG encM w v L) (hn : L.length ≤ 1000000000) :
    Calls Try.prog 30 #[v, .int .i64 hour, .int .i64 id] w fun e w' => e = .returned (.int .i64 (swap (ring L) hour id)) ∧ w.grownBy w' none := by
  have HH := Lib.hid (ring_any w v L hv hn)
  clear hv hn
  go_enter Try.func30, Try.ntmps30
  go_wp2_with fail
  refine HH.out.mono ?_
  rintro e w2 ⟨u, rfl, ho, hg⟩
  have HG := Lib.hid hg
  have HT := Lib.hid (turnOf_any w2 u id (ring L) ho.sees)
  obtain ⟨a, n, cap, rfl, HN⟩ := ho.sees.shape
  clear ho hg
  go_wp2_with fail
  refine HT.out.mono ?_
  rintro e w3 ⟨rfl, hg⟩
  have HG3 := Lib.hid (grownN_trans HG.out hg)
  clear hg
  rcases in_or L id with ⟨hp, hm⟩ | ⟨p, hp, hpl, hidp, h1⟩
  · obtain ⟨t1, t2, t3⟩ := tOut hp
    rw [t1, t2, t3]
    have HR : Hid (swap (ring L) hour id = -1) := by show _ = _; unfold swap; rw [if_neg (by rw [hp]; omega)]
    have HGA := Lib.hid (grownN_trans HG3.out (World.grownBy_alloc w3 (.cells #[.int .i64 0, .int .i64 0] 78 (0, 0)) none))
    clear hp hm t1 t2 t3
    go_wp2
    go_ret
    exact ⟨ret_i64 HR.out.symm, HGA.out⟩
  · obtain ⟨t1, t2, t3⟩ := tIn hpl
    rw [t1, t2, t3, HN.out]
    have hga := World.grownBy_alloc w3 (.cells #[.int .i64 p, .int .i64 n] 78 (0, 0)) none
    have HGA := Lib.hid (grownN_trans HG3.out hga)
    have HB := Lib.hid (box_new w3 #[.int .i64 p, .int .i64 n] 78)
    have h8 : n ≤ 8 := by rw [← HN.out]; exact ring_len L
    have hpn : p < n := by rw [← HN.out]; exact hp
    have HPL := Lib.hid hpl
    clear hga t1 t2 t3 hpl hp hidp
    by_cases h3 : 0 ≤ hour ∧ hour ≤ 100000
    · have hb : inb hour 0 100000 = true := decide_eq_true h3
      have HR : Hid (swap (ring L) hour id = nxt n p (hour + 1)) := by show _ = _; unfold swap; rw [if_pos ⟨h3, by rw [HPL.out]; omega⟩, HPL.out, HN.out]
      have HNX := Lib.hid (fun w => next_any w n p (hour + 1) h8 (by omega) hpn (by omega))
      have hcs := two HB.out
      obtain ⟨c0, c1⟩ := hcs
      go_wp2_with (first | (go_at_call 63; refine (inR_b _ _ _ _).mono ?_; rintro e w6 ⟨rfl, rfl⟩; try rw [hb]) | (go_at_call 66; refine (HNX.out _).mono ?_; rintro e w5 ⟨rfl, hg⟩; have HX5 := Lib.hid (grownN_trans HGA.out hg); clear hg))
      go_ret
      exact ⟨ret_i64 HR.out.symm, HX5.out⟩
    · have hb : inb hour 0 100000 = false := decide_eq_false h3
      have HR : Hid (swap (ring L) hour id = -1) := by show _ = _; unfold swap; rw [if_neg (fun h => h3 h.1)]
      clear h3
      go_wp2_with (go_at_call 63; refine (inR_b _ _ _ _).mono ?_; rintro e w6 ⟨rfl, rfl⟩; try rw [hb])
      go_ret
      exact ⟨ret_i64 HR.out.symm, HGA.out⟩

set_option maxRecDepth 20000 in
set_option maxHeartbeats 1000000 in
theorem iSleep_any (w : World) (v : Value) (L : List Mem) (id hour : Int) (hf : -9223372036854775808 ≤ hour ∧ hour ≤ 9223372036854775807) (hv : SeesG encM w v L) (hn : L.length ≤ 1000000000) :
    Calls Try.prog 32 #[v, .int .i64 id, .int .i64 hour] w fun e w' => e = .returned (.int .i64 (sleep (ring L) id hour)) ∧ w.grownBy w' none := by
  have HH := Lib.hid (ring_any w v L hv hn)
  have HSW := Lib.hid (fun (w' : World) (hg : w.grownBy w' none) (t : Int) ht => iSwap_any w' v L t id ht (hv.grown hg) hn)
  clear hv hn
  go_enter Try.func32, Try.ntmps32
  go_wp2_with fail
  refine HH.out.mono ?_
  rintro e w2 ⟨u, rfl, ho, hg⟩
  have HG := Lib.hid hg
  have HT := Lib.hid (turnOf_any w2 u id (ring L) ho.sees)
  obtain ⟨a, n, cap, rfl, HN⟩ := ho.sees.shape
  clear ho hg
  go_wp2_with fail
  refine HT.out.mono ?_
  rintro e w3 ⟨rfl, hg⟩
  have HG3 := Lib.hid (grownN_trans HG.out hg)
  clear hg
  rcases in_or L id with ⟨hp, hm⟩ | ⟨p, hp, hpl, hidp, h1⟩
  · obtain ⟨t1, t2, t3⟩ := tOut hp
    rw [t1, t2, t3]
    have HR : Hid (sleep (ring L) id hour = -1) := by show _ = _; unfold sleep; rw [if_neg (by rw [hp]; omega)]
    have HGA := Lib.hid (grownN_trans HG3.out (World.grownBy_alloc w3 (.cells #[.int .i64 0, .int .i64 0] 78 (0, 0)) none))
    clear hp hm t1 t2 t3
    go_wp2
    go_ret
    exact ⟨ret_i64 HR.out.symm, HGA.out⟩
  · obtain ⟨t1, t2, t3⟩ := tIn hpl
    rw [t1, t2, t3, HN.out]
    have hga := World.grownBy_alloc w3 (.cells #[.int .i64 p, .int .i64 n] 78 (0, 0)) none
    have HGA := Lib.hid (grownN_trans HG3.out hga)
    have HB := Lib.hid (box_new w3 #[.int .i64 p, .int .i64 n] 78)
    have h8 : n ≤ 8 := by rw [← HN.out]; exact ring_len L
    have hpn : p < n := by rw [← HN.out]; exact hp
    have HPL := Lib.hid hpl
    clear hga t1 t2 t3 hpl hp hidp
    by_cases h3 : 0 ≤ hour ∧ hour ≤ 100000
    · have hb : inb hour 0 100000 = true := decide_eq_true h3
      have HNX := Lib.hid (fun w => last_any w n p hour h8 (by omega) hpn (by omega))
      have hyb := lst_bd h8 (by omega) p hour
      have hsw : ∀ y, y = lst n p hour → 0 ≤ y → swap (ring L) y id = nxt n p (hour + 1) := fun y hy h0 => by
        unfold swap; rw [if_pos ⟨by omega, by rw [HPL.out]; omega⟩, HPL.out, HN.out, hy, nxt_lst h8 hpn]
      have hxb := nxt_bd h8 (by omega) p (hour + 1)
      have HR : Hid (sleep (ring L) id hour = if 0 ≤ lst n p hour then nxt n p (hour + 1) - lst n p hour - 1 else -1) := by
        show _ = _
        unfold sleep
        rw [HPL.out, HN.out]
        by_cases h : 0 ≤ lst n p hour
        · rw [if_pos ⟨h3, by omega, h⟩, if_pos h]
        · rw [if_neg (fun h' => h h'.2.2), if_neg h]
      obtain ⟨y, hy⟩ : ∃ y, y = lst n p hour := ⟨_, rfl⟩
      obtain ⟨x, hx⟩ : ∃ x, x = nxt n p (hour + 1) := ⟨_, rfl⟩
      have hsy := hsw y hy
      rw [← hx] at hsy hxb HR
      rw [← hy] at hyb HR HNX
      obtain ⟨c0, c1⟩ := two HB.out
      clear hsw hx hy
      by_cases hy0 : 0 ≤ y
      · rw [if_pos hy0] at HR
        have hs := hsy hy0
        clear hsy
        go_wp2_with (first | (go_at_call 63; refine (inR_b _ _ _ _).mono ?_; rintro e w6 ⟨rfl, rfl⟩; try rw [hb]) | (go_at_call 71; refine (HNX.out _).mono ?_; rintro e w5 ⟨rfl, hg⟩; have HX5 := Lib.hid (grownN_trans HGA.out hg); clear hg; have HS5 := Lib.hid (HSW.out _ HX5.out y (by omega)); rw [hs] at HS5) | (go_at_call 30; refine HS5.out.mono ?_; rintro e w7 ⟨rfl, hg⟩; have HX7 := Lib.hid (grownN_trans HX5.out hg); clear hg))
        go_ret
        exact ⟨ret_i64 HR.out.symm, HX7.out⟩
      · rw [if_neg hy0] at HR
        clear hsy
        go_wp2_with (first | (go_at_call 63; refine (inR_b _ _ _ _).mono ?_; rintro e w6 ⟨rfl, rfl⟩; try rw [hb]) | (go_at_call 71; refine (HNX.out _).mono ?_; rintro e w5 ⟨rfl, hg⟩; have HX5 := Lib.hid (grownN_trans HGA.out hg); clear hg))
        go_ret
        exact ⟨ret_i64 HR.out.symm, HX5.out⟩
    · have hb : inb hour 0 100000 = false := decide_eq_false h3
      have HR : Hid (sleep (ring L) id hour = -1) := by show _ = _; unfold sleep; rw [if_neg (fun h => h3 h.1)]
      clear h3
      go_wp2_with (go_at_call 63; refine (inR_b _ _ _ _).mono ?_; rintro e w6 ⟨rfl, rfl⟩; try rw [hb])
      go_ret
      exact ⟨ret_i64 HR.out.symm, HGA.out⟩
end Go.Proofs.Ytfdadeiemfmgkaa.WatI
