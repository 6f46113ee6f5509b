/- Contracts of how many weathers there are, of the program and of its model. -/
import Derived.Test.YtbpiojnehomljaaCwf
import Derived.Test.YtbpiojnehomljaaStP
import Derived.Test.YtbpiojnehomljaaStU
import Derived.Test.YtbpiojnehomljaaRuleL
import Derived.Test.YtbpiojnehomljaaApp
import Derived.Deep.RegionHeld3
import Derived.Laws.EntriesVeiled
namespace Go.Proofs.Ytbpiojnehomljaa.Cwx
open Go.RowKit Kit Rw Rg Stm StormS StI Hom Md

theorem ret_i {a b : Int} (h : a = b) : Ending.returned (.int .i64 a) = .returned (.int .i64 b) := by rw [h]
theorem weakG {w w' : World} {r : Option Nat} (h : w.grownBy w' none) : w.grownBy w' r := ⟨h.os, h.tape, h.output, h.size, fun k hk _ => h.block k hk (fun e => by cases e)⟩
def EW (OB VB TB RB : Nat) : Value := .func (.func 103) #[] #[.pointer (some ⟨OB, 0, none⟩), .pointer (some ⟨VB, 0, none⟩), .pointer (some ⟨TB, 0, none⟩), .pointer (some ⟨RB, 0, none⟩)]
/-- What the trying reads. -/
structure Env (w : World) (N C RB OB VB TB : Nat) (m n k : Int) : Prop where
  nb : Box w N #[.int .i64 k] 3
  rb : Box w RB #[.int .i64 m, .int .i64 n] 49
  ob : Box w OB #[.func (.func 70) #[] #[.pointer (some ⟨N, 0, none⟩)]] 90
  vb : Box w VB #[.func (.func 72) #[] #[.pointer (some ⟨C, 0, none⟩)]] 92
  tb : Box w TB #[EW OB VB TB RB] 123
  h1 : N ≠ C
  h2 : RB ≠ C
  h3 : OB ≠ C
  h4 : VB ≠ C
  h5 : TB ≠ C
theorem Env.kept {w w' : World} {N C RB OB VB TB : Nat} {m n k : Int} (h : Env w N C RB OB VB TB m n k) (hg : w.grownBy w' (some C)) : Env w' N C RB OB VB TB m n k :=
  ⟨h.nb.kept hg (fun e => h.h1 (Option.some.inj e).symm), h.rb.kept hg (fun e => h.h2 (Option.some.inj e).symm), h.ob.kept hg (fun e => h.h3 (Option.some.inj e).symm), h.vb.kept hg (fun e => h.h4 (Option.some.inj e).symm), h.tb.kept hg (fun e => h.h5 (Option.some.inj e).symm), h.h1, h.h2, h.h3, h.h4, h.h5⟩
theorem Env.grown {w w' : World} {N C RB OB VB TB : Nat} {m n k : Int} (h : Env w N C RB OB VB TB m n k) (hg : w.grownBy w' none) : Env w' N C RB OB VB TB m n k := h.kept (weakG hg)
theorem one_set {w : World} {b : Nat} {x u : Value} {t : TypeId} (h : Box w b #[x] t) : Box (w.setCell ⟨b, 0, none⟩ u) b #[u] t := box_set h 0 u

theorem over_any (w : World) (N : Nat) (d c k : Int) (h : Box w N #[.int .i64 k] 3) :
    Calls Try.prog 70 #[.int .i64 d, .int .i64 c, .pointer (some ⟨N, 0, none⟩)] w fun e w' => e = .returned (.bool (d == k)) ∧ w = w' := by
  have c0 := h.cell 0
  simp only [List.getElem?_toArray, List.getElem?_cons_zero] at c0
  go_enter Try.func70, Try.ntmps70
  go_wp2
  go_ret
  exact ⟨rfl, rfl⟩
theorem visit_any (w : World) (C : Nat) (d c : Int) (h : Box w C #[.int .i64 c] 3) (hc : 0 ≤ c ∧ c ≤ 1000000) :
    Calls Try.prog 72 #[.int .i64 d, .pointer (some ⟨C, 0, none⟩)] w fun e w' => e = .returned (.tuple #[]) ∧ Box w' C #[.int .i64 (c + 1)] 3 ∧ w.grownBy w' (some C) := by
  have c0 := h.cell 0
  have f0 := h.free 0
  simp only [List.getElem?_toArray, List.getElem?_cons_zero] at c0
  have q1 : IntKind.i64.wrap (c + 1) = c + 1 := IntWalk.i64_in _ (by omega)
  have HB := Lib.hid (one_set (u := .int .i64 (c + 1)) h)
  have HG := Lib.hid (grown_set w C 0 (.int .i64 (c + 1)))
  clear h hc
  go_enter Try.func72, Try.ntmps72
  go_wp2
  go_end0
  exact ⟨rfl, HB.out, HG.out⟩
theorem add_len (L : List Bool) (s : Bool) : (addDay L s).length ≤ 10 := addDay_len L s

set_option maxRecDepth 100000 in
set_option maxHeartbeats 8000000 in
theorem try_any (M Nn : Nat) (hr : isRule (M : Int) (Nn : Int) = true) (N C RB OB VB TB : Nat) (k : Nat) : ∀ (q : Nat) (w : World) (v : Value) (P : List Bool) (c ca : Int),
    q ≤ k → k ≤ 10 → (∀ W, w.grownBy W (some C) → SeesG encB W v P) → P.length ≤ 2000000 → Env w N C RB OB VB TB M Nn k → Box w C #[.int .i64 c] 3 → (0 ≤ c ∧ c + cw M Nn q P ≤ 100000) → (0 ≤ ca ∧ ca + q ≤ 1000) →
    Calls Try.prog 103 #[v, .int .i64 ((k - q : Nat) : Int), .int .i64 ca, .pointer (some ⟨OB, 0, none⟩), .pointer (some ⟨VB, 0, none⟩), .pointer (some ⟨TB, 0, none⟩), .pointer (some ⟨RB, 0, none⟩)] w fun e w' => e = .returned (.tuple #[]) ∧ Box w' C #[.int .i64 (c + cw M Nn q P)] 3 ∧ w.grownBy w' (some C) := by
  have hn10 : Nn ≤ 10 := by unfold isRule at hr; simp at hr; omega
  have hmw : (Lit.int .i64 (M : Int)).wf = true := i64_mk (by unfold isRule at hr; simp at hr; omega)
  have hnw : (Lit.int .i64 (Nn : Int)).wf = true := i64_mk (by omega)
  intro q
  induction q with
  | zero =>
    intro w v P c ca hqk hk hv hP hE hC hc hca
    rw [cw_zero] at hc ⊢
    have o0 := hE.ob.cell 0
    have v0 := hE.vb.cell 0
    simp only [List.getElem?_toArray, List.getElem?_cons_zero] at o0 v0
    have HO := Lib.hid (over_any w N (((k - 0 : Nat) : Int)) ca k hE.nb)
    have HV := Lib.hid (visit_any w C (((k - 0 : Nat) : Int)) c hC (by omega))
    obtain ⟨va, vn, vc, rfl, _⟩ := (hv w (World.grownBy.refl _ _)).shape
    have hkk : ((((k - 0 : Nat) : Int)) == (k : Int)) = true := by simp
    rw [hkk] at HO
    clear hE hC hv hP hc hca hqk hk hkk
    go_enter Try.func103, Try.ntmps103
    go_wp2_with fail
    refine HO.out.mono ?_
    rintro e w2 ⟨rfl, rfl⟩
    go_wp2_with fail
    refine HV.out.mono ?_
    rintro e w3 ⟨rfl, hb, hg⟩
    have HB := Lib.hid hb
    have HG := Lib.hid hg
    clear hb hg
    go_wp2
    refine bodyPost_ret (results_none rfl _ _ _) rfl ?_
    exact ⟨rfl, HB.out, HG.out⟩
  | succ q ih =>
    intro w v P c ca hqk hk hv hP hE hC hc hca
    have o0 := hE.ob.cell 0
    simp only [List.getElem?_toArray, List.getElem?_cons_zero] at o0
    obtain ⟨d, hd⟩ : ∃ d : Nat, d = k - (q + 1) := ⟨_, rfl⟩
    rw [← hd]
    have hdk : d + 1 = k - q := by omega
    have hne : ((d : Int) == (k : Int)) = false := by simp; omega
    have HO := Lib.hid (over_any w N (d : Int) ca k hE.nb)
    rw [hne] at HO
    have q1 : IntKind.i64.wrap ((d : Int) + 1) = ((k - q : Nat) : Int) := (IntWalk.i64_in _ (by omega)).trans (by omega)
    have q2 : IntKind.i64.wrap (ca + 1) = ca + 1 := IntWalk.i64_in _ (by omega)
    obtain ⟨va, vn, vc, rfl, HVN⟩ := (hv w (World.grownBy.refl _ _)).shape
    have hms := mayStorm_may (L := P) hr
    have hA1 := fun W (hg : w.grownBy W (some C)) s => iAddDay_any W (.slice va vn vc) P s (hv W hg) (by omega)
    have hMS := fun W (hg : w.grownBy W (some C)) => iMayStorm_any W (M : Int) (Nn : Int) hmw hnw (.slice va vn vc) P (hv W hg)
    rw [hms] at hMS
    have HA1 := Lib.hid hA1
    have HMS := Lib.hid hMS
    have HEN := Lib.hid hE
    have HC0 := Lib.hid hC
    have hcw1 := cw_add (m := M) hn10 q P false
    have hcw2 := cw_add (m := M) hn10 q P true
    have HCA := Lib.hid (show (0 : Int) ≤ ca + 1 ∧ ca + 1 + q ≤ 1000 by omega)
    have HCB := Lib.hid (show (0 : Int) ≤ ca ∧ ca + q ≤ 1000 by omega)
    have HQK := Lib.hid (show q ≤ k by omega)
    have HK := Lib.hid hk
    have HCP := Lib.hid hC.lt
    have hIH := fun W (u : Value) (s : Bool) (c' ca' : Int) (hu : ∀ W', W.grownBy W' (some C) → SeesG encB W' u (addDay P s)) (he : Env W N C RB OB VB TB M Nn k) (hb : Box W C #[.int .i64 c'] 3) (h1 : 0 ≤ c' ∧ c' + cw M Nn q (addDay P s) ≤ 100000) (h2 : 0 ≤ ca' ∧ ca' + q ≤ 1000) => ih W u (addDay P s) c' ca' HQK.out HK.out hu (by have := add_len P s; omega) he hb h1 h2
    have HIH := Lib.hid hIH
    have HT0 : Hid (∀ W, w.grownBy W (some C) → W.cell? ⟨TB, 0, none⟩ = some (.func (.func 103) #[] #[.pointer (some ⟨OB, 0, none⟩), .pointer (some ⟨VB, 0, none⟩), .pointer (some ⟨TB, 0, none⟩), .pointer (some ⟨RB, 0, none⟩)])) := fun W hg => (hE.kept hg).tb.cell 0
    have hq0 := grown_drew (World.grownBy.refl w none)
    have HQ0 := Lib.hid hq0
    cases hm : may M Nn P
    · have hcc := cw_no (k := q) hm
      rw [hcc] at hc ⊢
      rw [← hcw1] at hc ⊢
      have HC1 := Lib.hid hc
      rw [hm] at HMS
      have HRB : Hid (∀ W, w.grownBy W (some C) → W.cell? ⟨RB, 0, none⟩ = some (.int .i64 (M : Int)) ∧ W.cell? ⟨RB, 1, none⟩ = some (.int .i64 (Nn : Int))) := fun W hg => ⟨(hE.kept hg).rb.cell 0, (hE.kept hg).rb.cell 1⟩
      clear hE hC hv hP hc hca hqk hk hne hms hA1 hMS hcw1 hcw2 hcc hm hIH hq0 hdk hd ih
      go_enter Try.func103, Try.ntmps103
      go_wp2_with fail
      refine HO.out.mono ?_
      rintro e w2 ⟨rfl, rfl⟩
      go_wp2_with fail
      refine wp_region_held_drew (S := fun w' => w'.cell? ⟨TB, 0, none⟩ = some (.func (.func 103) #[] #[.pointer (some ⟨OB, 0, none⟩), .pointer (some ⟨VB, 0, none⟩), .pointer (some ⟨TB, 0, none⟩), .pointer (some ⟨RB, 0, none⟩)])) (by kernel_rfl) (HT0.out _ (weakG HQ0.out)) (fun hHeld => ?_)
      refine wpAnyH_take (i := 0) (v := ?_) rfl (by kernel_rfl) (by kernel_rfl) (by kernel_rfl) (fun _ _ _ h => h) (Or.inl ⟨by rfl, ?_⟩) (by assumption) ?_; rotate_left; (focus (intro wS hSw; (try dsimp only at hSw); go_simp <;> with_reducible rfl)); (try simp only [Act.put, List.getElem_toArray, List.getElem_cons_succ, List.getElem_cons_zero, List.setIfInBounds_toArray, List.set_cons_zero, List.set_cons_succ])
      refine wpAnyH_take (i := 1) (v := ?_) rfl (by kernel_rfl) (by kernel_rfl) (by kernel_rfl) (fun _ _ _ h => h) (Or.inl ⟨by rfl, ?_⟩) (by assumption) ?_; rotate_left; (focus (intro wS hSw; (try dsimp only at hSw); go_simp <;> with_reducible rfl)); (try simp only [Act.put, List.getElem_toArray, List.getElem_cons_succ, List.getElem_cons_zero, List.setIfInBounds_toArray, List.set_cons_zero, List.set_cons_succ])
      refine wpAnyH_take (i := 3) (v := ?_) rfl (by kernel_rfl) (by kernel_rfl) (by kernel_rfl) (fun _ _ _ h => h) (Or.inl ⟨by rfl, ?_⟩) (by assumption) ?_; rotate_left; (focus (intro wS hSw; (try dsimp only at hSw); go_simp <;> with_reducible rfl)); (try simp only [Act.put, List.getElem_toArray, List.getElem_cons_succ, List.getElem_cons_zero, List.setIfInBounds_toArray, List.set_cons_zero, List.set_cons_succ])
      refine wpAnyH_take (i := 4) (v := ?_) rfl (by kernel_rfl) (by kernel_rfl) (by kernel_rfl) (fun _ _ _ h => h) (Or.inl ⟨by rfl, ?_⟩) (by assumption) ?_; rotate_left; (focus (intro wS hSw; (try dsimp only at hSw); go_simp <;> with_reducible rfl)); (try simp only [Act.put, List.getElem_toArray, List.getElem_cons_succ, List.getElem_cons_zero, List.setIfInBounds_toArray, List.set_cons_zero, List.set_cons_succ])
      refine wpAnyH_take (i := 5) (v := ?_) rfl (by kernel_rfl) (by kernel_rfl) (by kernel_rfl) (fun _ _ _ h => h) (Or.inl ⟨by rfl, ?_⟩) (by assumption) ?_; rotate_left; (focus (intro wS hSw; (try dsimp only at hSw); go_simp <;> with_reducible rfl)); (try simp only [Act.put, List.getElem_toArray, List.getElem_cons_succ, List.getElem_cons_zero, List.setIfInBounds_toArray, List.set_cons_zero, List.set_cons_succ])
      refine wpAnyH_take (i := 6) (v := ?_) rfl (by kernel_rfl) (by kernel_rfl) (by kernel_rfl) (fun _ _ _ h => h) (Or.inl ⟨by rfl, ?_⟩) (by assumption) ?_; rotate_left; (focus (intro wS hSw; (try dsimp only at hSw); go_simp <;> with_reducible rfl)); (try simp only [Act.put, List.getElem_toArray, List.getElem_cons_succ, List.getElem_cons_zero, List.setIfInBounds_toArray, List.set_cons_zero, List.set_cons_succ])
      refine wpAnyH_ready (rs := [2]) (by kernel_rfl) (by simp) ?_; refine AllReadyH.cons rfl (fun K hK => ?_) AllReadyH.nil; go_simp; (go_at_call 104; refine (HA1.out _ (weakG HQ0.out) false).mono ?_; rintro e wA ⟨u, rfl, ho, hgA⟩; have HQ1 := Lib.hid (grownN_trans HQ0.out hgA); have HOU := Lib.hid ho; obtain ⟨ua, un, uc, rfl, _⟩ := ho.sees.shape; clear ho hgA)
      refine hK.out _ _ ?_ (fun hHeld => ?_)
      · exact HT0.out _ (weakG HQ1.out)
      clear hK K
      (try simp only [Act.put, List.getElem_toArray, List.getElem_cons_succ, List.getElem_cons_zero, List.setIfInBounds_toArray, List.set_cons_zero, List.set_cons_succ])
      refine wpAnyH_ready (rs := [7]) (by kernel_rfl) (by simp) ?_; refine AllReadyH.cons rfl (fun K hK => ?_) AllReadyH.nil; go_simp; (go_at_call 103; refine (HIH.out _ _ false _ _ (fun W' hW => (HOU.out.kept hW (.inr (fun e => by have h1 := (HOU.out.lt _ e).1; have h2 := HCP.out; have h3 := HQ0.out.size; omega))).sees) (HEN.out.grown HQ1.out) (HC0.out.grown HQ1.out) HC1.out HCA.out).mono ?_; rintro e wB ⟨rfl, hb, hgB⟩; have HQ2 := Lib.hid (grownN_trans (weakG HQ1.out) hgB); have HCX := Lib.hid hb; clear hb hgB)
      refine hK.out _ _ ?_ (fun hHeld => ?_)
      · exact HT0.out _ HQ2.out
      clear hK K
      (try simp only [Act.put, List.getElem_toArray, List.getElem_cons_succ, List.getElem_cons_zero, List.setIfInBounds_toArray, List.set_cons_zero, List.set_cons_succ])
      refine wpAnyH_done (by kernel_rfl) ?_ _
      (try simp only [Act.put, List.getElem_toArray, List.getElem_cons_succ, List.getElem_cons_zero, List.setIfInBounds_toArray, List.set_cons_zero, List.set_cons_succ])
      obtain ⟨r0, r1⟩ := HRB.out _ HQ2.out
      go_wp2_with fail
      refine (HMS.out _ HQ2.out).mono ?_
      rintro e w5 ⟨rfl, hg⟩
      have HG5 := Lib.hid (grownN_trans HQ2.out (weakG hg))
      have HC5 := Lib.hid (HCX.out.grown hg)
      clear hg
      go_wp2
      go_end0
      exact ⟨rfl, HC5.out, HG5.out⟩
    · have hcc := cw_yes (k := q) hm
      rw [hcc] at hc ⊢
      rw [← hcw1, ← hcw2] at hc ⊢
      have HC1 := Lib.hid (show 0 ≤ c ∧ c + cw M Nn q (addDay P false) ≤ 100000 by omega)
      have HC2 := Lib.hid (show 0 ≤ c + cw M Nn q (addDay P false) ∧ c + cw M Nn q (addDay P false) + cw M Nn q (addDay P true) ≤ 100000 by omega)
      have HSUM : Hid (c + ((cw M Nn q (addDay P false) + cw M Nn q (addDay P true) : Nat) : Int) = c + cw M Nn q (addDay P false) + cw M Nn q (addDay P true)) := by show _ = _; omega
      rw [hm] at HMS
      have HRB : Hid (∀ W, w.grownBy W (some C) → W.cell? ⟨RB, 0, none⟩ = some (.int .i64 (M : Int)) ∧ W.cell? ⟨RB, 1, none⟩ = some (.int .i64 (Nn : Int))) := fun W hg => ⟨(hE.kept hg).rb.cell 0, (hE.kept hg).rb.cell 1⟩
      clear hE hC hv hP hc hca hqk hk hne hms hA1 hMS hcw1 hcw2 hcc hm hIH hq0 hdk hd ih
      go_enter Try.func103, Try.ntmps103
      go_wp2_with fail
      refine HO.out.mono ?_
      rintro e w2 ⟨rfl, rfl⟩
      go_wp2_with fail
      refine wp_region_held_drew (S := fun w' => w'.cell? ⟨TB, 0, none⟩ = some (.func (.func 103) #[] #[.pointer (some ⟨OB, 0, none⟩), .pointer (some ⟨VB, 0, none⟩), .pointer (some ⟨TB, 0, none⟩), .pointer (some ⟨RB, 0, none⟩)])) (by kernel_rfl) (HT0.out _ (weakG HQ0.out)) (fun hHeld => ?_)
      refine wpAnyH_take (i := 0) (v := ?_) rfl (by kernel_rfl) (by kernel_rfl) (by kernel_rfl) (fun _ _ _ h => h) (Or.inl ⟨by rfl, ?_⟩) (by assumption) ?_; rotate_left; (focus (intro wS hSw; (try dsimp only at hSw); go_simp <;> with_reducible rfl)); (try simp only [Act.put, List.getElem_toArray, List.getElem_cons_succ, List.getElem_cons_zero, List.setIfInBounds_toArray, List.set_cons_zero, List.set_cons_succ])
      refine wpAnyH_take (i := 1) (v := ?_) rfl (by kernel_rfl) (by kernel_rfl) (by kernel_rfl) (fun _ _ _ h => h) (Or.inl ⟨by rfl, ?_⟩) (by assumption) ?_; rotate_left; (focus (intro wS hSw; (try dsimp only at hSw); go_simp <;> with_reducible rfl)); (try simp only [Act.put, List.getElem_toArray, List.getElem_cons_succ, List.getElem_cons_zero, List.setIfInBounds_toArray, List.set_cons_zero, List.set_cons_succ])
      refine wpAnyH_take (i := 3) (v := ?_) rfl (by kernel_rfl) (by kernel_rfl) (by kernel_rfl) (fun _ _ _ h => h) (Or.inl ⟨by rfl, ?_⟩) (by assumption) ?_; rotate_left; (focus (intro wS hSw; (try dsimp only at hSw); go_simp <;> with_reducible rfl)); (try simp only [Act.put, List.getElem_toArray, List.getElem_cons_succ, List.getElem_cons_zero, List.setIfInBounds_toArray, List.set_cons_zero, List.set_cons_succ])
      refine wpAnyH_take (i := 4) (v := ?_) rfl (by kernel_rfl) (by kernel_rfl) (by kernel_rfl) (fun _ _ _ h => h) (Or.inl ⟨by rfl, ?_⟩) (by assumption) ?_; rotate_left; (focus (intro wS hSw; (try dsimp only at hSw); go_simp <;> with_reducible rfl)); (try simp only [Act.put, List.getElem_toArray, List.getElem_cons_succ, List.getElem_cons_zero, List.setIfInBounds_toArray, List.set_cons_zero, List.set_cons_succ])
      refine wpAnyH_take (i := 5) (v := ?_) rfl (by kernel_rfl) (by kernel_rfl) (by kernel_rfl) (fun _ _ _ h => h) (Or.inl ⟨by rfl, ?_⟩) (by assumption) ?_; rotate_left; (focus (intro wS hSw; (try dsimp only at hSw); go_simp <;> with_reducible rfl)); (try simp only [Act.put, List.getElem_toArray, List.getElem_cons_succ, List.getElem_cons_zero, List.setIfInBounds_toArray, List.set_cons_zero, List.set_cons_succ])
      refine wpAnyH_take (i := 6) (v := ?_) rfl (by kernel_rfl) (by kernel_rfl) (by kernel_rfl) (fun _ _ _ h => h) (Or.inl ⟨by rfl, ?_⟩) (by assumption) ?_; rotate_left; (focus (intro wS hSw; (try dsimp only at hSw); go_simp <;> with_reducible rfl)); (try simp only [Act.put, List.getElem_toArray, List.getElem_cons_succ, List.getElem_cons_zero, List.setIfInBounds_toArray, List.set_cons_zero, List.set_cons_succ])
      refine wpAnyH_ready (rs := [2]) (by kernel_rfl) (by simp) ?_; refine AllReadyH.cons rfl (fun K hK => ?_) AllReadyH.nil; go_simp; (go_at_call 104; refine (HA1.out _ (weakG HQ0.out) false).mono ?_; rintro e wA ⟨u, rfl, ho, hgA⟩; have HQ1 := Lib.hid (grownN_trans HQ0.out hgA); have HOU := Lib.hid ho; obtain ⟨ua, un, uc, rfl, _⟩ := ho.sees.shape; clear ho hgA)
      refine hK.out _ _ ?_ (fun hHeld => ?_)
      · exact HT0.out _ (weakG HQ1.out)
      clear hK K
      (try simp only [Act.put, List.getElem_toArray, List.getElem_cons_succ, List.getElem_cons_zero, List.setIfInBounds_toArray, List.set_cons_zero, List.set_cons_succ])
      refine wpAnyH_ready (rs := [7]) (by kernel_rfl) (by simp) ?_; refine AllReadyH.cons rfl (fun K hK => ?_) AllReadyH.nil; go_simp; (go_at_call 103; refine (HIH.out _ _ false _ _ (fun W' hW => (HOU.out.kept hW (.inr (fun e => by have h1 := (HOU.out.lt _ e).1; have h2 := HCP.out; have h3 := HQ0.out.size; omega))).sees) (HEN.out.grown HQ1.out) (HC0.out.grown HQ1.out) HC1.out HCA.out).mono ?_; rintro e wB ⟨rfl, hb, hgB⟩; have HQ2 := Lib.hid (grownN_trans (weakG HQ1.out) hgB); have HCX := Lib.hid hb; clear hb hgB)
      refine hK.out _ _ ?_ (fun hHeld => ?_)
      · exact HT0.out _ HQ2.out
      clear hK K
      (try simp only [Act.put, List.getElem_toArray, List.getElem_cons_succ, List.getElem_cons_zero, List.setIfInBounds_toArray, List.set_cons_zero, List.set_cons_succ])
      refine wpAnyH_done (by kernel_rfl) ?_ _
      (try simp only [Act.put, List.getElem_toArray, List.getElem_cons_succ, List.getElem_cons_zero, List.setIfInBounds_toArray, List.set_cons_zero, List.set_cons_succ])
      obtain ⟨r0, r1⟩ := HRB.out _ HQ2.out
      go_wp2_with fail
      refine (HMS.out _ HQ2.out).mono ?_
      rintro e w5 ⟨rfl, hg⟩
      have HG5 := Lib.hid (grownN_trans HQ2.out (weakG hg))
      have HC5 := Lib.hid (HCX.out.grown hg)
      clear hg r0 r1 HQ0 HQ1 HOU HQ2 HCX
      have HQ3 := Lib.hid (grownN_trans HG5.out (weakG (grown_drew (World.grownBy.refl w5 none))))
      have HSZ5 := Lib.hid HG5.out.size
      go_wp2_with fail
      refine wp_region_held_drew (S := fun w' => w'.cell? ⟨TB, 0, none⟩ = some (.func (.func 103) #[] #[.pointer (some ⟨OB, 0, none⟩), .pointer (some ⟨VB, 0, none⟩), .pointer (some ⟨TB, 0, none⟩), .pointer (some ⟨RB, 0, none⟩)])) (by kernel_rfl) (HT0.out _ HQ3.out) (fun hHeld => ?_)
      refine wpAnyH_take (i := 0) (v := ?_) rfl (by kernel_rfl) (by kernel_rfl) (by kernel_rfl) (fun _ _ _ h => h) (Or.inl ⟨by rfl, ?_⟩) (by assumption) ?_; rotate_left; (focus (intro wS hSw; (try dsimp only at hSw); go_simp <;> with_reducible rfl)); (try simp only [Act.put, List.getElem_toArray, List.getElem_cons_succ, List.getElem_cons_zero, List.setIfInBounds_toArray, List.set_cons_zero, List.set_cons_succ])
      refine wpAnyH_take (i := 1) (v := ?_) rfl (by kernel_rfl) (by kernel_rfl) (by kernel_rfl) (fun _ _ _ h => h) (Or.inl ⟨by rfl, ?_⟩) (by assumption) ?_; rotate_left; (focus (intro wS hSw; (try dsimp only at hSw); go_simp <;> with_reducible rfl)); (try simp only [Act.put, List.getElem_toArray, List.getElem_cons_succ, List.getElem_cons_zero, List.setIfInBounds_toArray, List.set_cons_zero, List.set_cons_succ])
      refine wpAnyH_take (i := 3) (v := ?_) rfl (by kernel_rfl) (by kernel_rfl) (by kernel_rfl) (fun _ _ _ h => h) (Or.inl ⟨by rfl, ?_⟩) (by assumption) ?_; rotate_left; (focus (intro wS hSw; (try dsimp only at hSw); go_simp <;> with_reducible rfl)); (try simp only [Act.put, List.getElem_toArray, List.getElem_cons_succ, List.getElem_cons_zero, List.setIfInBounds_toArray, List.set_cons_zero, List.set_cons_succ])
      refine wpAnyH_take (i := 4) (v := ?_) rfl (by kernel_rfl) (by kernel_rfl) (by kernel_rfl) (fun _ _ _ h => h) (Or.inl ⟨by rfl, ?_⟩) (by assumption) ?_; rotate_left; (focus (intro wS hSw; (try dsimp only at hSw); go_simp <;> with_reducible rfl)); (try simp only [Act.put, List.getElem_toArray, List.getElem_cons_succ, List.getElem_cons_zero, List.setIfInBounds_toArray, List.set_cons_zero, List.set_cons_succ])
      refine wpAnyH_take (i := 5) (v := ?_) rfl (by kernel_rfl) (by kernel_rfl) (by kernel_rfl) (fun _ _ _ h => h) (Or.inl ⟨by rfl, ?_⟩) (by assumption) ?_; rotate_left; (focus (intro wS hSw; (try dsimp only at hSw); go_simp <;> with_reducible rfl)); (try simp only [Act.put, List.getElem_toArray, List.getElem_cons_succ, List.getElem_cons_zero, List.setIfInBounds_toArray, List.set_cons_zero, List.set_cons_succ])
      refine wpAnyH_ready (rs := [2]) (by kernel_rfl) (by simp) ?_; refine AllReadyH.cons rfl (fun K hK => ?_) AllReadyH.nil; go_simp; (go_at_call 104; refine (HA1.out _ HQ3.out true).mono ?_; rintro e wC ⟨u, rfl, ho, hgA⟩; have HQ4 := Lib.hid (grownN_trans HQ3.out (weakG hgA)); have HC6 := Lib.hid ((HC5.out.grown (grown_drew (World.grownBy.refl w5 none))).grown hgA); have HOU := Lib.hid ho; obtain ⟨ua, un, uc, rfl, _⟩ := ho.sees.shape; clear ho hgA)
      refine hK.out _ _ ?_ (fun hHeld => ?_)
      · exact HT0.out _ HQ4.out
      clear hK K
      (try simp only [Act.put, List.getElem_toArray, List.getElem_cons_succ, List.getElem_cons_zero, List.setIfInBounds_toArray, List.set_cons_zero, List.set_cons_succ])
      refine wpAnyH_ready (rs := [6]) (by kernel_rfl) (by simp) ?_; refine AllReadyH.cons rfl (fun K hK => ?_) AllReadyH.nil; go_simp; (go_at_call 103; refine (HIH.out _ _ true _ _ (fun W' hW => (HOU.out.kept hW (.inr (fun e => by have h1 := (HOU.out.lt _ e).1; have h2 := HCP.out; have h3 := HQ3.out.size; omega))).sees) (HEN.out.kept HQ4.out) HC6.out HC2.out HCB.out).mono ?_; rintro e wD ⟨rfl, hb, hgB⟩; have HQ5 := Lib.hid (grownN_trans HQ4.out hgB); have HCY := Lib.hid hb; clear hb hgB)
      refine hK.out _ _ ?_ (fun hHeld => ?_)
      · exact HT0.out _ HQ5.out
      clear hK K
      (try simp only [Act.put, List.getElem_toArray, List.getElem_cons_succ, List.getElem_cons_zero, List.setIfInBounds_toArray, List.set_cons_zero, List.set_cons_succ])
      refine wpAnyH_done (by kernel_rfl) ?_ _
      (try simp only [Act.put, List.getElem_toArray, List.getElem_cons_succ, List.getElem_cons_zero, List.setIfInBounds_toArray, List.set_cons_zero, List.set_cons_succ])
      go_wp2
      go_end0
      exact ⟨rfl, by rw [HSUM.out]; exact HCY.out, HQ5.out⟩

set_option maxRecDepth 100000 in
set_option maxHeartbeats 4000000 in
theorem each_any (w : World) (M Nn : Nat) (hr : isRule (M : Int) (Nn : Int) = true) (N C k : Nat) (v : Value) (P : List Bool) (hk : k ≤ 10) (hv : ∀ W, w.grownBy W (some C) → SeesG encB W v P) (hP : P.length ≤ 2000000) (hN : Box w N #[.int .i64 (k : Int)] 3) (hC : Box w C #[.int .i64 0] 3) (hNC : N ≠ C) :
    Calls Try.prog 71 #[.agg #[.int .i64 (M : Int), .int .i64 (Nn : Int)], v, .func (.func 70) #[] #[.pointer (some ⟨N, 0, none⟩)], .func (.func 72) #[] #[.pointer (some ⟨C, 0, none⟩)]] w fun e w' => e = .returned (.tuple #[]) ∧ Box w' C #[.int .i64 (cw M Nn k P)] 3 ∧ w.grownBy w' (some C) := by
  have hcl := hC.lt
  have hnl := hN.lt
  have g1 := World.grownBy_alloc w (.cells #[.int .i64 (M : Int), .int .i64 (Nn : Int)] 49 (0, 0)) none
  have g2 := World.grownBy_alloc (w.alloc (.cells #[.int .i64 (M : Int), .int .i64 (Nn : Int)] 49 (0, 0))) (.cells #[.func (.func 70) #[] #[.pointer (some ⟨N, 0, none⟩)]] 90 (0, 0)) none
  have g3 := World.grownBy_alloc ((w.alloc (.cells #[.int .i64 (M : Int), .int .i64 (Nn : Int)] 49 (0, 0))).alloc (.cells #[.func (.func 70) #[] #[.pointer (some ⟨N, 0, none⟩)]] 90 (0, 0))) (.cells #[.func (.func 72) #[] #[.pointer (some ⟨C, 0, none⟩)]] 92 (0, 0)) none
  have b1 := box_new w #[.int .i64 (M : Int), .int .i64 (Nn : Int)] 49
  have b2 := box_new (w.alloc (.cells #[.int .i64 (M : Int), .int .i64 (Nn : Int)] 49 (0, 0))) #[.func (.func 70) #[] #[.pointer (some ⟨N, 0, none⟩)]] 90
  have b3 := box_new ((w.alloc (.cells #[.int .i64 (M : Int), .int .i64 (Nn : Int)] 49 (0, 0))).alloc (.cells #[.func (.func 70) #[] #[.pointer (some ⟨N, 0, none⟩)]] 90 (0, 0))) #[.func (.func 72) #[] #[.pointer (some ⟨C, 0, none⟩)]] 92
  have hs3 : (((w.alloc (.cells #[.int .i64 (M : Int), .int .i64 (Nn : Int)] 49 (0, 0))).alloc (.cells #[.func (.func 70) #[] #[.pointer (some ⟨N, 0, none⟩)]] 90 (0, 0))).alloc (.cells #[.func (.func 72) #[] #[.pointer (some ⟨C, 0, none⟩)]] 92 (0, 0))).heap.size = w.heap.size + 1 + 1 + 1 := by simp only [World.size_alloc]
  simp only [World.size_alloc] at b2 b3
  have b9 := box_new (((w.alloc (.cells #[.int .i64 (M : Int), .int .i64 (Nn : Int)] 49 (0, 0))).alloc (.cells #[.func (.func 70) #[] #[.pointer (some ⟨N, 0, none⟩)]] 90 (0, 0))).alloc (.cells #[.func (.func 72) #[] #[.pointer (some ⟨C, 0, none⟩)]] 92 (0, 0))) #[.func (.func 103) #[] #[.pointer (some ⟨w.heap.size + 1, 0, none⟩), .pointer (some ⟨w.heap.size + 1 + 1, 0, none⟩), .pointer (some ⟨w.heap.size + 1 + 1 + 1, 0, none⟩), .pointer (some ⟨w.heap.size, 0, none⟩)]] 123
  rw [hs3] at b9
  have g9 := World.grownBy_alloc (((w.alloc (.cells #[.int .i64 (M : Int), .int .i64 (Nn : Int)] 49 (0, 0))).alloc (.cells #[.func (.func 70) #[] #[.pointer (some ⟨N, 0, none⟩)]] 90 (0, 0))).alloc (.cells #[.func (.func 72) #[] #[.pointer (some ⟨C, 0, none⟩)]] 92 (0, 0))) (.cells #[.func (.func 103) #[] #[.pointer (some ⟨w.heap.size + 1, 0, none⟩), .pointer (some ⟨w.heap.size + 1 + 1, 0, none⟩), .pointer (some ⟨w.heap.size + 1 + 1 + 1, 0, none⟩), .pointer (some ⟨w.heap.size, 0, none⟩)]] 123 (0, 0)) none
  have g13 := grownN_trans (grownN_trans g1 g2) g3
  have g19 := grownN_trans g13 g9
  have HB1 := Lib.hid (((b1.grown g2).grown g3).grown g9)
  have HB2 := Lib.hid ((b2.grown g3).grown g9)
  have HB3 := Lib.hid (b3.grown g9)
  have HB4 := Lib.hid b9
  have HG := Lib.hid g19
  have HV := Lib.hid (fun W (hW : World.grownBy _ W (some C)) => hv W (grownN_trans (weakG g19) hW))
  have HN := Lib.hid (hN.grown g19)
  have HC := Lib.hid (hC.grown g19)
  have t0 := b9.cell 0
  simp only [List.getElem?_toArray, List.getElem?_cons_zero] at t0
  have HTRY := Lib.hid (try_any M Nn hr N C w.heap.size (w.heap.size + 1) (w.heap.size + 1 + 1) (w.heap.size + 1 + 1 + 1) k k)
  have HCL := Lib.hid hcl
  obtain ⟨va, vn, vc, rfl, _⟩ := (hv w (World.grownBy.refl _ _)).shape
  have HCW := Lib.hid (cw_top (m := M) (n := Nn) hk P)
  have HREST := Lib.hid (And.intro hk (And.intro True.intro (And.intro hP hNC)))
  clear g1 g2 g3 b1 b2 b3 hs3 g13 g9 g19 b9 hv hN hC hP hNC hk hnl
  have HCL2 := Lib.hid hcl
  clear hcl
  go_enter Try.func71, Try.ntmps71
  go_wp2_with fail
  generalize (((w.alloc (.cells #[.int .i64 (M : Int), .int .i64 (Nn : Int)] 49 (0, 0))).alloc (.cells #[.func (.func 70) #[] #[.pointer (some ⟨N, 0, none⟩)]] 90 (0, 0))).alloc (.cells #[.func (.func 72) #[] #[.pointer (some ⟨C, 0, none⟩)]] 92 (0, 0))).alloc (.cells #[.func (.func 103) #[] #[.pointer (some ⟨w.heap.size + 1, 0, none⟩), .pointer (some ⟨w.heap.size + 1 + 1, 0, none⟩), .pointer (some ⟨w.heap.size + 1 + 1 + 1, 0, none⟩), .pointer (some ⟨w.heap.size, 0, none⟩)]] 123 (0, 0)) = W5 at *
  have hcw := HCW.out
  have HE : Hid (Env W5 N C w.heap.size (w.heap.size + 1) (w.heap.size + 1 + 1) (w.heap.size + 1 + 1 + 1) M Nn k) := ⟨HN.out, HB1.out, HB2.out, HB3.out, HB4.out, HREST.out.2.2.2, by have := HCL2.out; omega, by have := HCL2.out; omega, by have := HCL2.out; omega, by have := HCL2.out; omega⟩
  have hT := HTRY.out W5 (.slice va vn vc) P 0 0 (Nat.le_refl _) HREST.out.1 HV.out HREST.out.2.2.1 HE.out HC.out (by omega) (by have := HREST.out.1; omega)
  rw [Nat.sub_self] at hT
  have HTT := Lib.hid hT
  clear hT hcw
  refine HTT.out.mono ?_
  rintro e w9 ⟨rfl, hb, hg⟩
  have HBB := Lib.hid hb
  have HGG := Lib.hid (grownN_trans (weakG HG.out) hg)
  clear hb hg
  go_wp2
  go_end0
  exact ⟨rfl, by have h := HBB.out; rw [Int.zero_add] at h; exact h, HGG.out⟩
end Go.Proofs.Ytbpiojnehomljaa.Cwx
