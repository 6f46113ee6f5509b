/- Contracts of how many steps a party may go on, of the program and of its model. -/
import Derived.Test.YtonalkamfgpokaaGreatG51
import Derived.Test.YtonalkamfgpokaaGreatWayK
import Derived.Test.YtonalkamfgpokaaGreatG24
namespace Go.Proofs.YtonalkamfgpokaaGreat.Day
open Go.RowKit Kit Rw Rg Four PartyL Pc Pd Pe Stm Crw Hom HomS Ld Wf

def walkN (ok : Nat → Bool) : Nat → Nat → Nat
  | 0, j => j
  | k + 1, j => if ok j = true then walkN ok k (j + 1) else j
theorem walkN_yes {ok : Nat → Bool} {k j : Nat} (h : ok j = true) (hk : 0 < k) : walkN ok k j = walkN ok (k - 1) (j + 1) := by
  obtain ⟨k, rfl⟩ : ∃ q, k = q + 1 := ⟨k - 1, by omega⟩
  simp [walkN, h]
theorem walkN_no {ok : Nat → Bool} {k j : Nat} (h : ok j = false) : walkN ok k j = j := by
  cases k with
  | zero => rfl
  | succ k => simp [walkN, h]
/-- The party after so many calm steps on a way. -/
structure PS where
  a : Int
  g : Int
  q : List Bool
noncomputable def stOk (W H : Int) (X : List Int) (base m rn : Int) (D : List (Int × Int)) (L : List Mem) (s : PS) (x : Int) : Bool := mayGo W H X base m rn D s.a s.g L s.q x && (!false || mayStorm m rn s.q)
noncomputable def stNx (W H : Int) (X : List Int) (base m rn : Int) (D : List (Int × Int)) (L : List Mem) (s : PS) (x : Int) : PS :=
  ⟨stN (stOk W H X base m rn D L s x) false s.a x, stF (stOk W H X base m rn D L s x) L s.g, stP (stOk W H X base m rn D L s x) false s.q⟩
noncomputable def stA (W H : Int) (X : List Int) (base m rn : Int) (D : List (Int × Int)) (L : List Mem) (way : List Int) (s0 : PS) : Nat → PS
  | 0 => s0
  | j + 1 => stNx W H X base m rn D L (stA W H X base m rn D L way s0 j) (way.getD (j + 1) 0)
noncomputable def onOf (W H : Int) (X : List Int) (base m rn : Int) (D : List (Int × Int)) (n f : Int) (L : List Mem) (P : List Bool) (t : Int) : Nat :=
  walkN (fun j => stOk W H X base m rn D L (stA W H X base m rn D L (wayOf W H X n t) ⟨n, f, P⟩ j) ((wayOf W H X n t).getD (j + 1) 0)) ((wayOf W H X n t).length - 1) 0
theorem stF_wf {ok : Bool} {L : List Mem} {f : Int} (h : (Lit.int .i64 f).wf = true) : (Lit.int .i64 (stF ok L f)).wf = true := by
  unfold stF; split
  · exact eat_wf h
  · exact h
theorem stA_ok {W H : Int} {X : List Int} {base m rn : Int} {D : List (Int × Int)} {L : List Mem} {way : List Int} {s0 : PS} (hf : (Lit.int .i64 s0.g).wf = true) (hP : s0.q.length ≤ 50000000) : ∀ j, (Lit.int .i64 (stA W H X base m rn D L way s0 j).g).wf = true ∧ (stA W H X base m rn D L way s0 j).q.length ≤ 50000000
  | 0 => ⟨hf, hP⟩
  | j + 1 => by
    have h := stA_ok (W := W) (H := H) (X := X) (base := base) (m := m) (rn := rn) (D := D) (L := L) (way := way) hf hP j
    refine ⟨stF_wf h.1, ?_⟩
    show (stP _ false _).length ≤ _
    have h2 := addDay_len (stA W H X base m rn D L way s0 j).q false
    unfold stP; split
    · omega
    · exact h.2

structure HC (w wx : World) (A B C : Nat) (W H m rn n f : Int) (xv cv pv wv : Value) (L : List Mem) (P : List Bool) (way : List Int) : Prop where
  land : Box wx A #[.int .i64 W, .int .i64 H, xv] 37
  rule : Box wx B #[.int .i64 m, .int .i64 rn] 38
  party : Box wx C #[.int .i64 n, .int .i64 f, cv, pv] 42
  sc : SeesG encM wx cv L
  sp : SeesG encB wx pv P
  grown : w.grownBy wx none
  lo : w.heap.size ≤ C
  ab : A < C ∧ B < C
  sw : Sees .i64 wx wv way
  nw : wv.ownBlock ≠ some C
  lw : ∀ c, wv.ownBlock = some c → c < wx.heap.size
section
variable {w wx wy : World} {A B C : Nat} {W H m rn n f n' f' : Int} {xv cv pv cv' pv' wv : Value} {L : List Mem} {P P' : List Bool} {way : List Int}
theorem HC.on (h : HC w wx A B C W H m rn n f xv cv pv wv L P way) (hg : wx.grownBy wy none) : HC w wy A B C W H m rn n f xv cv pv wv L P way :=
  ⟨h.land.grown hg, h.rule.grown hg, h.party.grown hg, h.sc.grown hg, h.sp.grown hg, grownN_trans h.grown hg, h.lo, h.ab, h.sw.grown hg, h.nw, fun c e => Nat.lt_of_lt_of_le (h.lw c e) hg.size⟩
theorem HC.put (h : HC w wx A B C W H m rn n f xv cv pv wv L P way) (hc : SeesG encM wx cv' L) (hp : SeesG encB wx pv' P') (oc : cv'.ownBlock ≠ some C) (op : pv'.ownBlock ≠ some C) :
    HC w (put4 wx C (.int .i64 n') (.int .i64 f') cv' pv') A B C W H m rn n' f' xv cv' pv' wv L P' way := by
  have hg := put4_grown wx C (.int .i64 n') (.int .i64 f') cv' pv'
  have h1 := h.ab
  have h2 := h.lo
  exact ⟨h.land.kept hg (fun e => by injection e; omega), h.rule.kept hg (fun e => by injection e; omega), put4_box h.party, hc.kept hg (.inr oc), hp.kept hg (.inr op), grown_new h.grown hg (fun c e => by injection e; omega), h2, h1, h.sw.kept hg (.inr h.nw), h.nw, fun c e => Nat.lt_of_lt_of_le (h.lw c e) hg.size⟩
theorem putK {KZ : Nat} {x y z u : Value} (h : HC w wx A B C W H m rn n f xv cv pv wv L P way) (hk : C < KZ) (hw : wv.ownBlock ≠ some KZ) (hc : SeesG encM (put4 wx KZ x y z u) cv' L) (hp : SeesG encB (put4 wx KZ x y z u) pv' P') (oc : cv'.ownBlock ≠ some C) (op : pv'.ownBlock ≠ some C) :
    HC w (put4 (put4 wx KZ x y z u) C (.int .i64 n') (.int .i64 f') cv' pv') A B C W H m rn n' f' xv cv' pv' wv L P' way := by
  have hg1 := put4_grown wx KZ x y z u
  have hg2 := put4_grown (put4 wx KZ x y z u) C (.int .i64 n') (.int .i64 f') cv' pv'
  have h1 := h.ab
  have h2 := h.lo
  exact ⟨(h.land.kept hg1 (fun e => by injection e; omega)).kept hg2 (fun e => by injection e; omega), (h.rule.kept hg1 (fun e => by injection e; omega)).kept hg2 (fun e => by injection e; omega), put4_box (h.party.kept hg1 (fun e => by injection e; omega)), hc.kept hg2 (.inr oc), hp.kept hg2 (.inr op), grown_new (grown_new h.grown hg1 (fun c e => by injection e; omega)) hg2 (fun c e => by injection e; omega), h2, h1, (h.sw.kept hg1 (.inr hw)).kept hg2 (.inr h.nw), h.nw, fun c e => Nat.lt_of_lt_of_le (Nat.lt_of_lt_of_le (h.lw c e) hg1.size) hg2.size⟩
theorem keepC {KZ : Nat} {w6 : World} (h : HC w wx A B C W H m rn n f xv cv pv wv L P way) (hg : wx.grownBy w6 (some KZ)) (hk : C < KZ) : (w6.cell? ⟨A, 0, none⟩ = some (.int .i64 W) ∧ w6.cell? ⟨A, 1, none⟩ = some (.int .i64 H) ∧ w6.cell? ⟨A, 2, none⟩ = some xv) ∧ (w6.cell? ⟨B, 0, none⟩ = some (.int .i64 m) ∧ w6.cell? ⟨B, 1, none⟩ = some (.int .i64 rn)) ∧
    (w6.cell? ⟨C, 0, none⟩ = some (.int .i64 n) ∧ w6.cell? ⟨C, 1, none⟩ = some (.int .i64 f) ∧ w6.cell? ⟨C, 2, none⟩ = some cv ∧ w6.cell? ⟨C, 3, none⟩ = some pv) := by
  have h1 := h.ab
  have l := h.land.kept hg (fun e => by injection e; omega)
  have r := h.rule.kept hg (fun e => by injection e; omega)
  exact ⟨l.three, ⟨r.cell 0, r.cell 1⟩, Four.four (h.party.kept hg (fun e => by injection e; omega))⟩
theorem HC.cells (h : HC w wx A B C W H m rn n f xv cv pv wv L P way) : (wx.cell? ⟨A, 0, none⟩ = some (.int .i64 W) ∧ wx.cell? ⟨A, 1, none⟩ = some (.int .i64 H) ∧ wx.cell? ⟨A, 2, none⟩ = some xv) ∧ (wx.cell? ⟨B, 0, none⟩ = some (.int .i64 m) ∧ wx.cell? ⟨B, 1, none⟩ = some (.int .i64 rn)) ∧
    (wx.cell? ⟨C, 0, none⟩ = some (.int .i64 n) ∧ wx.cell? ⟨C, 1, none⟩ = some (.int .i64 f) ∧ wx.cell? ⟨C, 2, none⟩ = some cv ∧ wx.cell? ⟨C, 3, none⟩ = some pv) :=
  ⟨h.land.three, ⟨h.rule.cell 0, h.rule.cell 1⟩, Four.four h.party⟩
end

set_option maxRecDepth 20000 in
set_option maxHeartbeats 4000000 in
theorem iOn_any (w : World) (W H base m rn n f gt : Int) (xv dv cv pv : Value) (X : List Int) (D : List (Int × Int)) (L : List Mem) (P : List Bool) (hm : (Lit.int .i64 m).wf = true) (hrn : (Lit.int .i64 rn).wf = true) (hf : (Lit.int .i64 f).wf = true)
    (hx : Sees .i64 w xv X) (hd : SeesG encP w dv D) (hc : SeesG encM w cv L) (hp : SeesG encB w pv P) (hL : L.length ≤ 1000000000) (hP : P.length ≤ 50000000) :
    Calls Tryz.prog 85 #[.agg #[.int .i64 W, .int .i64 H, xv], .int .i64 base, .agg #[.int .i64 m, .int .i64 rn], dv, .agg #[.int .i64 n, .int .i64 f, cv, pv], .int .i64 gt] w fun e w' => e = .returned (.int .i64 (onOf W H X base m rn D n f L P gt : Int)) ∧ w.grownBy w' none := by
  obtain ⟨xa, xn, xc, rfl, HXN⟩ := hx.shape
  obtain ⟨da, dn, dc, rfl, HDN⟩ := hd.shape
  obtain ⟨ca, cn, cc, rfl, HCN⟩ := hc.shape
  obtain ⟨pa, pn, pc, rfl, HPN⟩ := hp.shape
  have hb0 := H0.start (w := w) (W := W) (H := H) (m := m) (rn := rn) (n := n) (f := f) (xv := .slice xa xn xc) (cv := .slice ca cn cc) (pv := .slice pa pn pc)
  have g3 := World.grownBy_alloc (((w.alloc (.cells #[.int .i64 W, .int .i64 H, .slice xa xn xc] 37 (0, 0))).alloc (.cells #[.int .i64 m, .int .i64 rn] 38 (0, 0))).alloc (.cells #[.int .i64 n, .int .i64 f, .slice ca cn cc, .slice pa pn pc] 42 (0, 0))) (.cells #[.int .i64 n, .int .i64 f, .slice ca cn cc, .slice pa pn pc] 42 (0, 0)) (none : Option Nat)
  have b3 := box_new (((w.alloc (.cells #[.int .i64 W, .int .i64 H, .slice xa xn xc] 37 (0, 0))).alloc (.cells #[.int .i64 m, .int .i64 rn] 38 (0, 0))).alloc (.cells #[.int .i64 n, .int .i64 f, .slice ca cn cc, .slice pa pn pc] 42 (0, 0))) #[.int .i64 n, .int .i64 f, .slice ca cn cc, .slice pa pn pc] 42
  simp only [World.size_alloc] at b3
  have HB0 := Lib.hid (hb0.on g3)
  have B3 := Lib.hid (show Box _ (w.heap.size + 3) _ _ from b3)
  clear g3 b3 hb0
  have HX := Lib.hid hx
  have HD := Lib.hid hd
  have HC9 := Lib.hid hc
  have HP9 := Lib.hid hp
  have HM := Lib.hid (And.intro hm (And.intro hrn hf))
  have HLL := Lib.hid hL
  have HSO := Lib.hid (stA_ok (W := W) (H := H) (X := X) (base := base) (m := m) (rn := rn) (D := D) (L := L) (way := wayOf W H X n gt) (s0 := ⟨n, f, P⟩) hf hP)
  obtain ⟨way, hway⟩ : ∃ way, way = wayOf W H X n gt := ⟨_, rfl⟩
  obtain ⟨R, hR⟩ : ∃ R : Nat, R = onOf W H X base m rn D n f L P gt := ⟨_, rfl⟩
  obtain ⟨st, hst⟩ : ∃ st : Nat → PS, st = stA W H X base m rn D L way ⟨n, f, P⟩ := ⟨_, rfl⟩
  obtain ⟨ok, hok⟩ : ∃ ok : Nat → Bool, ok = fun j => stOk W H X base m rn D L (st j) (way.getD (j + 1) 0) := ⟨_, rfl⟩
  have hR1 : R = walkN ok (way.length - 1) 0 := by rw [hR, hok, hst, hway]; rfl
  rw [← hR]
  rw [← hway, ← hst] at HSO
  have HST0 : Hid (st 0 = ⟨n, f, P⟩) := by show _ = _; rw [hst]; rfl
  have HSTN : Hid (∀ j, st (j + 1) = stNx W H X base m rn D L (st j) (way.getD (j + 1) 0)) := fun j => by rw [hst]; rfl
  have HOK : Hid (∀ j, ok j = stOk W H X base m rn D L (st j) (way.getD (j + 1) 0)) := fun j => by rw [hok]
  have HWAY := Lib.hid hway
  have HR0 := Lib.hid hR1
  clear hway hR hst hok hR1
  obtain ⟨⟨a0, a1, a2⟩, ⟨b0, b1⟩, c0, c1, c2, c3⟩ := HB0.out.cells
  clear hx hd hc hp hm hrn hf hL hP
  go_enter Tryz.func85, Tryz.ntmps85
  go_wp2_with fail
  generalize (((w.alloc (.cells #[.int .i64 W, .int .i64 H, .slice xa xn xc] 37 (0, 0))).alloc (.cells #[.int .i64 m, .int .i64 rn] 38 (0, 0))).alloc (.cells #[.int .i64 n, .int .i64 f, .slice ca cn cc, .slice pa pn pc] 42 (0, 0))).alloc (.cells #[.int .i64 n, .int .i64 f, .slice ca cn cc, .slice pa pn pc] 42 (0, 0)) = W0 at *
  refine (WayI.wayTo_any W0 W H n gt _ X (HX.out.grown HB0.out.grown)).mono ?_
  rintro e w2 ⟨wv, rfl, ho, hg⟩
  rw [← HWAY.out] at ho
  obtain ⟨ya, yn, yc, hy', HYN⟩ := ho.sees.shape
  subst hy'
  have hwl := ho.sees.len
  have hyn : yn ≤ 9223372036854775807 := by rw [← HYN.out]; exact hwl
  have hR1 := HR0.out
  rw [HYN.out] at hR1
  have hc0 : HC w w2 w.heap.size (w.heap.size + 1) (w.heap.size + 3) W H m rn (st 0).a (st 0).g (.slice xa xn xc) (.slice ca cn cc) (.slice pa pn pc) (.slice ya yn yc) L (st 0).q way := by
    rw [HST0.out]
    exact ⟨HB0.out.land.grown hg, HB0.out.rule.grown hg, B3.out.grown hg, HC9.out.grown (grownN_trans HB0.out.grown hg), HP9.out.grown (grownN_trans HB0.out.grown hg), grownN_trans HB0.out.grown hg, by omega, ⟨by omega, by omega⟩, ho.sees, ho.off B3.out.lt, fun c e => (ho.lt c e).2⟩
  have HC0 := Lib.hid hc0
  have HR1 := Lib.hid hR1
  clear hg ho hR1 hc0 hwl a0 a1 a2 b0 b1 c0 c1 c2 c3
  go_wp2
  go_loopw [14] (fun i wr => ∃ j : Nat, ∃ c1 c2 c3 p1 p2 p3, (j = 0 ∨ j < yn) ∧ i = .int .i64 j ∧ Hid (R = walkN ok (yn - 1 - j) j) ∧ Hid (HC w wr w.heap.size (w.heap.size + 1) (w.heap.size + 3) W H m rn (st j).a (st j).g (.slice xa xn xc) (.slice c1 c2 c3) (.slice p1 p2 p3) (.slice ya yn yc) L (st j).q way)) (fun i _ => yn - (intOf i).toNat)
  case atStart => exact ⟨0, _, _, _, _, _, _, .inl rfl, rfl, HR1, HC0⟩
  case round =>
    rename_i _ wr
    obtain ⟨j, u1, u2, u3, q1, q2, q3, hj, rfl, HR, HS⟩ := hrel
    have hjl : j < 9223372036854775807 := by omega
    by_cases hlt : j + 1 < yn
    · have hjw : j + 1 < way.length := by rw [HYN.out]; exact hlt
      have hjI : (j : Int) + 1 < (yn : Int) := by omega
      have hj0 : (0 : Int) ≤ (j : Int) + 1 := by omega
      have hw1 : IntKind.i64.wrap ((j : Int) + 1) = (j : Int) + 1 := IntWalk.i64_in _ (by omega)
      have HSD := Lib.hid (HS.out.on (grown_drew (World.grownBy.refl wr none)))
      obtain ⟨x, hx⟩ : ∃ x, x = way.getD (j + 1) 0 := ⟨_, rfl⟩
      obtain ⟨b, o, rfl, hcj⟩ := HSD.out.sw.at_row (j := j + 1) hjw
      rw [← hx] at hcj
      obtain ⟨s, hs⟩ : ∃ s, s = st j := ⟨_, rfl⟩
      obtain ⟨z, hz⟩ : ∃ z, z = stOk W H X base m rn D L s x := ⟨_, rfl⟩
      have HZ : Hid (z = ok j) := by show _ = _; rw [hz, HOK.out, hs, hx]
      have HNX : Hid (st (j + 1) = ⟨stN z false s.a x, stF z L s.g, stP z false s.q⟩) := by show _ = _; rw [HSTN.out, ← hs, ← hx]; unfold stNx; rw [← hz]
      have hso := HSO.out j
      rw [← hs] at HSD HS hso
      have hgo := fun w' hx hd hc hp => iGoStep_any w' W H base m rn s.a s.g x false (.slice xa xn xc) (.slice da dn dc) (.slice u1 u2 u3) (.slice q1 q2 q3) X D L s.q HM.out.1 HM.out.2.1 hso.1 hx hd hc hp HLL.out (by have := hso.2; omega)
      rw [show (mayGo W H X base m rn D s.a s.g L s.q x && (!false || mayStorm m rn s.q)) = z from hz.symm] at hgo
      have HGO := Lib.hid hgo
      obtain ⟨sa, hsa⟩ : ∃ a, a = s.a := ⟨_, rfl⟩
      obtain ⟨sg, hsg⟩ : ∃ a, a = s.g := ⟨_, rfl⟩
      rw [← hsa, ← hsg] at HSD HGO HNX
      clear hjw hx hs hz hso hgo HS hsa hsg
      go_wp2_with fail
      refine wp_region_held_drew (S := fun w' => ((w'.cell? ⟨w.heap.size, 0, none⟩ = some (.int .i64 W) ∧ w'.cell? ⟨w.heap.size, 1, none⟩ = some (.int .i64 H) ∧ w'.cell? ⟨w.heap.size, 2, none⟩ = some (.slice xa xn xc)) ∧ (w'.cell? ⟨w.heap.size + 1, 0, none⟩ = some (.int .i64 m) ∧ w'.cell? ⟨w.heap.size + 1, 1, none⟩ = some (.int .i64 rn)) ∧ (w'.cell? ⟨w.heap.size + 3, 0, none⟩ = some (.int .i64 sa) ∧ w'.cell? ⟨w.heap.size + 3, 1, none⟩ = some (.int .i64 sg) ∧ w'.cell? ⟨w.heap.size + 3, 2, none⟩ = some (.slice u1 u2 u3) ∧ w'.cell? ⟨w.heap.size + 3, 3, none⟩ = some (.slice q1 q2 q3))) ∧ w'.cell? ⟨b, o + (j + 1), none⟩ = some (.int .i64 x)) (by kernel_rfl) ⟨HSD.out.cells, hcj⟩ (fun hHeld => ?_)
      generalize World.drew wr = WD at *
      refine wpAnyH_take (i := 0) (v := ?_) rfl (by kernel_rfl) (by kernel_rfl) (by kernel_rfl) (fun _ _ _ h => h) (Or.inl ⟨by rfl, ?_⟩) (by assumption) ?_; rotate_left; (focus (intro wS hSw; (try dsimp only at hSw); go_simp <;> with_reducible rfl)); (try simp only [Act.put, List.getElem_toArray, List.getElem_cons_succ, List.getElem_cons_zero, List.setIfInBounds_toArray, List.set_cons_zero, List.set_cons_succ])
      refine wpAnyH_take (i := 1) (v := ?_) rfl (by kernel_rfl) (by kernel_rfl) (by kernel_rfl) (fun _ _ _ h => h) (Or.inl ⟨by rfl, ?_⟩) (by assumption) ?_; rotate_left; (focus (intro wS hSw; (try dsimp only at hSw); go_simp <;> with_reducible rfl)); (try simp only [Act.put, List.getElem_toArray, List.getElem_cons_succ, List.getElem_cons_zero, List.setIfInBounds_toArray, List.set_cons_zero, List.set_cons_succ])
      refine wpAnyH_take (i := 2) (v := ?_) rfl (by kernel_rfl) (by kernel_rfl) (by kernel_rfl) (fun _ _ _ h => h) (Or.inl ⟨by rfl, ?_⟩) (by assumption) ?_; rotate_left; (focus (intro wS hSw; (try dsimp only at hSw); go_simp <;> with_reducible rfl)); (try simp only [Act.put, List.getElem_toArray, List.getElem_cons_succ, List.getElem_cons_zero, List.setIfInBounds_toArray, List.set_cons_zero, List.set_cons_succ])
      refine wpAnyH_take (i := 3) (v := ?_) rfl (by kernel_rfl) (by kernel_rfl) (by kernel_rfl) (fun _ _ _ h => h) (Or.inl ⟨by rfl, ?_⟩) (by assumption) ?_; rotate_left; (focus (intro wS hSw; (try dsimp only at hSw); go_simp <;> with_reducible rfl)); (try simp only [Act.put, List.getElem_toArray, List.getElem_cons_succ, List.getElem_cons_zero, List.setIfInBounds_toArray, List.set_cons_zero, List.set_cons_succ])
      refine wpAnyH_take (i := 4) (v := ?_) rfl (by kernel_rfl) (by kernel_rfl) (by kernel_rfl) (fun _ _ _ h => h) (Or.inl ⟨by rfl, ?_⟩) (by assumption) ?_; rotate_left; (focus (intro wS hSw; (try dsimp only at hSw); go_simp <;> with_reducible rfl)); (try simp only [Act.put, List.getElem_toArray, List.getElem_cons_succ, List.getElem_cons_zero, List.setIfInBounds_toArray, List.set_cons_zero, List.set_cons_succ])
      refine wpAnyH_take (i := 5) (v := ?_) rfl (by kernel_rfl) (by kernel_rfl) (by kernel_rfl) (fun _ _ _ h => h) (Or.inl ⟨by rfl, ?_⟩) (by assumption) ?_; rotate_left; (focus (intro wS hSw; (try dsimp only at hSw); go_simp <;> with_reducible rfl)); (try simp only [Act.put, List.getElem_toArray, List.getElem_cons_succ, List.getElem_cons_zero, List.setIfInBounds_toArray, List.set_cons_zero, List.set_cons_succ])
      refine wpAnyH_take (i := 6) (v := ?_) rfl (by kernel_rfl) (by kernel_rfl) (by kernel_rfl) (fun _ _ _ h => h) (Or.inl ⟨by rfl, ?_⟩) (by assumption) ?_; rotate_left; (focus (intro wS hSw; (try dsimp only at hSw); go_simp <;> with_reducible rfl)); (try simp only [Act.put, List.getElem_toArray, List.getElem_cons_succ, List.getElem_cons_zero, List.setIfInBounds_toArray, List.set_cons_zero, List.set_cons_succ])
      refine wpAnyH_take (i := 7) (v := ?_) rfl (by kernel_rfl) (by kernel_rfl) (by kernel_rfl) (fun _ _ _ h => h) (Or.inl ⟨by rfl, ?_⟩) (by assumption) ?_; rotate_left; (focus (intro wS hSw; (try dsimp only at hSw); go_simp <;> with_reducible rfl)); (try simp only [Act.put, List.getElem_toArray, List.getElem_cons_succ, List.getElem_cons_zero, List.setIfInBounds_toArray, List.set_cons_zero, List.set_cons_succ])
      refine wpAnyH_take (i := 8) (v := ?_) rfl (by kernel_rfl) (by kernel_rfl) (by kernel_rfl) (fun _ _ _ h => h) (Or.inl ⟨by rfl, ?_⟩) (by assumption) ?_; rotate_left; (focus (intro wS hSw; (try dsimp only at hSw); go_simp <;> with_reducible rfl)); (try simp only [Act.put, List.getElem_toArray, List.getElem_cons_succ, List.getElem_cons_zero, List.setIfInBounds_toArray, List.set_cons_zero, List.set_cons_succ])
      refine wpAnyH_take (i := 9) (v := ?_) rfl (by kernel_rfl) (by kernel_rfl) (by kernel_rfl) (fun _ _ _ h => h) (Or.inl ⟨by rfl, ?_⟩) (by assumption) ?_; rotate_left; (focus (intro wS hSw; (try dsimp only at hSw); go_simp <;> with_reducible rfl)); (try simp only [Act.put, List.getElem_toArray, List.getElem_cons_succ, List.getElem_cons_zero, List.setIfInBounds_toArray, List.set_cons_zero, List.set_cons_succ])
      refine wpAnyH_ready (rs := [10, 14]) (by kernel_rfl) (by simp) ?_
      refine AllReadyH.cons rfl (fun K hK => ?_) (AllReadyH.cons rfl (fun K hK => ?_) AllReadyH.nil)
      · go_simp
        have HSW := HSD
        have hcw := hcj
        go_at_call 41
        refine (HGO.out _ (HX.out.grown HSW.out.grown) (HD.out.grown HSW.out.grown) HSW.out.sc HSW.out.sp).mono ?_
        rintro e w5 ⟨u, t, rfl, hu, ht, _, hg⟩
        have HS5 := Lib.hid (HSW.out.on hg)
        have hc5 := hg.cell hcw (by simp)
        have hcl := HSW.out.party.lt
        clear hg
        refine hK.out _ _ ⟨HS5.out.cells, hc5⟩ (fun hHeld => ?_)
        clear hK K
        (try simp only [Act.put, List.getElem_toArray, List.getElem_cons_succ, List.getElem_cons_zero, List.setIfInBounds_toArray, List.set_cons_zero, List.set_cons_succ])
        refine wpAnyH_take (i := 11) (v := ?_) rfl (by kernel_rfl) (by kernel_rfl) (by kernel_rfl) (fun _ _ _ h => h) (Or.inl ⟨by rfl, ?_⟩) (by assumption) ?_; rotate_left; (focus (intro wS hSw; (try dsimp only at hSw); go_simp <;> with_reducible rfl)); (try simp only [Act.put, List.getElem_toArray, List.getElem_cons_succ, List.getElem_cons_zero, List.setIfInBounds_toArray, List.set_cons_zero, List.set_cons_succ])
        refine wpAnyH_take (i := 12) (v := ?_) rfl (by kernel_rfl) (by kernel_rfl) (by kernel_rfl) (fun _ _ _ h => h) (Or.inl ⟨by rfl, ?_⟩) (by assumption) ?_; rotate_left; (focus (intro wS hSw; (try dsimp only at hSw); go_simp <;> with_reducible rfl)); (try simp only [Act.put, List.getElem_toArray, List.getElem_cons_succ, List.getElem_cons_zero, List.setIfInBounds_toArray, List.set_cons_zero, List.set_cons_succ])
        refine wpAnyH_take (i := 13) (v := ?_) rfl (by kernel_rfl) (by kernel_rfl) (by kernel_rfl) (fun _ _ _ h => h) (Or.inl ⟨by rfl, ?_⟩) (by assumption) ?_; rotate_left; (focus (intro wS hSw; (try dsimp only at hSw); go_simp <;> with_reducible rfl)); (try simp only [Act.put, List.getElem_toArray, List.getElem_cons_succ, List.getElem_cons_zero, List.setIfInBounds_toArray, List.set_cons_zero, List.set_cons_succ])
        obtain ⟨va, vn, vc, hv', HVN⟩ := hu.sees.shape
        subst hv'
        obtain ⟨ta, tn, tc, ht', HTN⟩ := ht.sees.shape
        subst ht'
        refine wpAnyH_ready (rs := [14]) (by kernel_rfl) (by simp) ?_; refine AllReadyH.cons rfl (fun K hK => ?_) AllReadyH.nil; go_simp
        refine hK.out _ _ (⟨(HS5.out.on (World.grownBy_alloc _ _ _)).cells, (World.grownBy_alloc _ _ none).cell hc5 (by simp)⟩) (fun hHeld => ?_)
        clear hK K
        (try simp only [Act.put, List.getElem_toArray, List.getElem_cons_succ, List.getElem_cons_zero, List.setIfInBounds_toArray, List.set_cons_zero, List.set_cons_succ])
        refine wpAnyH_ready (rs := [15]) (by kernel_rfl) (by simp) ?_; refine AllReadyH.cons rfl (fun K hK => ?_) AllReadyH.nil; go_simp
        refine hK.out _ _ (⟨(HS5.out.on (World.grownBy_alloc _ _ _)).cells, (World.grownBy_alloc _ _ none).cell hc5 (by simp)⟩) (fun hHeld => ?_)
        clear hK K
        (try simp only [Act.put, List.getElem_toArray, List.getElem_cons_succ, List.getElem_cons_zero, List.setIfInBounds_toArray, List.set_cons_zero, List.set_cons_succ])
        refine wpAnyH_take (i := 16) (v := ?_) rfl (by kernel_rfl) (by kernel_rfl) (by kernel_rfl) (fun _ _ _ h => h) (Or.inl ⟨by rfl, ?_⟩) (by assumption) ?_; rotate_left; (focus (intro wS hSw; (try dsimp only at hSw); go_simp <;> with_reducible rfl)); (try simp only [Act.put, List.getElem_toArray, List.getElem_cons_succ, List.getElem_cons_zero, List.setIfInBounds_toArray, List.set_cons_zero, List.set_cons_succ])
        refine wpAnyH_done (by kernel_rfl) ?_ _
        (try simp only [Act.put, List.getElem_toArray, List.getElem_cons_succ, List.getElem_cons_zero, List.setIfInBounds_toArray, List.set_cons_zero, List.set_cons_succ])
        have gk := World.grownBy_alloc w5 (.cells #[.int .i64 (stN z false sa x), .int .i64 (stF z L sg), .slice va vn vc, .slice ta tn tc] 42 (0, 0)) (none : Option Nat)
        have bk := box_new w5 #[.int .i64 (stN z false sa x), .int .i64 (stF z L sg), .slice va vn vc, .slice ta tn tc] 42
        have HS6 := Lib.hid (HS5.out.on gk)
        have HU := Lib.hid (hu.sees.grown gk)
        have HT := Lib.hid (ht.sees.grown gk)
        have HNU := Lib.hid (hu.off hcl)
        have HNT := Lib.hid (ht.off hcl)
        obtain ⟨k0, k1, k2, k3⟩ := four bk
        clear hu ht gk bk hcl hc5
        cases z
        · have HE : Hid (R = j) := by show _ = _; rw [HR.out, walkN_no HZ.out.symm]
          go_wp2
          go_ret
          exact ⟨ret_i64 (by rw [HE.out]), HS6.out.grown⟩
        · have HE : Hid (R = walkN ok (yn - 1 - (j + 1)) (j + 1)) := by show _ = _; rw [HR.out, walkN_yes HZ.out.symm (by omega), show yn - 1 - j - 1 = yn - 1 - (j + 1) by omega]
          have h7 := HS6.out.put (n' := stN true false sa x) (f' := stF true L sg) HU.out HT.out HNU.out HNT.out
          obtain ⟨⟨p0, r0⟩, ⟨p1, r1⟩, ⟨p2, r2⟩, ⟨p3, r3⟩⟩ := put4_on HS6.out.party (.int .i64 (stN true false sa x)) (.int .i64 (stF true L sg)) (.slice va vn vc) (.slice ta tn tc)
          have HS7 := Lib.hid h7
          clear h7
          go_wp2
          go_roundw
          case rel =>
            refine ⟨j + 1, va, vn, vc, ta, tn, tc, .inr hlt, by go_num, HE, ?_⟩
            show HC _ _ _ _ _ _ _ _ _ _ _ _ _ _ _ _ _ _
            rw [HNX.out]
            exact HS7.out
          case measure => simp [intOf]; omega
      · go_simp
        have gz := World.grownBy_alloc WD (.cells #[.int .i64 0, .int .i64 0, .slice none 0 0, .slice none 0 0] 42 (0, 0)) (none : Option Nat)
        have bz := box_new WD #[.int .i64 0, .int .i64 0, .slice none 0 0, .slice none 0 0] 42
        have hkc := HSD.out.party.lt
        have hwz : (Value.slice (some ⟨b, o, none⟩) yn yc).ownBlock ≠ some WD.heap.size := fun e => by have := HSD.out.lw _ e; omega
        have hwb : WD.heap.size ≠ b := fun e => hwz (by rw [e]; rfl)
        have HSW := Lib.hid (HSD.out.on gz)
        have hcw := gz.cell hcj (by simp)
        refine hK.out _ _ ⟨HSW.out.cells, hcw⟩ (fun hHeld => ?_)
        clear hK K
        (try simp only [Act.put, List.getElem_toArray, List.getElem_cons_succ, List.getElem_cons_zero, List.setIfInBounds_toArray, List.set_cons_zero, List.set_cons_succ])
        generalize WD.alloc (.cells #[.int .i64 0, .int .i64 0, .slice none 0 0, .slice none 0 0] 42 (0, 0)) = WZ at *
        generalize WD.heap.size = KZ at *
        refine wpAnyH_ready (rs := [10]) (by kernel_rfl) (by simp) ?_
        refine AllReadyH.cons rfl (fun K hK => ?_) AllReadyH.nil
        go_simp
        go_at_call 41
        refine (HGO.out _ (HX.out.grown HSW.out.grown) (HD.out.grown HSW.out.grown) HSW.out.sc HSW.out.sp).mono ?_
        rintro e w5 ⟨u, t, rfl, hu, ht, _, hg⟩
        have HS5 := Lib.hid (HSW.out.on hg)
        have hc5 := hg.cell hcw (by simp)
        have hcl := HSW.out.party.lt
        have hb5 := bz.grown hg
        have hkz := bz.lt
        clear hg
        refine hK.out _ _ ⟨HS5.out.cells, hc5⟩ (fun hHeld => ?_)
        clear hK K
        (try simp only [Act.put, List.getElem_toArray, List.getElem_cons_succ, List.getElem_cons_zero, List.setIfInBounds_toArray, List.set_cons_zero, List.set_cons_succ])
        refine wpAnyH_take (i := 11) (v := ?_) rfl (by kernel_rfl) (by kernel_rfl) (by kernel_rfl) (fun _ _ _ h => h) (Or.inl ⟨by rfl, ?_⟩) (by assumption) ?_; rotate_left; (focus (intro wS hSw; (try dsimp only at hSw); go_simp <;> with_reducible rfl)); (try simp only [Act.put, List.getElem_toArray, List.getElem_cons_succ, List.getElem_cons_zero, List.setIfInBounds_toArray, List.set_cons_zero, List.set_cons_succ])
        refine wpAnyH_take (i := 12) (v := ?_) rfl (by kernel_rfl) (by kernel_rfl) (by kernel_rfl) (fun _ _ _ h => h) (Or.inl ⟨by rfl, ?_⟩) (by assumption) ?_; rotate_left; (focus (intro wS hSw; (try dsimp only at hSw); go_simp <;> with_reducible rfl)); (try simp only [Act.put, List.getElem_toArray, List.getElem_cons_succ, List.getElem_cons_zero, List.setIfInBounds_toArray, List.set_cons_zero, List.set_cons_succ])
        refine wpAnyH_take (i := 13) (v := ?_) rfl (by kernel_rfl) (by kernel_rfl) (by kernel_rfl) (fun _ _ _ h => h) (Or.inl ⟨by rfl, ?_⟩) (by assumption) ?_; rotate_left; (focus (intro wS hSw; (try dsimp only at hSw); go_simp <;> with_reducible rfl)); (try simp only [Act.put, List.getElem_toArray, List.getElem_cons_succ, List.getElem_cons_zero, List.setIfInBounds_toArray, List.set_cons_zero, List.set_cons_succ])
        obtain ⟨va, vn, vc, hv', HVN⟩ := hu.sees.shape
        subst hv'
        obtain ⟨ta, tn, tc, ht', HTN⟩ := ht.sees.shape
        subst ht'
        obtain ⟨⟨p0, r0⟩, ⟨p1, r1⟩, ⟨p2, r2⟩, ⟨p3, r3⟩⟩ := put4_on hb5 (.int .i64 (stN z false sa x)) (.int .i64 (stF z L sg)) (.slice va vn vc) (.slice ta tn tc)
        have hP4 := put4_grown w5 KZ (.int .i64 (stN z false sa x)) (.int .i64 (stF z L sg)) (.slice va vn vc) (.slice ta tn tc)
        have hlz := HSW.out.lo
        have haz := HSW.out.ab
        refine wpAnyH_ready (rs := [15]) (by kernel_rfl) (by simp) ?_; refine AllReadyH.cons rfl (fun K hK => ?_) AllReadyH.nil; go_simp
        refine hK.out _ _ (⟨keepC HS5.out hP4 hkc, hP4.cell hc5 (by intro e; injection e with e; exact hwb e.symm)⟩) (fun hHeld => ?_)
        clear hK K
        (try simp only [Act.put, List.getElem_toArray, List.getElem_cons_succ, List.getElem_cons_zero, List.setIfInBounds_toArray, List.set_cons_zero, List.set_cons_succ])
        refine wpAnyH_take (i := 16) (v := ?_) rfl (by kernel_rfl) (by kernel_rfl) (by kernel_rfl) (fun _ _ _ h => h) (Or.inl ⟨by rfl, ?_⟩) (by assumption) ?_; rotate_left; (focus (intro wS hSw; (try dsimp only at hSw); go_simp <;> with_reducible rfl)); (try simp only [Act.put, List.getElem_toArray, List.getElem_cons_succ, List.getElem_cons_zero, List.setIfInBounds_toArray, List.set_cons_zero, List.set_cons_succ])
        refine wpAnyH_done (by kernel_rfl) ?_ _
        (try simp only [Act.put, List.getElem_toArray, List.getElem_cons_succ, List.getElem_cons_zero, List.setIfInBounds_toArray, List.set_cons_zero, List.set_cons_succ])
        obtain ⟨k0, k1, k2, k3⟩ := four (put4_box (x' := .int .i64 (stN z false sa x)) (y' := .int .i64 (stF z L sg)) (z' := .slice va vn vc) (u' := .slice ta tn tc) hb5)
        have hpC := HS5.out.party.kept hP4 (by intro e; injection e with e; omega)
        have hGF := grown_new HS5.out.grown hP4 (fun c h => by injection h with h; omega)
        have HU := Lib.hid (hu.sees.kept hP4 (.inr (hu.off hkz)))
        have HT := Lib.hid (ht.sees.kept hP4 (.inr (ht.off hkz)))
        have HNU := Lib.hid (hu.off hcl)
        have HNT := Lib.hid (ht.off hcl)
        have HGF := Lib.hid hGF
        have HKC := Lib.hid hkc
        have HWZ := Lib.hid hwz
        cases z
        · have HE : Hid (R = j) := by show _ = _; rw [HR.out, walkN_no HZ.out.symm]
          simp only [put4] at k0 k1 k2 k3
          clear hu ht p0 r0 p1 r1 p2 r2 p3 r3 hP4 hpC hGF hlz haz hkz hkc hcl hwb hwz hb5 bz gz
          go_wp2
          go_ret
          exact ⟨ret_i64 (by rw [HE.out]), HGF.out⟩
        · have HE : Hid (R = walkN ok (yn - 1 - (j + 1)) (j + 1)) := by show _ = _; rw [HR.out, walkN_yes HZ.out.symm (by omega), show yn - 1 - j - 1 = yn - 1 - (j + 1) by omega]
          have HS7 := Lib.hid (putK (n' := stN true false sa x) (f' := stF true L sg) HS5.out HKC.out HWZ.out HU.out HT.out HNU.out HNT.out)
          clear p0 r0 p1 r1 p2 r2 p3 r3
          obtain ⟨⟨p0, r0⟩, ⟨p1, r1⟩, ⟨p2, r2⟩, ⟨p3, r3⟩⟩ := put4_on hpC (.int .i64 (stN true false sa x)) (.int .i64 (stF true L sg)) (.slice va vn vc) (.slice ta tn tc)
          simp only [put4] at k0 k1 k2 k3 p0 r0 p1 r1 p2 r2 p3 r3
          clear hu ht hP4 hpC hGF hlz haz hkz hkc hcl hwb hwz hb5 bz gz
          go_wp2
          go_roundw
          case rel =>
            refine ⟨j + 1, va, vn, vc, ta, tn, tc, .inr hlt, by go_num, HE, ?_⟩
            show HC _ _ _ _ _ _ _ _ _ _ _ _ _ _ _ _ _ _
            rw [HNX.out]
            exact HS7.out
          case measure => simp [intOf]; omega
    · have HE : Hid (R = j) := by
        show _ = _
        rw [HR.out, show yn - 1 - j = 0 by omega]; rfl
      go_wp2
      go_ret
      exact ⟨ret_i64 (by rw [HE.out]), HS.out.grown⟩

set_option maxRecDepth 20000 in
set_option maxHeartbeats 4000000 in
theorem sOn_any (w : World) (W H base m rn n f gt : Int) (xv dv cv pv : Value) (X : List Int) (D : List (Int × Int)) (L : List Mem) (P : List Bool) (hm : (Lit.int .i64 m).wf = true) (hrn : (Lit.int .i64 rn).wf = true) (hf : (Lit.int .i64 f).wf = true)
    (hx : Sees .i64 w xv X) (hd : SeesG encP w dv D) (hc : SeesG encM w cv L) (hp : SeesG encB w pv P) (hL : L.length ≤ 1000000000) (hP : P.length ≤ 50000000) :
    Calls Tryz.prog 83 #[.agg #[.int .i64 W, .int .i64 H, xv], .int .i64 base, .agg #[.int .i64 m, .int .i64 rn], dv, .agg #[.int .i64 n, .int .i64 f, cv, pv], .int .i64 gt] w fun e w' => e = .returned (.int .i64 (onOf W H X base m rn D n f L P gt : Int)) ∧ w.grownBy w' none := by
  obtain ⟨xa, xn, xc, rfl, HXN⟩ := hx.shape
  obtain ⟨da, dn, dc, rfl, HDN⟩ := hd.shape
  obtain ⟨ca, cn, cc, rfl, HCN⟩ := hc.shape
  obtain ⟨pa, pn, pc, rfl, HPN⟩ := hp.shape
  have hb0 := H0.start (w := w) (W := W) (H := H) (m := m) (rn := rn) (n := n) (f := f) (xv := .slice xa xn xc) (cv := .slice ca cn cc) (pv := .slice pa pn pc)
  have HB0 := Lib.hid hb0
  clear hb0
  have HX := Lib.hid hx
  have HD := Lib.hid hd
  have HC9 := Lib.hid hc
  have HP9 := Lib.hid hp
  have HM := Lib.hid (And.intro hm (And.intro hrn hf))
  have HLL := Lib.hid hL
  have HSO := Lib.hid (stA_ok (W := W) (H := H) (X := X) (base := base) (m := m) (rn := rn) (D := D) (L := L) (way := wayOf W H X n gt) (s0 := ⟨n, f, P⟩) hf hP)
  obtain ⟨way, hway⟩ : ∃ way, way = wayOf W H X n gt := ⟨_, rfl⟩
  obtain ⟨R, hR⟩ : ∃ R : Nat, R = onOf W H X base m rn D n f L P gt := ⟨_, rfl⟩
  obtain ⟨st, hst⟩ : ∃ st : Nat → PS, st = stA W H X base m rn D L way ⟨n, f, P⟩ := ⟨_, rfl⟩
  obtain ⟨ok, hok⟩ : ∃ ok : Nat → Bool, ok = fun j => stOk W H X base m rn D L (st j) (way.getD (j + 1) 0) := ⟨_, rfl⟩
  have hR1 : R = walkN ok (way.length - 1) 0 := by rw [hR, hok, hst, hway]; rfl
  rw [← hR]
  rw [← hway, ← hst] at HSO
  have HST0 : Hid (st 0 = ⟨n, f, P⟩) := by show _ = _; rw [hst]; rfl
  have HSTN : Hid (∀ j, st (j + 1) = stNx W H X base m rn D L (st j) (way.getD (j + 1) 0)) := fun j => by rw [hst]; rfl
  have HOK : Hid (∀ j, ok j = stOk W H X base m rn D L (st j) (way.getD (j + 1) 0)) := fun j => by rw [hok]
  have HWAY := Lib.hid hway
  have HR0 := Lib.hid hR1
  clear hway hR hst hok hR1
  obtain ⟨⟨a0, a1, a2⟩, ⟨b0, b1⟩, c0, c1, c2, c3⟩ := HB0.out.cells
  clear hx hd hc hp hm hrn hf hL hP
  go_enter Tryz.func83, Tryz.ntmps83
  go_wp2_with fail
  generalize ((w.alloc (.cells #[.int .i64 W, .int .i64 H, .slice xa xn xc] 37 (0, 0))).alloc (.cells #[.int .i64 m, .int .i64 rn] 38 (0, 0))).alloc (.cells #[.int .i64 n, .int .i64 f, .slice ca cn cc, .slice pa pn pc] 42 (0, 0)) = W0 at *
  refine (WayS.sWayTo_any W0 W H n gt _ X (HX.out.grown HB0.out.grown)).mono ?_
  rintro e w2 ⟨wv, rfl, ho, hg⟩
  rw [← HWAY.out] at ho
  obtain ⟨ya, yn, yc, hy', HYN⟩ := ho.sees.shape
  subst hy'
  have hwl := ho.sees.len
  have hyn : yn ≤ 9223372036854775807 := by rw [← HYN.out]; exact hwl
  have hR1 := HR0.out
  rw [HYN.out] at hR1
  have hc0 : HC w w2 w.heap.size (w.heap.size + 1) (w.heap.size + 2) W H m rn (st 0).a (st 0).g (.slice xa xn xc) (.slice ca cn cc) (.slice pa pn pc) (.slice ya yn yc) L (st 0).q way := by
    rw [HST0.out]
    exact ⟨HB0.out.land.grown hg, HB0.out.rule.grown hg, HB0.out.party.grown hg, HC9.out.grown (grownN_trans HB0.out.grown hg), HP9.out.grown (grownN_trans HB0.out.grown hg), grownN_trans HB0.out.grown hg, by omega, ⟨by omega, by omega⟩, ho.sees, ho.off HB0.out.party.lt, fun c e => (ho.lt c e).2⟩
  have HC0 := Lib.hid hc0
  have HR1 := Lib.hid hR1
  clear hg ho hR1 hc0 hwl a0 a1 a2 b0 b1 c0 c1 c2 c3
  go_wp2
  go_loopw [14] (fun i wr => ∃ j : Nat, ∃ c1 c2 c3 p1 p2 p3, (j = 0 ∨ j < yn) ∧ i = .int .i64 j ∧ Hid (R = walkN ok (yn - 1 - j) j) ∧ Hid (HC w wr w.heap.size (w.heap.size + 1) (w.heap.size + 2) W H m rn (st j).a (st j).g (.slice xa xn xc) (.slice c1 c2 c3) (.slice p1 p2 p3) (.slice ya yn yc) L (st j).q way)) (fun i _ => yn - (intOf i).toNat)
  case atStart => exact ⟨0, _, _, _, _, _, _, .inl rfl, rfl, HR1, HC0⟩
  case round =>
    rename_i _ wr
    obtain ⟨j, u1, u2, u3, q1, q2, q3, hj, rfl, HR, HS⟩ := hrel
    have hjl : j < 9223372036854775807 := by omega
    by_cases hlt : j + 1 < yn
    · have hjw : j + 1 < way.length := by rw [HYN.out]; exact hlt
      have hjI : (j : Int) + 1 < (yn : Int) := by omega
      have hj0 : (0 : Int) ≤ (j : Int) + 1 := by omega
      have hw1 : IntKind.i64.wrap ((j : Int) + 1) = (j : Int) + 1 := IntWalk.i64_in _ (by omega)
      have HSD := Lib.hid (HS.out.on (grown_drew (World.grownBy.refl wr none)))
      obtain ⟨x, hx⟩ : ∃ x, x = way.getD (j + 1) 0 := ⟨_, rfl⟩
      obtain ⟨b, o, rfl, hcj⟩ := HSD.out.sw.at_row (j := j + 1) hjw
      rw [← hx] at hcj
      obtain ⟨s, hs⟩ : ∃ s, s = st j := ⟨_, rfl⟩
      obtain ⟨z, hz⟩ : ∃ z, z = stOk W H X base m rn D L s x := ⟨_, rfl⟩
      have HZ : Hid (z = ok j) := by show _ = _; rw [hz, HOK.out, hs, hx]
      have HNX : Hid (st (j + 1) = ⟨stN z false s.a x, stF z L s.g, stP z false s.q⟩) := by show _ = _; rw [HSTN.out, ← hs, ← hx]; unfold stNx; rw [← hz]
      have hso := HSO.out j
      rw [← hs] at HSD HS hso
      have hgo := fun w' hx hd hc hp => sGoStep_any w' W H base m rn s.a s.g x false (.slice xa xn xc) (.slice da dn dc) (.slice u1 u2 u3) (.slice q1 q2 q3) X D L s.q HM.out.1 HM.out.2.1 hso.1 hx hd hc hp HLL.out (by have := hso.2; omega)
      rw [show (mayGo W H X base m rn D s.a s.g L s.q x && (!false || mayStorm m rn s.q)) = z from hz.symm] at hgo
      have HGO := Lib.hid hgo
      obtain ⟨sa, hsa⟩ : ∃ a, a = s.a := ⟨_, rfl⟩
      obtain ⟨sg, hsg⟩ : ∃ a, a = s.g := ⟨_, rfl⟩
      rw [← hsa, ← hsg] at HSD HGO HNX
      clear hjw hx hs hz hso hgo HS hsa hsg
      go_wp2_with fail
      refine wp_region_held_drew (S := fun w' => ((w'.cell? ⟨w.heap.size, 0, none⟩ = some (.int .i64 W) ∧ w'.cell? ⟨w.heap.size, 1, none⟩ = some (.int .i64 H) ∧ w'.cell? ⟨w.heap.size, 2, none⟩ = some (.slice xa xn xc)) ∧ (w'.cell? ⟨w.heap.size + 1, 0, none⟩ = some (.int .i64 m) ∧ w'.cell? ⟨w.heap.size + 1, 1, none⟩ = some (.int .i64 rn)) ∧ (w'.cell? ⟨w.heap.size + 2, 0, none⟩ = some (.int .i64 sa) ∧ w'.cell? ⟨w.heap.size + 2, 1, none⟩ = some (.int .i64 sg) ∧ w'.cell? ⟨w.heap.size + 2, 2, none⟩ = some (.slice u1 u2 u3) ∧ w'.cell? ⟨w.heap.size + 2, 3, none⟩ = some (.slice q1 q2 q3))) ∧ w'.cell? ⟨b, o + (j + 1), none⟩ = some (.int .i64 x)) (by kernel_rfl) ⟨HSD.out.cells, hcj⟩ (fun hHeld => ?_)
      generalize World.drew wr = WD at *
      refine wpAnyH_take (i := 0) (v := ?_) rfl (by kernel_rfl) (by kernel_rfl) (by kernel_rfl) (fun _ _ _ h => h) (Or.inl ⟨by rfl, ?_⟩) (by assumption) ?_; rotate_left; (focus (intro wS hSw; (try dsimp only at hSw); go_simp <;> with_reducible rfl)); (try simp only [Act.put, List.getElem_toArray, List.getElem_cons_succ, List.getElem_cons_zero, List.setIfInBounds_toArray, List.set_cons_zero, List.set_cons_succ])
      refine wpAnyH_take (i := 1) (v := ?_) rfl (by kernel_rfl) (by kernel_rfl) (by kernel_rfl) (fun _ _ _ h => h) (Or.inl ⟨by rfl, ?_⟩) (by assumption) ?_; rotate_left; (focus (intro wS hSw; (try dsimp only at hSw); go_simp <;> with_reducible rfl)); (try simp only [Act.put, List.getElem_toArray, List.getElem_cons_succ, List.getElem_cons_zero, List.setIfInBounds_toArray, List.set_cons_zero, List.set_cons_succ])
      refine wpAnyH_take (i := 2) (v := ?_) rfl (by kernel_rfl) (by kernel_rfl) (by kernel_rfl) (fun _ _ _ h => h) (Or.inl ⟨by rfl, ?_⟩) (by assumption) ?_; rotate_left; (focus (intro wS hSw; (try dsimp only at hSw); go_simp <;> with_reducible rfl)); (try simp only [Act.put, List.getElem_toArray, List.getElem_cons_succ, List.getElem_cons_zero, List.setIfInBounds_toArray, List.set_cons_zero, List.set_cons_succ])
      refine wpAnyH_take (i := 3) (v := ?_) rfl (by kernel_rfl) (by kernel_rfl) (by kernel_rfl) (fun _ _ _ h => h) (Or.inl ⟨by rfl, ?_⟩) (by assumption) ?_; rotate_left; (focus (intro wS hSw; (try dsimp only at hSw); go_simp <;> with_reducible rfl)); (try simp only [Act.put, List.getElem_toArray, List.getElem_cons_succ, List.getElem_cons_zero, List.setIfInBounds_toArray, List.set_cons_zero, List.set_cons_succ])
      refine wpAnyH_take (i := 4) (v := ?_) rfl (by kernel_rfl) (by kernel_rfl) (by kernel_rfl) (fun _ _ _ h => h) (Or.inl ⟨by rfl, ?_⟩) (by assumption) ?_; rotate_left; (focus (intro wS hSw; (try dsimp only at hSw); go_simp <;> with_reducible rfl)); (try simp only [Act.put, List.getElem_toArray, List.getElem_cons_succ, List.getElem_cons_zero, List.setIfInBounds_toArray, List.set_cons_zero, List.set_cons_succ])
      refine wpAnyH_take (i := 5) (v := ?_) rfl (by kernel_rfl) (by kernel_rfl) (by kernel_rfl) (fun _ _ _ h => h) (Or.inl ⟨by rfl, ?_⟩) (by assumption) ?_; rotate_left; (focus (intro wS hSw; (try dsimp only at hSw); go_simp <;> with_reducible rfl)); (try simp only [Act.put, List.getElem_toArray, List.getElem_cons_succ, List.getElem_cons_zero, List.setIfInBounds_toArray, List.set_cons_zero, List.set_cons_succ])
      refine wpAnyH_take (i := 6) (v := ?_) rfl (by kernel_rfl) (by kernel_rfl) (by kernel_rfl) (fun _ _ _ h => h) (Or.inl ⟨by rfl, ?_⟩) (by assumption) ?_; rotate_left; (focus (intro wS hSw; (try dsimp only at hSw); go_simp <;> with_reducible rfl)); (try simp only [Act.put, List.getElem_toArray, List.getElem_cons_succ, List.getElem_cons_zero, List.setIfInBounds_toArray, List.set_cons_zero, List.set_cons_succ])
      refine wpAnyH_take (i := 7) (v := ?_) rfl (by kernel_rfl) (by kernel_rfl) (by kernel_rfl) (fun _ _ _ h => h) (Or.inl ⟨by rfl, ?_⟩) (by assumption) ?_; rotate_left; (focus (intro wS hSw; (try dsimp only at hSw); go_simp <;> with_reducible rfl)); (try simp only [Act.put, List.getElem_toArray, List.getElem_cons_succ, List.getElem_cons_zero, List.setIfInBounds_toArray, List.set_cons_zero, List.set_cons_succ])
      refine wpAnyH_take (i := 8) (v := ?_) rfl (by kernel_rfl) (by kernel_rfl) (by kernel_rfl) (fun _ _ _ h => h) (Or.inl ⟨by rfl, ?_⟩) (by assumption) ?_; rotate_left; (focus (intro wS hSw; (try dsimp only at hSw); go_simp <;> with_reducible rfl)); (try simp only [Act.put, List.getElem_toArray, List.getElem_cons_succ, List.getElem_cons_zero, List.setIfInBounds_toArray, List.set_cons_zero, List.set_cons_succ])
      refine wpAnyH_take (i := 9) (v := ?_) rfl (by kernel_rfl) (by kernel_rfl) (by kernel_rfl) (fun _ _ _ h => h) (Or.inl ⟨by rfl, ?_⟩) (by assumption) ?_; rotate_left; (focus (intro wS hSw; (try dsimp only at hSw); go_simp <;> with_reducible rfl)); (try simp only [Act.put, List.getElem_toArray, List.getElem_cons_succ, List.getElem_cons_zero, List.setIfInBounds_toArray, List.set_cons_zero, List.set_cons_succ])
      refine wpAnyH_ready (rs := [10, 14]) (by kernel_rfl) (by simp) ?_
      refine AllReadyH.cons rfl (fun K hK => ?_) (AllReadyH.cons rfl (fun K hK => ?_) AllReadyH.nil)
      · go_simp
        have HSW := HSD
        have hcw := hcj
        go_at_call 40
        refine (HGO.out _ (HX.out.grown HSW.out.grown) (HD.out.grown HSW.out.grown) HSW.out.sc HSW.out.sp).mono ?_
        rintro e w5 ⟨u, t, rfl, hu, ht, _, hg⟩
        have HS5 := Lib.hid (HSW.out.on hg)
        have hc5 := hg.cell hcw (by simp)
        have hcl := HSW.out.party.lt
        clear hg
        refine hK.out _ _ ⟨HS5.out.cells, hc5⟩ (fun hHeld => ?_)
        clear hK K
        (try simp only [Act.put, List.getElem_toArray, List.getElem_cons_succ, List.getElem_cons_zero, List.setIfInBounds_toArray, List.set_cons_zero, List.set_cons_succ])
        refine wpAnyH_take (i := 11) (v := ?_) rfl (by kernel_rfl) (by kernel_rfl) (by kernel_rfl) (fun _ _ _ h => h) (Or.inl ⟨by rfl, ?_⟩) (by assumption) ?_; rotate_left; (focus (intro wS hSw; (try dsimp only at hSw); go_simp <;> with_reducible rfl)); (try simp only [Act.put, List.getElem_toArray, List.getElem_cons_succ, List.getElem_cons_zero, List.setIfInBounds_toArray, List.set_cons_zero, List.set_cons_succ])
        refine wpAnyH_take (i := 12) (v := ?_) rfl (by kernel_rfl) (by kernel_rfl) (by kernel_rfl) (fun _ _ _ h => h) (Or.inl ⟨by rfl, ?_⟩) (by assumption) ?_; rotate_left; (focus (intro wS hSw; (try dsimp only at hSw); go_simp <;> with_reducible rfl)); (try simp only [Act.put, List.getElem_toArray, List.getElem_cons_succ, List.getElem_cons_zero, List.setIfInBounds_toArray, List.set_cons_zero, List.set_cons_succ])
        refine wpAnyH_take (i := 13) (v := ?_) rfl (by kernel_rfl) (by kernel_rfl) (by kernel_rfl) (fun _ _ _ h => h) (Or.inl ⟨by rfl, ?_⟩) (by assumption) ?_; rotate_left; (focus (intro wS hSw; (try dsimp only at hSw); go_simp <;> with_reducible rfl)); (try simp only [Act.put, List.getElem_toArray, List.getElem_cons_succ, List.getElem_cons_zero, List.setIfInBounds_toArray, List.set_cons_zero, List.set_cons_succ])
        obtain ⟨va, vn, vc, hv', HVN⟩ := hu.sees.shape
        subst hv'
        obtain ⟨ta, tn, tc, ht', HTN⟩ := ht.sees.shape
        subst ht'
        refine wpAnyH_ready (rs := [14]) (by kernel_rfl) (by simp) ?_; refine AllReadyH.cons rfl (fun K hK => ?_) AllReadyH.nil; go_simp
        refine hK.out _ _ (⟨(HS5.out.on (World.grownBy_alloc _ _ _)).cells, (World.grownBy_alloc _ _ none).cell hc5 (by simp)⟩) (fun hHeld => ?_)
        clear hK K
        (try simp only [Act.put, List.getElem_toArray, List.getElem_cons_succ, List.getElem_cons_zero, List.setIfInBounds_toArray, List.set_cons_zero, List.set_cons_succ])
        refine wpAnyH_ready (rs := [15]) (by kernel_rfl) (by simp) ?_; refine AllReadyH.cons rfl (fun K hK => ?_) AllReadyH.nil; go_simp
        refine hK.out _ _ (⟨(HS5.out.on (World.grownBy_alloc _ _ _)).cells, (World.grownBy_alloc _ _ none).cell hc5 (by simp)⟩) (fun hHeld => ?_)
        clear hK K
        (try simp only [Act.put, List.getElem_toArray, List.getElem_cons_succ, List.getElem_cons_zero, List.setIfInBounds_toArray, List.set_cons_zero, List.set_cons_succ])
        refine wpAnyH_take (i := 16) (v := ?_) rfl (by kernel_rfl) (by kernel_rfl) (by kernel_rfl) (fun _ _ _ h => h) (Or.inl ⟨by rfl, ?_⟩) (by assumption) ?_; rotate_left; (focus (intro wS hSw; (try dsimp only at hSw); go_simp <;> with_reducible rfl)); (try simp only [Act.put, List.getElem_toArray, List.getElem_cons_succ, List.getElem_cons_zero, List.setIfInBounds_toArray, List.set_cons_zero, List.set_cons_succ])
        refine wpAnyH_done (by kernel_rfl) ?_ _
        (try simp only [Act.put, List.getElem_toArray, List.getElem_cons_succ, List.getElem_cons_zero, List.setIfInBounds_toArray, List.set_cons_zero, List.set_cons_succ])
        have gk := World.grownBy_alloc w5 (.cells #[.int .i64 (stN z false sa x), .int .i64 (stF z L sg), .slice va vn vc, .slice ta tn tc] 42 (0, 0)) (none : Option Nat)
        have bk := box_new w5 #[.int .i64 (stN z false sa x), .int .i64 (stF z L sg), .slice va vn vc, .slice ta tn tc] 42
        have HS6 := Lib.hid (HS5.out.on gk)
        have HU := Lib.hid (hu.sees.grown gk)
        have HT := Lib.hid (ht.sees.grown gk)
        have HNU := Lib.hid (hu.off hcl)
        have HNT := Lib.hid (ht.off hcl)
        obtain ⟨k0, k1, k2, k3⟩ := four bk
        clear hu ht gk bk hcl hc5
        cases z
        · have HE : Hid (R = j) := by show _ = _; rw [HR.out, walkN_no HZ.out.symm]
          go_wp2
          go_ret
          exact ⟨ret_i64 (by rw [HE.out]), HS6.out.grown⟩
        · have HE : Hid (R = walkN ok (yn - 1 - (j + 1)) (j + 1)) := by show _ = _; rw [HR.out, walkN_yes HZ.out.symm (by omega), show yn - 1 - j - 1 = yn - 1 - (j + 1) by omega]
          have h7 := HS6.out.put (n' := stN true false sa x) (f' := stF true L sg) HU.out HT.out HNU.out HNT.out
          obtain ⟨⟨p0, r0⟩, ⟨p1, r1⟩, ⟨p2, r2⟩, ⟨p3, r3⟩⟩ := put4_on HS6.out.party (.int .i64 (stN true false sa x)) (.int .i64 (stF true L sg)) (.slice va vn vc) (.slice ta tn tc)
          have HS7 := Lib.hid h7
          clear h7
          go_wp2
          go_roundw
          case rel =>
            refine ⟨j + 1, va, vn, vc, ta, tn, tc, .inr hlt, by go_num, HE, ?_⟩
            show HC _ _ _ _ _ _ _ _ _ _ _ _ _ _ _ _ _ _
            rw [HNX.out]
            exact HS7.out
          case measure => simp [intOf]; omega
      · go_simp
        have gz := World.grownBy_alloc WD (.cells #[.int .i64 0, .int .i64 0, .slice none 0 0, .slice none 0 0] 42 (0, 0)) (none : Option Nat)
        have bz := box_new WD #[.int .i64 0, .int .i64 0, .slice none 0 0, .slice none 0 0] 42
        have hkc := HSD.out.party.lt
        have hwz : (Value.slice (some ⟨b, o, none⟩) yn yc).ownBlock ≠ some WD.heap.size := fun e => by have := HSD.out.lw _ e; omega
        have hwb : WD.heap.size ≠ b := fun e => hwz (by rw [e]; rfl)
        have HSW := Lib.hid (HSD.out.on gz)
        have hcw := gz.cell hcj (by simp)
        refine hK.out _ _ ⟨HSW.out.cells, hcw⟩ (fun hHeld => ?_)
        clear hK K
        (try simp only [Act.put, List.getElem_toArray, List.getElem_cons_succ, List.getElem_cons_zero, List.setIfInBounds_toArray, List.set_cons_zero, List.set_cons_succ])
        generalize WD.alloc (.cells #[.int .i64 0, .int .i64 0, .slice none 0 0, .slice none 0 0] 42 (0, 0)) = WZ at *
        generalize WD.heap.size = KZ at *
        refine wpAnyH_ready (rs := [10]) (by kernel_rfl) (by simp) ?_
        refine AllReadyH.cons rfl (fun K hK => ?_) AllReadyH.nil
        go_simp
        go_at_call 40
        refine (HGO.out _ (HX.out.grown HSW.out.grown) (HD.out.grown HSW.out.grown) HSW.out.sc HSW.out.sp).mono ?_
        rintro e w5 ⟨u, t, rfl, hu, ht, _, hg⟩
        have HS5 := Lib.hid (HSW.out.on hg)
        have hc5 := hg.cell hcw (by simp)
        have hcl := HSW.out.party.lt
        have hb5 := bz.grown hg
        have hkz := bz.lt
        clear hg
        refine hK.out _ _ ⟨HS5.out.cells, hc5⟩ (fun hHeld => ?_)
        clear hK K
        (try simp only [Act.put, List.getElem_toArray, List.getElem_cons_succ, List.getElem_cons_zero, List.setIfInBounds_toArray, List.set_cons_zero, List.set_cons_succ])
        refine wpAnyH_take (i := 11) (v := ?_) rfl (by kernel_rfl) (by kernel_rfl) (by kernel_rfl) (fun _ _ _ h => h) (Or.inl ⟨by rfl, ?_⟩) (by assumption) ?_; rotate_left; (focus (intro wS hSw; (try dsimp only at hSw); go_simp <;> with_reducible rfl)); (try simp only [Act.put, List.getElem_toArray, List.getElem_cons_succ, List.getElem_cons_zero, List.setIfInBounds_toArray, List.set_cons_zero, List.set_cons_succ])
        refine wpAnyH_take (i := 12) (v := ?_) rfl (by kernel_rfl) (by kernel_rfl) (by kernel_rfl) (fun _ _ _ h => h) (Or.inl ⟨by rfl, ?_⟩) (by assumption) ?_; rotate_left; (focus (intro wS hSw; (try dsimp only at hSw); go_simp <;> with_reducible rfl)); (try simp only [Act.put, List.getElem_toArray, List.getElem_cons_succ, List.getElem_cons_zero, List.setIfInBounds_toArray, List.set_cons_zero, List.set_cons_succ])
        refine wpAnyH_take (i := 13) (v := ?_) rfl (by kernel_rfl) (by kernel_rfl) (by kernel_rfl) (fun _ _ _ h => h) (Or.inl ⟨by rfl, ?_⟩) (by assumption) ?_; rotate_left; (focus (intro wS hSw; (try dsimp only at hSw); go_simp <;> with_reducible rfl)); (try simp only [Act.put, List.getElem_toArray, List.getElem_cons_succ, List.getElem_cons_zero, List.setIfInBounds_toArray, List.set_cons_zero, List.set_cons_succ])
        obtain ⟨va, vn, vc, hv', HVN⟩ := hu.sees.shape
        subst hv'
        obtain ⟨ta, tn, tc, ht', HTN⟩ := ht.sees.shape
        subst ht'
        obtain ⟨⟨p0, r0⟩, ⟨p1, r1⟩, ⟨p2, r2⟩, ⟨p3, r3⟩⟩ := put4_on hb5 (.int .i64 (stN z false sa x)) (.int .i64 (stF z L sg)) (.slice va vn vc) (.slice ta tn tc)
        have hP4 := put4_grown w5 KZ (.int .i64 (stN z false sa x)) (.int .i64 (stF z L sg)) (.slice va vn vc) (.slice ta tn tc)
        have hlz := HSW.out.lo
        have haz := HSW.out.ab
        refine wpAnyH_ready (rs := [15]) (by kernel_rfl) (by simp) ?_; refine AllReadyH.cons rfl (fun K hK => ?_) AllReadyH.nil; go_simp
        refine hK.out _ _ (⟨keepC HS5.out hP4 hkc, hP4.cell hc5 (by intro e; injection e with e; exact hwb e.symm)⟩) (fun hHeld => ?_)
        clear hK K
        (try simp only [Act.put, List.getElem_toArray, List.getElem_cons_succ, List.getElem_cons_zero, List.setIfInBounds_toArray, List.set_cons_zero, List.set_cons_succ])
        refine wpAnyH_take (i := 16) (v := ?_) rfl (by kernel_rfl) (by kernel_rfl) (by kernel_rfl) (fun _ _ _ h => h) (Or.inl ⟨by rfl, ?_⟩) (by assumption) ?_; rotate_left; (focus (intro wS hSw; (try dsimp only at hSw); go_simp <;> with_reducible rfl)); (try simp only [Act.put, List.getElem_toArray, List.getElem_cons_succ, List.getElem_cons_zero, List.setIfInBounds_toArray, List.set_cons_zero, List.set_cons_succ])
        refine wpAnyH_done (by kernel_rfl) ?_ _
        (try simp only [Act.put, List.getElem_toArray, List.getElem_cons_succ, List.getElem_cons_zero, List.setIfInBounds_toArray, List.set_cons_zero, List.set_cons_succ])
        obtain ⟨k0, k1, k2, k3⟩ := four (put4_box (x' := .int .i64 (stN z false sa x)) (y' := .int .i64 (stF z L sg)) (z' := .slice va vn vc) (u' := .slice ta tn tc) hb5)
        have hpC := HS5.out.party.kept hP4 (by intro e; injection e with e; omega)
        have hGF := grown_new HS5.out.grown hP4 (fun c h => by injection h with h; omega)
        have HU := Lib.hid (hu.sees.kept hP4 (.inr (hu.off hkz)))
        have HT := Lib.hid (ht.sees.kept hP4 (.inr (ht.off hkz)))
        have HNU := Lib.hid (hu.off hcl)
        have HNT := Lib.hid (ht.off hcl)
        have HGF := Lib.hid hGF
        have HKC := Lib.hid hkc
        have HWZ := Lib.hid hwz
        cases z
        · have HE : Hid (R = j) := by show _ = _; rw [HR.out, walkN_no HZ.out.symm]
          simp only [put4] at k0 k1 k2 k3
          clear hu ht p0 r0 p1 r1 p2 r2 p3 r3 hP4 hpC hGF hlz haz hkz hkc hcl hwb hwz hb5 bz gz
          go_wp2
          go_ret
          exact ⟨ret_i64 (by rw [HE.out]), HGF.out⟩
        · have HE : Hid (R = walkN ok (yn - 1 - (j + 1)) (j + 1)) := by show _ = _; rw [HR.out, walkN_yes HZ.out.symm (by omega), show yn - 1 - j - 1 = yn - 1 - (j + 1) by omega]
          have HS7 := Lib.hid (putK (n' := stN true false sa x) (f' := stF true L sg) HS5.out HKC.out HWZ.out HU.out HT.out HNU.out HNT.out)
          clear p0 r0 p1 r1 p2 r2 p3 r3
          obtain ⟨⟨p0, r0⟩, ⟨p1, r1⟩, ⟨p2, r2⟩, ⟨p3, r3⟩⟩ := put4_on hpC (.int .i64 (stN true false sa x)) (.int .i64 (stF true L sg)) (.slice va vn vc) (.slice ta tn tc)
          simp only [put4] at k0 k1 k2 k3 p0 r0 p1 r1 p2 r2 p3 r3
          clear hu ht hP4 hpC hGF hlz haz hkz hkc hcl hwb hwz hb5 bz gz
          go_wp2
          go_roundw
          case rel =>
            refine ⟨j + 1, va, vn, vc, ta, tn, tc, .inr hlt, by go_num, HE, ?_⟩
            show HC _ _ _ _ _ _ _ _ _ _ _ _ _ _ _ _ _ _
            rw [HNX.out]
            exact HS7.out
          case measure => simp [intOf]; omega
    · have HE : Hid (R = j) := by
        show _ = _
        rw [HR.out, show yn - 1 - j = 0 by omega]; rfl
      go_wp2
      go_ret
      exact ⟨ret_i64 (by rw [HE.out]), HS.out.grown⟩
end Go.Proofs.YtonalkamfgpokaaGreat.Day
