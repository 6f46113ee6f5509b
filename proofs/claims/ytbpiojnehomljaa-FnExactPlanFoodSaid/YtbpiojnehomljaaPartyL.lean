/- Contracts of the laws' helpers on parties: copies, comparisons, marks, sizes. -/
import Derived.Test.YtbpiojnehomljaaG11
import Derived.Test.YtbpiojnehomljaaG6
import Derived.Test.YtbpiojnehomljaaG7
namespace Go.Proofs.Ytbpiojnehomljaa.PartyL
open Go.RowKit Kit Rw Rg Four

/-- Two rows in different blocks. -/
def Apart (t u : Value) : Prop := (t.ownBlock = none ∨ t.ownBlock ≠ u.ownBlock) ∧ (u.ownBlock = none ∨ u.ownBlock ≠ t.ownBlock)

set_option maxRecDepth 20000 in
set_option maxHeartbeats 1000000 in
theorem toParty_any (w : World) (n f : Int) (cv pv : Value) (L : List Mem) (P : List Bool) (hc : SeesG encM w cv L) (hp : SeesG encB w pv P) (hL : L.length ≤ 100000000000) (hP : P.length ≤ 1000000000000) :
    Calls Try.prog 28 #[.agg #[.int .i64 n, .int .i64 f, cv, pv]] w fun e w' => ∃ u t, e = .returned (.agg #[.int .i64 n, .int .i64 f, u, t]) ∧ OwnG encM 113 w' w.heap.size u L ∧ OwnG encB 4 w' w.heap.size t P ∧ Apart t u ∧ w.grownBy w' none := by
  have g0 := World.grownBy_alloc w (.cells #[.int .i64 n, .int .i64 f, cv, pv] 46 (0, 0)) (none : Option Nat)
  have g1 := World.grownBy_alloc (w.alloc (.cells #[.int .i64 n, .int .i64 f, cv, pv] 46 (0, 0))) (.cells #[.int .i64 0, .int .i64 0, .slice none 0 0, .slice none 0 0] 53 (0, 0)) (none : Option Nat)
  have g2 := World.grownBy_alloc ((w.alloc (.cells #[.int .i64 n, .int .i64 f, cv, pv] 46 (0, 0))).alloc (.cells #[.int .i64 0, .int .i64 0, .slice none 0 0, .slice none 0 0] 53 (0, 0))) (.cells #[.int .i64 n, .int .i64 f, .slice none 0 0, .slice none 0 0] 53 (0, 0)) (none : Option Nat)
  have b0 := ((box_new w #[.int .i64 n, .int .i64 f, cv, pv] 46).grown g1).grown g2
  have b1 := (box_new (w.alloc (.cells #[.int .i64 n, .int .i64 f, cv, pv] 46 (0, 0))) #[.int .i64 0, .int .i64 0, .slice none 0 0, .slice none 0 0] 53).grown g2
  have b2 := box_new ((w.alloc (.cells #[.int .i64 n, .int .i64 f, cv, pv] 46 (0, 0))).alloc (.cells #[.int .i64 0, .int .i64 0, .slice none 0 0, .slice none 0 0] 53 (0, 0))) #[.int .i64 n, .int .i64 f, .slice none 0 0, .slice none 0 0] 53
  simp only [World.size_alloc] at b1 b2
  have HG := Lib.hid (grownN_trans (grownN_trans g0 g1) g2)
  have HC := Lib.hid (hc.grown HG.out)
  have HP := Lib.hid hp
  have B0 := Lib.hid b0
  have B1 := Lib.hid b1
  have B2 := Lib.hid b2
  clear hc hp g0 g1 g2 b0 b1 b2
  go_enter Try.func28, Try.ntmps28
  go_wp2_with fail
  generalize ((w.alloc (.cells #[.int .i64 n, .int .i64 f, cv, pv] 46 (0, 0))).alloc (.cells #[.int .i64 0, .int .i64 0, .slice none 0 0, .slice none 0 0] 53 (0, 0))).alloc (.cells #[.int .i64 n, .int .i64 f, .slice none 0 0, .slice none 0 0] 53 (0, 0)) = W3 at *
  refine (LawsM.to_any W3 cv L HC.out hL).mono ?_
  rintro e w4 ⟨u, rfl, ho, hg⟩
  obtain ⟨ua, un, uc, hu, HUN⟩ := ho.sees.shape
  subst hu
  have hW3 : w.heap.size + 1 + 1 < W3.heap.size := B2.out.lt
  have b04 := B0.out.grown hg
  have b14 := B1.out.grown hg
  have b24 := B2.out.grown hg
  have hset := grown_set w4 (w.heap.size + 1 + 1) 2 (.slice ua un uc)
  have b05 := b04.kept hset (by intro e; injection e with e; omega)
  have b15 := b14.kept hset (by intro e; injection e with e; omega)
  have b25 := four_set2 (v := (.slice ua un uc)) b24
  have HO5 := Lib.hid (ho.kept hset (.inr (ho.off (by omega))))
  have HG5 := Lib.hid (grown_new (grownN_trans HG.out hg) hset (fun c h => by injection h with h; omega))
  have hU4 := ho.lt
  have HU4 := Lib.hid hU4
  obtain ⟨c00, c01, c02, c03⟩ := four b04
  obtain ⟨d00, d01, d02, d03⟩ := four b05
  obtain ⟨c20, c21, c22, c23⟩ := four b24
  have f22 := b24.free 2
  have HW3 := Lib.hid hW3
  have B05 := Lib.hid b05
  have B15 := Lib.hid b15
  have B25 := Lib.hid b25
  have hsz : w4.heap.size = (w4.setCell ⟨w.heap.size + 1 + 1, 2, none⟩ (.slice ua un uc)).heap.size := by simp [World.setCell]
  have HSZ := Lib.hid hsz
  have hle := hg.size
  have HLE := Lib.hid hle
  clear b04 b14 b24 b05 b15 b25 hset hg ho hU4 hsz hle hW3
  go_wp2_with fail
  generalize w4.setCell ⟨w.heap.size + 1 + 1, 2, none⟩ (.slice ua un uc) = W5 at *
  refine (LawsBo.to_any W5 pv P (HP.out.grown HG5.out) hP).mono ?_
  rintro e w6 ⟨t, rfl, ht, hg⟩
  obtain ⟨ta, tn, tc, hte, HTN⟩ := ht.sees.shape
  subst hte
  have b16 := B15.out.grown hg
  have b26 := B25.out.grown hg
  have ho6 := HO5.out.grown hg
  have hset := grown_set w6 (w.heap.size + 1 + 1) 3 (.slice ta tn tc)
  have b17 := b16.kept hset (by intro e; injection e with e; omega)
  have b27 := four_set3 (v := (.slice ta tn tc)) b26
  have h3 := HW3.out
  have h5 := HSZ.out
  have hl := HLE.out
  have ho7 := ho6.kept hset (.inr (ho6.off (by omega)))
  have ht7 := ht.kept hset (.inr (ht.off (by omega)))
  have hg7 := grown_new (grownN_trans HG5.out hg) hset (fun c h => by injection h with h; omega)
  have hap : Apart (.slice ta tn tc) (.slice ua un uc) := apart_lt ht.lt HU4.out (by omega)
  obtain ⟨c20, c21, c22, c23⟩ := four b26
  have f23 := b26.free 3
  obtain ⟨e0, e1, e2, e3⟩ := four b27
  have HO7 := Lib.hid ho7
  have HT7 := Lib.hid ht7
  have HG7 := Lib.hid hg7
  have HAP := Lib.hid hap
  have B17 := Lib.hid b17
  obtain ⟨⟨p0, r0⟩, ⟨p1, r1⟩, ⟨p2, r2⟩, ⟨p3, r3⟩⟩ := put4_on b17 (.int .i64 n) (.int .i64 f) (.slice ua un uc) (.slice ta tn tc)
  clear b16 b26 b17 b27 ho6 ho7 ht7 hg7 hap hset hg ht c00 c01 c02 c03 d00 d01 d02 d03
  go_wp2
  try simp only [Exit.inBlock, Exit.then]
  refine ret_box rfl rfl (put4_box (x' := .int .i64 n) (y' := .int .i64 f) (z' := (.slice ua un uc)) (u' := (.slice ta tn tc)) B17.out) Try.underlying53 rfl (by kernel_rfl) rfl ?_
  have hP4 := put4_grown (w6.setCell ⟨w.heap.size + 1 + 1, 3, none⟩ (.slice ta tn tc)) (w.heap.size + 1) (.int .i64 n) (.int .i64 f) (.slice ua un uc) (.slice ta tn tc)
  exact ⟨(.slice ua un uc), (.slice ta tn tc), rfl, (HO7.out.kept hP4 (.inr (HO7.out.off (by omega)))).lower (by omega), (HT7.out.kept hP4 (.inr (HT7.out.off (by omega)))).lower (by omega), HAP.out, grown_new HG7.out hP4 (fun c h => by injection h with h; omega)⟩

set_option maxRecDepth 20000 in
set_option maxHeartbeats 1000000 in
theorem eqParty_same (w : World) (n f : Int) (u t u' t' : Value) (L : List Mem) (P : List Bool) (hu : SeesG encM w u L) (ht : SeesG encB w t P) (hu' : SeesG encM w u' L) (ht' : SeesG encB w t' P) :
    Calls Try.prog 30 #[.agg #[.int .i64 n, .int .i64 f, u, t], .agg #[.int .i64 n, .int .i64 f, u', t']] w fun e w' => e = .returned (.bool true) ∧ w.grownBy w' none := by
  have g0 := World.grownBy_alloc w (.cells #[.int .i64 n, .int .i64 f, u, t] 53 (0, 0)) (none : Option Nat)
  have g1 := World.grownBy_alloc (w.alloc (.cells #[.int .i64 n, .int .i64 f, u, t] 53 (0, 0))) (.cells #[.int .i64 n, .int .i64 f, u', t'] 53 (0, 0)) (none : Option Nat)
  have b0 := (box_new w #[.int .i64 n, .int .i64 f, u, t] 53).grown g1
  have b1 := box_new (w.alloc (.cells #[.int .i64 n, .int .i64 f, u, t] 53 (0, 0))) #[.int .i64 n, .int .i64 f, u', t'] 53
  simp only [World.size_alloc] at b1
  have HG := Lib.hid (grownN_trans g0 g1)
  have HU := Lib.hid (hu.grown HG.out)
  have HT := Lib.hid (ht.grown HG.out)
  have HU' := Lib.hid (hu'.grown HG.out)
  have HT' := Lib.hid (ht'.grown HG.out)
  have B0 := Lib.hid b0
  have B1 := Lib.hid b1
  clear hu ht hu' ht' g0 g1 b0 b1
  go_enter Try.func30, Try.ntmps30
  go_wp2_with fail
  generalize (w.alloc (.cells #[.int .i64 n, .int .i64 f, u, t] 53 (0, 0))).alloc (.cells #[.int .i64 n, .int .i64 f, u', t'] 53 (0, 0)) = W3 at *
  refine (LawsM.eq_same _ u u' L HU.out HU'.out).mono ?_
  rintro e w3 ⟨rfl, hg⟩
  have HG3 := Lib.hid (grownN_trans HG.out hg)
  have HT3 := Lib.hid (HT.out.grown hg)
  have HT3' := Lib.hid (HT'.out.grown hg)
  obtain ⟨c0, c1, c2, c3⟩ := four (B0.out.grown hg)
  obtain ⟨d0, d1, d2, d3⟩ := four (B1.out.grown hg)
  clear hg
  go_wp2_with fail
  refine (LawsBo.eq_same _ t t' P HT3.out HT3'.out).mono ?_
  rintro e w4 ⟨rfl, hg⟩
  have HG4 := Lib.hid (grownN_trans HG3.out hg)
  clear hg
  go_wp2
  go_ret
  exact ⟨rfl, HG4.out⟩

set_option maxRecDepth 20000 in
set_option maxHeartbeats 1000000 in
theorem szParty_yes (w : World) (n f : Int) (cv pv : Value) (L : List Mem) (P : List Bool) (left : Int) (hc : SeesG encM w cv L) (hp : SeesG encB w pv P) (h : (L.length : Int) + (P.length : Int) ≤ left) (hl : 0 ≤ left) (hl' : left ≤ 1048576) :
    Calls Try.prog 25 #[.agg #[.int .i64 n, .int .i64 f, cv, pv], .int .i64 left] w fun e w' => e = .returned (.int .i64 (left - ((L.length : Int) + (P.length : Int)))) ∧ w.grownBy w' none := by
  have g0 := World.grownBy_alloc w (.cells #[.int .i64 n, .int .i64 f, cv, pv] 46 (0, 0)) (none : Option Nat)
  have b0 := box_new w #[.int .i64 n, .int .i64 f, cv, pv] 46
  have HG := Lib.hid g0
  have HC := Lib.hid (hc.grown g0)
  have HP := Lib.hid (hp.grown g0)
  have B0 := Lib.hid b0
  clear hc hp g0 b0
  go_enter Try.func25, Try.ntmps25
  go_wp2_with fail
  refine (LawsM.szM_yes _ cv L left HC.out (by omega) hl hl').mono ?_
  rintro e w3 ⟨rfl, hg⟩
  have HG3 := Lib.hid (grownN_trans HG.out hg)
  have HP3 := Lib.hid (HP.out.grown hg)
  obtain ⟨c0, c1, c2, c3⟩ := four (B0.out.grown hg)
  have h0 : ¬ (left - (L.length : Int) < 0) := by omega
  clear hg
  go_wp2_with fail
  refine (LawsBo.szB_yes _ pv P (left - (L.length : Int)) HP3.out (by omega) (by omega) (by omega)).mono ?_
  rintro e w4 ⟨rfl, hg⟩
  have HG4 := Lib.hid (grownN_trans HG3.out hg)
  have h1 : ¬ (left - (L.length : Int) - (P.length : Int) < 0) := by omega
  clear hg
  go_wp2
  go_ret
  exact ⟨ret_i64 (by omega), HG4.out⟩

set_option maxRecDepth 20000 in
set_option maxHeartbeats 1000000 in
theorem szParty_no (w : World) (n f : Int) (cv pv : Value) (L : List Mem) (P : List Bool) (left : Int) (hc : SeesG encM w cv L) (hp : SeesG encB w pv P) (h : ¬ (L.length : Int) + (P.length : Int) ≤ left) (hl : 0 ≤ left) (hl' : left ≤ 1048576) :
    Calls Try.prog 25 #[.agg #[.int .i64 n, .int .i64 f, cv, pv], .int .i64 left] w fun e w' => e = .returned (.int .i64 (-1)) ∧ w.grownBy w' none := by
  have g0 := World.grownBy_alloc w (.cells #[.int .i64 n, .int .i64 f, cv, pv] 46 (0, 0)) (none : Option Nat)
  have b0 := box_new w #[.int .i64 n, .int .i64 f, cv, pv] 46
  have HG := Lib.hid g0
  have HC := Lib.hid (hc.grown g0)
  have HP := Lib.hid (hp.grown g0)
  have B0 := Lib.hid b0
  clear hc hp g0 b0
  by_cases hL : (L.length : Int) ≤ left
  · go_enter Try.func25, Try.ntmps25
    go_wp2_with fail
    refine (LawsM.szM_yes _ cv L left HC.out (by omega) hl hl').mono ?_
    rintro e w3 ⟨rfl, hg⟩
    have HG3 := Lib.hid (grownN_trans HG.out hg)
    have HP3 := Lib.hid (HP.out.grown hg)
    obtain ⟨c0, c1, c2, c3⟩ := four (B0.out.grown hg)
    have h0 : ¬ (left - (L.length : Int) < 0) := by omega
    clear hg
    go_wp2_with fail
    refine (LawsBo.szB_no _ pv P (left - (L.length : Int)) HP3.out (by omega) (by omega) (by omega)).mono ?_
    rintro e w4 ⟨rfl, hg⟩
    have HG4 := Lib.hid (grownN_trans HG3.out hg)
    clear hg
    go_wp2
    go_ret
    exact ⟨rfl, HG4.out⟩
  · go_enter Try.func25, Try.ntmps25
    go_wp2_with fail
    refine (LawsM.szM_no _ cv L left HC.out (by omega) hl hl').mono ?_
    rintro e w3 ⟨rfl, hg⟩
    have HG3 := Lib.hid (grownN_trans HG.out hg)
    clear hg
    go_wp2
    go_ret
    exact ⟨rfl, HG3.out⟩
end Go.Proofs.Ytbpiojnehomljaa.PartyL
