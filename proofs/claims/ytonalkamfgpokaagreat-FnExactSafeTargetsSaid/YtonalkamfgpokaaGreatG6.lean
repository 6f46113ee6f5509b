/- Contracts of the laws' helper on the size of a row of members: enough, or too much. Contract of the laws' helper on the size of a row of bools. Contracts of the laws' helpers on parties: copies, comparisons, marks, sizes. Contracts of the laws' helpers on rows of ints: copies, comparisons, marks. Contracts of the laws' helpers on lands. Plain facts on pasts and rules: no program. -/
import Derived.Test.YtonalkamfgpokaaGreatG5
import Derived.Test.YtonalkamfgpokaaGreatG1
import Derived.Test.YtonalkamfgpokaaGreatMBase
import Derived.Deep.QuietTactic
import Derived.BigQuiet
import Derived.Deep.RegionHeld3
namespace Go.Proofs.YtonalkamfgpokaaGreat.LawsM
open Go.RowKit Kit Rw Rg
theorem szM_yes (w : World) (v : Value) (X : List Mem) (left : Int) (hv : SeesG encM w v X) (h : (X.length : Int) ≤ left) (hl : 0 ≤ left) (hl' : left ≤ 1048576) :
    Calls Tryz.prog 71 #[v, .int .i64 left] w fun e w' => e = .returned (.int .i64 (left - (X.length : Int))) ∧ w.grownBy w' none := by
  have := szM_any w v X left hv hl hl'
  rw [if_pos h] at this
  exact this.mono fun e w' h => ⟨h.1, by rw [← h.2]; exact World.grownBy.refl _ _⟩
theorem szM_no (w : World) (v : Value) (X : List Mem) (left : Int) (hv : SeesG encM w v X) (h : ¬ (X.length : Int) ≤ left) (hl : 0 ≤ left) (hl' : left ≤ 1048576) :
    Calls Tryz.prog 71 #[v, .int .i64 left] w fun e w' => e = .returned (.int .i64 (-1)) ∧ w.grownBy w' none := by
  have := szM_any w v X left hv hl hl'
  rw [if_neg h] at this
  exact this.mono fun e w' h => ⟨h.1, by rw [← h.2]; exact World.grownBy.refl _ _⟩
end Go.Proofs.YtonalkamfgpokaaGreat.LawsM

namespace Go.Proofs.YtonalkamfgpokaaGreat.LawsBo
open Go.RowKit Kit Rw Rg
theorem szB_any (w : World) (v : Value) (X : List Bool) (left : Int) (hv : SeesG encB w v X) (hl : 0 ≤ left) (hl' : left ≤ 1048576) :
    Calls Tryz.prog 72 #[v, .int .i64 left] w fun e w' => e = .returned (.int .i64 (if (X.length : Int) ≤ left then left - X.length else -1)) ∧ w = w' := by
  have hlen := hv.len
  obtain ⟨a, cap, rfl, _⟩ := hv
  by_cases h : (X.length : Int) ≤ left
  · rw [if_pos h]
    go_enter Tryz.func72, Tryz.ntmps72
    go_wp2
    go_ret
    exact ⟨rfl, rfl⟩
  · rw [if_neg h]
    have h2 : left - (X.length : Int) < 0 := by omega
    go_enter Tryz.func72, Tryz.ntmps72
    go_wp2
    go_ret
    exact ⟨rfl, rfl⟩

theorem szB_yes (w : World) (v : Value) (X : List Bool) (left : Int) (hv : SeesG encB w v X) (h : (X.length : Int) ≤ left) (hl : 0 ≤ left) (hl' : left ≤ 1048576) :
    Calls Tryz.prog 72 #[v, .int .i64 left] w fun e w' => e = .returned (.int .i64 (left - (X.length : Int))) ∧ w.grownBy w' none := by
  have := szB_any w v X left hv hl hl'
  rw [if_pos h] at this
  exact this.mono fun e w' h => ⟨h.1, by rw [← h.2]; exact World.grownBy.refl _ _⟩
theorem szB_no (w : World) (v : Value) (X : List Bool) (left : Int) (hv : SeesG encB w v X) (h : ¬ (X.length : Int) ≤ left) (hl : 0 ≤ left) (hl' : left ≤ 1048576) :
    Calls Tryz.prog 72 #[v, .int .i64 left] w fun e w' => e = .returned (.int .i64 (-1)) ∧ w.grownBy w' none := by
  have := szB_any w v X left hv hl hl'
  rw [if_neg h] at this
  exact this.mono fun e w' h => ⟨h.1, by rw [← h.2]; exact World.grownBy.refl _ _⟩
end Go.Proofs.YtonalkamfgpokaaGreat.LawsBo

namespace Go.Proofs.YtonalkamfgpokaaGreat.PartyL
open Go.RowKit Kit Rw Rg Four

/-- Two rows in different blocks. -/
def Apart (t u : Value) : Prop := (t.ownBlock = none ∨ t.ownBlock ≠ u.ownBlock) ∧ (u.ownBlock = none ∨ u.ownBlock ≠ t.ownBlock)

set_option maxRecDepth 20000 in
set_option maxHeartbeats 1000000 in
theorem toParty_any (w : World) (n f : Int) (cv pv : Value) (L : List Mem) (P : List Bool) (hc : SeesG encM w cv L) (hp : SeesG encB w pv P) (hL : L.length ≤ 100000000000) (hP : P.length ≤ 1000000000000) :
    Calls Tryz.prog 27 #[.agg #[.int .i64 n, .int .i64 f, cv, pv]] w fun e w' => ∃ u t, e = .returned (.agg #[.int .i64 n, .int .i64 f, u, t]) ∧ OwnG encM 143 w' w.heap.size u L ∧ OwnG encB 4 w' w.heap.size t P ∧ Apart t u ∧ w.grownBy w' none := by
  have g0 := World.grownBy_alloc w (.cells #[.int .i64 n, .int .i64 f, cv, pv] 31 (0, 0)) (none : Option Nat)
  have g1 := World.grownBy_alloc (w.alloc (.cells #[.int .i64 n, .int .i64 f, cv, pv] 31 (0, 0))) (.cells #[.int .i64 0, .int .i64 0, .slice none 0 0, .slice none 0 0] 42 (0, 0)) (none : Option Nat)
  have g2 := World.grownBy_alloc ((w.alloc (.cells #[.int .i64 n, .int .i64 f, cv, pv] 31 (0, 0))).alloc (.cells #[.int .i64 0, .int .i64 0, .slice none 0 0, .slice none 0 0] 42 (0, 0))) (.cells #[.int .i64 n, .int .i64 f, .slice none 0 0, .slice none 0 0] 42 (0, 0)) (none : Option Nat)
  have b0 := ((box_new w #[.int .i64 n, .int .i64 f, cv, pv] 31).grown g1).grown g2
  have b1 := (box_new (w.alloc (.cells #[.int .i64 n, .int .i64 f, cv, pv] 31 (0, 0))) #[.int .i64 0, .int .i64 0, .slice none 0 0, .slice none 0 0] 42).grown g2
  have b2 := box_new ((w.alloc (.cells #[.int .i64 n, .int .i64 f, cv, pv] 31 (0, 0))).alloc (.cells #[.int .i64 0, .int .i64 0, .slice none 0 0, .slice none 0 0] 42 (0, 0))) #[.int .i64 n, .int .i64 f, .slice none 0 0, .slice none 0 0] 42
  simp only [World.size_alloc] at b1 b2
  have HG := Lib.hid (grownN_trans (grownN_trans g0 g1) g2)
  have HC := Lib.hid (hc.grown HG.out)
  have HP := Lib.hid hp
  have B0 := Lib.hid b0
  have B1 := Lib.hid b1
  have B2 := Lib.hid b2
  clear hc hp g0 g1 g2 b0 b1 b2
  go_enter Tryz.func27, Tryz.ntmps27
  go_wp2_with fail
  generalize ((w.alloc (.cells #[.int .i64 n, .int .i64 f, cv, pv] 31 (0, 0))).alloc (.cells #[.int .i64 0, .int .i64 0, .slice none 0 0, .slice none 0 0] 42 (0, 0))).alloc (.cells #[.int .i64 n, .int .i64 f, .slice none 0 0, .slice none 0 0] 42 (0, 0)) = W3 at *
  refine (LawsM.to_any W3 cv L HC.out hL).mono ?_
  rintro e w4 ⟨u, rfl, ho, hg⟩
  obtain ⟨ua, un, uc, hu, HUN⟩ := ho.sees.shape
  subst hu
  have hW3 : w.heap.size + 1 + 1 < W3.heap.size := B2.out.lt
  have b04 := B0.out.grown hg
  have b14 := B1.out.grown hg
  have b24 := B2.out.grown hg
  have hset := grown_set w4 (w.heap.size + 1 + 1) 2 (.slice ua un uc)
  have b05 := b04.kept hset (by intro e; injection e with e; omega)
  have b15 := b14.kept hset (by intro e; injection e with e; omega)
  have b25 := four_set2 (v := (.slice ua un uc)) b24
  have HO5 := Lib.hid (ho.kept hset (.inr (ho.off (by omega))))
  have HG5 := Lib.hid (grown_new (grownN_trans HG.out hg) hset (fun c h => by injection h with h; omega))
  have hU4 := ho.lt
  have HU4 := Lib.hid hU4
  obtain ⟨c00, c01, c02, c03⟩ := four b04
  obtain ⟨d00, d01, d02, d03⟩ := four b05
  obtain ⟨c20, c21, c22, c23⟩ := four b24
  have f22 := b24.free 2
  have HW3 := Lib.hid hW3
  have B05 := Lib.hid b05
  have B15 := Lib.hid b15
  have B25 := Lib.hid b25
  have hsz : w4.heap.size = (w4.setCell ⟨w.heap.size + 1 + 1, 2, none⟩ (.slice ua un uc)).heap.size := by simp [World.setCell]
  have HSZ := Lib.hid hsz
  have hle := hg.size
  have HLE := Lib.hid hle
  clear b04 b14 b24 b05 b15 b25 hset hg ho hU4 hsz hle hW3
  go_wp2_with fail
  generalize w4.setCell ⟨w.heap.size + 1 + 1, 2, none⟩ (.slice ua un uc) = W5 at *
  refine (LawsBo.to_any W5 pv P (HP.out.grown HG5.out) hP).mono ?_
  rintro e w6 ⟨t, rfl, ht, hg⟩
  obtain ⟨ta, tn, tc, hte, HTN⟩ := ht.sees.shape
  subst hte
  have b16 := B15.out.grown hg
  have b26 := B25.out.grown hg
  have ho6 := HO5.out.grown hg
  have hset := grown_set w6 (w.heap.size + 1 + 1) 3 (.slice ta tn tc)
  have b17 := b16.kept hset (by intro e; injection e with e; omega)
  have b27 := four_set3 (v := (.slice ta tn tc)) b26
  have h3 := HW3.out
  have h5 := HSZ.out
  have hl := HLE.out
  have ho7 := ho6.kept hset (.inr (ho6.off (by omega)))
  have ht7 := ht.kept hset (.inr (ht.off (by omega)))
  have hg7 := grown_new (grownN_trans HG5.out hg) hset (fun c h => by injection h with h; omega)
  have hap : Apart (.slice ta tn tc) (.slice ua un uc) := apart_lt ht.lt HU4.out (by omega)
  obtain ⟨c20, c21, c22, c23⟩ := four b26
  have f23 := b26.free 3
  obtain ⟨e0, e1, e2, e3⟩ := four b27
  have HO7 := Lib.hid ho7
  have HT7 := Lib.hid ht7
  have HG7 := Lib.hid hg7
  have HAP := Lib.hid hap
  have B17 := Lib.hid b17
  obtain ⟨⟨p0, r0⟩, ⟨p1, r1⟩, ⟨p2, r2⟩, ⟨p3, r3⟩⟩ := put4_on b17 (.int .i64 n) (.int .i64 f) (.slice ua un uc) (.slice ta tn tc)
  clear b16 b26 b17 b27 ho6 ho7 ht7 hg7 hap hset hg ht c00 c01 c02 c03 d00 d01 d02 d03
  go_wp2
  try simp only [Exit.inBlock, Exit.then]
  refine ret_box rfl rfl (put4_box (x' := .int .i64 n) (y' := .int .i64 f) (z' := (.slice ua un uc)) (u' := (.slice ta tn tc)) B17.out) Tryz.underlying42 rfl (by kernel_rfl) rfl ?_
  have hP4 := put4_grown (w6.setCell ⟨w.heap.size + 1 + 1, 3, none⟩ (.slice ta tn tc)) (w.heap.size + 1) (.int .i64 n) (.int .i64 f) (.slice ua un uc) (.slice ta tn tc)
  exact ⟨(.slice ua un uc), (.slice ta tn tc), rfl, (HO7.out.kept hP4 (.inr (HO7.out.off (by omega)))).lower (by omega), (HT7.out.kept hP4 (.inr (HT7.out.off (by omega)))).lower (by omega), HAP.out, grown_new HG7.out hP4 (fun c h => by injection h with h; omega)⟩

set_option maxRecDepth 20000 in
set_option maxHeartbeats 1000000 in
theorem eqParty_same (w : World) (n f : Int) (u t u' t' : Value) (L : List Mem) (P : List Bool) (hu : SeesG encM w u L) (ht : SeesG encB w t P) (hu' : SeesG encM w u' L) (ht' : SeesG encB w t' P) :
    Calls Tryz.prog 31 #[.agg #[.int .i64 n, .int .i64 f, u, t], .agg #[.int .i64 n, .int .i64 f, u', t']] w fun e w' => e = .returned (.bool true) ∧ w.grownBy w' none := by
  have g0 := World.grownBy_alloc w (.cells #[.int .i64 n, .int .i64 f, u, t] 42 (0, 0)) (none : Option Nat)
  have g1 := World.grownBy_alloc (w.alloc (.cells #[.int .i64 n, .int .i64 f, u, t] 42 (0, 0))) (.cells #[.int .i64 n, .int .i64 f, u', t'] 42 (0, 0)) (none : Option Nat)
  have b0 := (box_new w #[.int .i64 n, .int .i64 f, u, t] 42).grown g1
  have b1 := box_new (w.alloc (.cells #[.int .i64 n, .int .i64 f, u, t] 42 (0, 0))) #[.int .i64 n, .int .i64 f, u', t'] 42
  simp only [World.size_alloc] at b1
  have HG := Lib.hid (grownN_trans g0 g1)
  have HU := Lib.hid (hu.grown HG.out)
  have HT := Lib.hid (ht.grown HG.out)
  have HU' := Lib.hid (hu'.grown HG.out)
  have HT' := Lib.hid (ht'.grown HG.out)
  have B0 := Lib.hid b0
  have B1 := Lib.hid b1
  clear hu ht hu' ht' g0 g1 b0 b1
  go_enter Tryz.func31, Tryz.ntmps31
  go_wp2_with fail
  generalize (w.alloc (.cells #[.int .i64 n, .int .i64 f, u, t] 42 (0, 0))).alloc (.cells #[.int .i64 n, .int .i64 f, u', t'] 42 (0, 0)) = W3 at *
  refine (LawsM.eq_same _ u u' L HU.out HU'.out).mono ?_
  rintro e w3 ⟨rfl, hg⟩
  have HG3 := Lib.hid (grownN_trans HG.out hg)
  have HT3 := Lib.hid (HT.out.grown hg)
  have HT3' := Lib.hid (HT'.out.grown hg)
  obtain ⟨c0, c1, c2, c3⟩ := four (B0.out.grown hg)
  obtain ⟨d0, d1, d2, d3⟩ := four (B1.out.grown hg)
  clear hg
  go_wp2_with fail
  refine (LawsBo.eq_same _ t t' P HT3.out HT3'.out).mono ?_
  rintro e w4 ⟨rfl, hg⟩
  have HG4 := Lib.hid (grownN_trans HG3.out hg)
  clear hg
  go_wp2
  go_ret
  exact ⟨rfl, HG4.out⟩

set_option maxRecDepth 20000 in
set_option maxHeartbeats 1000000 in
theorem markParty_any (w : World) (base : Nat) (n f : Int) (u t : Value) (L : List Mem) (P : List Bool) (m : Nat) (hu : OwnG encM 143 w base u L) (ht : OwnG encB 4 w base t P) (hap : Apart t u) (hm : m + 4 * L.length + P.length ≤ 4000000000000000000) :
    Calls Tryz.prog 37 #[.agg #[.int .i64 n, .int .i64 f, u, t], .int .i64 m] w fun e w' => e = .returned (.int .i64 ((m + 4 * L.length + P.length : Nat) : Int)) ∧ OwnG encM 143 w' base u (LawsM.marksM m L.length) ∧ OwnG encB 4 w' base t (LawsBo.marksB (m + 4 * L.length) P.length) ∧
      ∃ wm, w.grownBy wm u.ownBlock ∧ wm.grownBy w' t.ownBlock := by
  have g0 := World.grownBy_alloc w (.cells #[.int .i64 n, .int .i64 f, u, t] 42 (0, 0)) (none : Option Nat)
  have b0 := box_new w #[.int .i64 n, .int .i64 f, u, t] 42
  have HG := Lib.hid g0
  have HU := Lib.hid (hu.grown g0)
  have HT := Lib.hid (ht.grown g0)
  have hub : u.ownBlock ≠ some w.heap.size := fun e => by have := hu.lt _ e; omega
  have HUB := Lib.hid hub
  have B0 := Lib.hid b0
  have HAP := Lib.hid hap
  clear hu ht g0 b0 hub hap
  go_enter Tryz.func37, Tryz.ntmps37
  go_wp2_with fail
  refine (LawsM.mark_any _ base u L m HU.out (by omega)).mono ?_
  rintro e w3 ⟨rfl, ho, hg⟩
  have HO := Lib.hid ho
  have HG3 : Hid (w.grownBy w3 u.ownBlock) := grown_old' HG.out hg
  have HT3 := Lib.hid (HT.out.kept hg HAP.out.1)
  obtain ⟨c0, c1, c2, c3⟩ := four (B0.out.kept hg HUB.out)
  clear ho hg
  go_wp2_with fail
  refine (LawsBo.mark_any _ base t P (m + 4 * L.length) HT3.out (by omega)).mono ?_
  rintro e w4 ⟨rfl, ht, hg⟩
  have HT4 := Lib.hid ht
  have HO4 := Lib.hid (HO.out.kept hg HAP.out.2)
  have HG4 := Lib.hid hg
  clear ht hg
  go_wp2
  go_ret
  exact ⟨rfl, HO4.out, HT4.out, w3, HG3.out, HG4.out⟩

set_option maxRecDepth 20000 in
set_option maxHeartbeats 1000000 in
theorem szParty_yes (w : World) (n f : Int) (cv pv : Value) (L : List Mem) (P : List Bool) (left : Int) (hc : SeesG encM w cv L) (hp : SeesG encB w pv P) (h : (L.length : Int) + (P.length : Int) ≤ left) (hl : 0 ≤ left) (hl' : left ≤ 1048576) :
    Calls Tryz.prog 22 #[.agg #[.int .i64 n, .int .i64 f, cv, pv], .int .i64 left] w fun e w' => e = .returned (.int .i64 (left - ((L.length : Int) + (P.length : Int)))) ∧ w.grownBy w' none := by
  have g0 := World.grownBy_alloc w (.cells #[.int .i64 n, .int .i64 f, cv, pv] 31 (0, 0)) (none : Option Nat)
  have b0 := box_new w #[.int .i64 n, .int .i64 f, cv, pv] 31
  have HG := Lib.hid g0
  have HC := Lib.hid (hc.grown g0)
  have HP := Lib.hid (hp.grown g0)
  have B0 := Lib.hid b0
  clear hc hp g0 b0
  go_enter Tryz.func22, Tryz.ntmps22
  go_wp2_with fail
  refine (LawsM.szM_yes _ cv L left HC.out (by omega) hl hl').mono ?_
  rintro e w3 ⟨rfl, hg⟩
  have HG3 := Lib.hid (grownN_trans HG.out hg)
  have HP3 := Lib.hid (HP.out.grown hg)
  obtain ⟨c0, c1, c2, c3⟩ := four (B0.out.grown hg)
  have h0 : ¬ (left - (L.length : Int) < 0) := by omega
  clear hg
  go_wp2_with fail
  refine (LawsBo.szB_yes _ pv P (left - (L.length : Int)) HP3.out (by omega) (by omega) (by omega)).mono ?_
  rintro e w4 ⟨rfl, hg⟩
  have HG4 := Lib.hid (grownN_trans HG3.out hg)
  have h1 : ¬ (left - (L.length : Int) - (P.length : Int) < 0) := by omega
  clear hg
  go_wp2
  go_ret
  exact ⟨ret_i64 (by omega), HG4.out⟩

set_option maxRecDepth 20000 in
set_option maxHeartbeats 1000000 in
theorem szParty_no (w : World) (n f : Int) (cv pv : Value) (L : List Mem) (P : List Bool) (left : Int) (hc : SeesG encM w cv L) (hp : SeesG encB w pv P) (h : ¬ (L.length : Int) + (P.length : Int) ≤ left) (hl : 0 ≤ left) (hl' : left ≤ 1048576) :
    Calls Tryz.prog 22 #[.agg #[.int .i64 n, .int .i64 f, cv, pv], .int .i64 left] w fun e w' => e = .returned (.int .i64 (-1)) ∧ w.grownBy w' none := by
  have g0 := World.grownBy_alloc w (.cells #[.int .i64 n, .int .i64 f, cv, pv] 31 (0, 0)) (none : Option Nat)
  have b0 := box_new w #[.int .i64 n, .int .i64 f, cv, pv] 31
  have HG := Lib.hid g0
  have HC := Lib.hid (hc.grown g0)
  have HP := Lib.hid (hp.grown g0)
  have B0 := Lib.hid b0
  clear hc hp g0 b0
  by_cases hL : (L.length : Int) ≤ left
  · go_enter Tryz.func22, Tryz.ntmps22
    go_wp2_with fail
    refine (LawsM.szM_yes _ cv L left HC.out (by omega) hl hl').mono ?_
    rintro e w3 ⟨rfl, hg⟩
    have HG3 := Lib.hid (grownN_trans HG.out hg)
    have HP3 := Lib.hid (HP.out.grown hg)
    obtain ⟨c0, c1, c2, c3⟩ := four (B0.out.grown hg)
    have h0 : ¬ (left - (L.length : Int) < 0) := by omega
    clear hg
    go_wp2_with fail
    refine (LawsBo.szB_no _ pv P (left - (L.length : Int)) HP3.out (by omega) (by omega) (by omega)).mono ?_
    rintro e w4 ⟨rfl, hg⟩
    have HG4 := Lib.hid (grownN_trans HG3.out hg)
    clear hg
    go_wp2
    go_ret
    exact ⟨rfl, HG4.out⟩
  · go_enter Tryz.func22, Tryz.ntmps22
    go_wp2_with fail
    refine (LawsM.szM_no _ cv L left HC.out (by omega) hl hl').mono ?_
    rintro e w3 ⟨rfl, hg⟩
    have HG3 := Lib.hid (grownN_trans HG.out hg)
    clear hg
    go_wp2
    go_ret
    exact ⟨rfl, HG3.out⟩
end Go.Proofs.YtonalkamfgpokaaGreat.PartyL

namespace Go.Proofs.YtonalkamfgpokaaGreat.LawsI
open Go.RowKit Kit Rw

theorem info_i64 : (Tryz.prog.info? 3).map (fun i => (i.zero, i.size, i.bytes)) = some (some (.int .i64 0), 1, 8) := by kernel_rfl

/-- The marks from 'm' on. -/
def marksI (m n : Nat) : List Int := (List.range n).map (fun j => ((m + j : Nat) : Int))
theorem marksI_len (m n : Nat) : (marksI m n).length = n := by simp [marksI]
theorem marksI_get {m n j : Nat} (hj : j < n) : (marksI m n).getD j 0 = ((m + j : Nat) : Int) := by simp [marksI, hj]

theorem list_same {X Y : List Int} (h : X.length = Y.length) (he : ∀ m, m < Y.length → X.getD m 0 = Y.getD m 0) : X = Y := by
  apply List.ext_getElem h
  intro i h1 h2
  have := he i h2
  simpa [h1, h2] using this

set_option maxHeartbeats 400000 in
theorem to_any (w : World) (v : Value) (X : List Int) (hv : Sees .i64 w v X) (hn : X.length ≤ 1000000000000) :
    Calls Tryz.prog 60 #[v] w fun e w' => ∃ u, e = .returned u ∧ Own .i64 3 w' w.heap.size u X ∧ w.grownBy w' none := by
  have HV := Lib.hid hv
  have HW := Lib.hid hv.wf
  obtain ⟨a, cap, rfl, hlc, hcm, hnil, hwf, hcell⟩ := hv
  have hn1 : X.length ≤ maxLen := by unfold maxLen; omega
  clear hwf hcm hnil
  have HC := Lib.hid hcell
  clear hcell
  obtain ⟨i0, hi, hz0, hz1, hz2⟩ := info_parts info_i64
  go_enter Tryz.func60, Tryz.ntmps60
  go_wp2_with (at_make; refine wpList_make_full _ rfl _ _ 22 rfl w.heap.size 3 i0 (.int .i64 0) 1 Tryz.underlying22 hi hz0 hz1 .i64 .i64 _ _ X.length rfl rfl rfl rfl (by rw [hz2]; omega) hn1 (Nat.le_refl _) ?_; intro w1 hown hgrow)
  have hown : w1.ownsRow w.heap.size 3 1 (.slice (some ⟨w.heap.size, 0, none⟩) X.length X.length) X.length ((X.take 0 ++ (List.replicate X.length 0).drop 0).map (Value.int .i64)) := by
    simpa [toList_madeCells_one, Value.cells] using hown
  have HV1 := Lib.hid (HV.out.grown hgrow)
  have HO := Lib.hid hown
  have HG := Lib.hid hgrow
  clear hown hgrow
  go_loopw [4] (fun i wr => ∃ j : Nat, j ≤ X.length ∧ i = .int .i64 j ∧ Hid (wr.ownsRow w.heap.size 3 1 (.slice (some ⟨w.heap.size, 0, none⟩) X.length X.length) X.length ((X.take j ++ (List.replicate X.length 0).drop j).map (Value.int .i64))) ∧ Hid (w.grownBy wr none))
    (fun i _ => X.length - (intOf i).toNat)
  case atStart => exact ⟨0, Nat.zero_le _, rfl, HO, HG⟩
  case round =>
    obtain ⟨j, hj, rfl, HO1, HG1⟩ := hrel
    by_cases hlt : j < X.length
    · rcases HC.out with hX | ⟨b, o, rfl, hc⟩
      · simp [hX] at hlt
      have hcj : wr.cell? ⟨b, o + j, none⟩ = some (.int .i64 (X.getD j 0)) := HG1.out.cell (hc j hlt) (by simp)
      have hf := HO1.out.frozenAt j
      have hd := HO1.out.cellAt j (by omega)
      go_wp2
      go_roundw
      case rel =>
        refine ⟨j + 1, by omega, by go_num, ?_, ?_⟩
        · have hs := own_set HO1.out j (X.getD j 0)
          rw [splice_set (by simp) hlt, show X.getD j 0 = X[j] by simp [hlt]] at hs
          exact hs.1
        · exact grown_new HG1.out (own_set HO1.out j _).2 (fun c h => by injection h with h; omega)
      case measure => simp [intOf]; omega
    · have : j = X.length := by omega
      subst this
      go_wp2
      go_ret
      exact ⟨_, rfl, ⟨by simpa using HO1.out, HW.out⟩, HG1.out⟩

set_option maxHeartbeats 400000 in
theorem eq_any (w : World) (u v : Value) (X Y : List Int) (hu : Sees .i64 w u X) (hv : Sees .i64 w v Y) :
    Calls Tryz.prog 34 #[u, v] w fun e w' => e = .returned (.bool (decide (X = Y))) ∧ w.grownBy w' none := by
  have hl := hu.len
  obtain ⟨a, cap, rfl, _, _, _, hwx, hcell⟩ := hu
  obtain ⟨a2, cap2, rfl, _, _, _, hwy, hcell2⟩ := hv
  have HC := Lib.hid hcell
  have HD := Lib.hid hcell2
  clear hcell hcell2 hwx hwy
  by_cases hxy : X.length = Y.length
  · have HXY := Lib.hid hxy
    go_enter Tryz.func34, Tryz.ntmps34
    go_wp2
    go_loopw [5] (fun i wr => ∃ j : Nat, j ≤ Y.length ∧ i = .int .i64 j ∧ Hid (∀ m, m < j → X.getD m 0 = Y.getD m 0) ∧ Hid (w.grownBy wr none))
      (fun i _ => Y.length - (intOf i).toNat)
    case atStart => exact ⟨0, Nat.zero_le _, rfl, fun m hm => absurd hm (Nat.not_lt_zero _), World.grownBy.refl _ _⟩
    case round =>
      obtain ⟨j, hj, rfl, HE, HG1⟩ := hrel
      by_cases hlt : j < Y.length
      · rcases HC.out with hX | ⟨b, o, rfl, hc⟩
        · simp [hX] at hxy; omega
        rcases HD.out with hX | ⟨b2, o2, rfl, hc2⟩
        · simp [hX] at hlt
        have hcj : wr.cell? ⟨b, o + j, none⟩ = some (.int .i64 (X.getD j 0)) := HG1.out.cell (hc j (by omega)) (by simp)
        have hcj2 : wr.cell? ⟨b2, o2 + j, none⟩ = some (.int .i64 (Y.getD j 0)) := HG1.out.cell (hc2 j (by omega)) (by simp)
        clear hc hc2
        obtain ⟨x, hx⟩ : ∃ x, x = X.getD j 0 := ⟨_, rfl⟩
        obtain ⟨y, hy⟩ : ∃ y, y = Y.getD j 0 := ⟨_, rfl⟩
        rw [← hx] at hcj
        rw [← hy] at hcj2
        have HX := Lib.hid hx
        have HY := Lib.hid hy
        clear hx hy
        by_cases hne : x = y
        · go_wp2
          go_quiet (fail)
          go_wp2
          go_roundw
          case rel =>
            refine ⟨j + 1, by omega, by go_num, fun m hm => ?_, ?_⟩
            · by_cases h : m = j
              · subst h; rw [← HX.out, ← HY.out, hne]
              · exact HE.out m (by omega)
            · exact grown_drewN HG1.out _
          case measure => simp [intOf]; omega
        · go_wp2
          go_quiet (fail)
          go_wp2
          go_ret
          exact ⟨ret_bool (by symm; rw [decide_eq_false_iff_not]; intro h; exact hne (by rw [HX.out, HY.out, h])), grown_drewN HG1.out _⟩
      · go_wp2
        go_ret
        exact ⟨ret_bool (by symm; rw [decide_eq_true_iff]; exact list_same HXY.out (by have := HE.out; intro m hm; exact this m (by omega))), HG1.out⟩
  · go_enter Tryz.func34, Tryz.ntmps34
    go_wp2
    go_ret
    exact ⟨ret_bool (by symm; rw [decide_eq_false_iff_not]; intro h; exact hxy (by rw [h])), World.grownBy.refl _ _⟩

/-- Two rows that read the same. -/
theorem eq_same (w : World) (u v : Value) (X : List Int) (hu : Sees .i64 w u X) (hv : Sees .i64 w v X) :
    Calls Tryz.prog 34 #[u, v] w fun e w' => e = .returned (.bool true) ∧ w.grownBy w' none := by
  have := eq_any w u v X X hu hv
  simpa using this

set_option maxHeartbeats 400000 in
theorem mark_any (w : World) (base : Nat) (v : Value) (X : List Int) (m : Nat) (hv : Own .i64 3 w base v X) (hm : m + X.length ≤ 4000000000000000000) :
    Calls Tryz.prog 38 #[v, .int .i64 m] w fun e w' => e = .returned (.int .i64 ((m + X.length : Nat) : Int)) ∧ Own .i64 3 w' base v (marksI m X.length) ∧ w.grownBy w' v.ownBlock := by
  have hwf : ∀ n ∈ marksI m X.length, (Lit.int .i64 n).wf = true := fun n hn => by
    simp only [marksI, List.mem_map] at hn
    obtain ⟨j, hj, rfl⟩ := hn
    have := List.mem_range.1 hj
    exact i64_mk (by omega)
  have HW := Lib.hid hwf
  have hlen := marksI_len m X.length
  have HL := Lib.hid hlen
  clear hwf hlen
  rcases hv.1.2 with ⟨rfl, hn⟩ | ⟨g, cap, cur, rfl, hb, hg, hnc, hcm, hcs, ht⟩
  · have hX : X = [] := List.eq_nil_of_length_eq_zero hn
    subst hX
    have HV := Lib.hid hv
    clear hv
    go_enter Tryz.func38, Tryz.ntmps38
    go_wp2
    refine wp_loop_rounds 1 ?_
    rw [rounds_succ]
    go_wp2
    go_ret
    exact ⟨rfl, HV.out, World.grownBy.refl _ _⟩
  · have hown : w.ownsRow base 3 1 (.slice (some ⟨g, 0, none⟩) X.length cap) X.length (((marksI m X.length).take 0 ++ X.drop 0).map (Value.int .i64)) := by simpa using hv.1
    have HO := Lib.hid hown
    clear hv hown hg hcm hcs ht hb hnc
    go_enter Tryz.func38, Tryz.ntmps38
    go_wp2
    go_loopw [1, 5] (fun q i wr => ∃ j : Nat, j ≤ X.length ∧ i = .int .i64 j ∧ q = .int .i64 ((m : Int) + j) ∧ Hid (wr.ownsRow base 3 1 (.slice (some ⟨g, 0, none⟩) X.length cap) X.length (((marksI m X.length).take j ++ X.drop j).map (Value.int .i64))) ∧ Hid (w.grownBy wr (some g)))
      (fun _ i _ => X.length - (intOf i).toNat)
    case atStart => exact ⟨0, Nat.zero_le _, rfl, by simp, HO, World.grownBy.refl _ _⟩
    case round =>
      obtain ⟨j, hj, rfl, rfl, HO1, HG1⟩ := hrel
      by_cases hlt : j < X.length
      · have hf := HO1.out.frozenAt j
        have hd := (HO1.out.cellAt j (by omega)).trans (splice_get HL.out (by rw [HL.out]; omega))
        go_wp2
        go_roundw
        case rel =>
          refine ⟨j + 1, by omega, by go_num, by go_num, ?_, ?_⟩
          · have hs := own_set HO1.out j ((marksI m X.length).getD j 0)
            rw [splice_set HL.out (by rw [HL.out]; omega), marksI_get hlt, show ((m + j : Nat) : Int) = (m : Int) + (j : Int) by omega] at hs
            exact hs.1
          · exact grownN_trans HG1.out (own_set HO1.out j _).2
        case measure => simp [intOf]; omega
      · have : j = X.length := by omega
        subst this
        go_wp2
        go_ret
        have hl := HL.out
        have ho := HO1.out
        rw [List.drop_length, List.append_nil, List.take_of_length_le (by omega)] at ho
        exact ⟨by go_num, ⟨by rw [hl]; exact ho, HW.out⟩, HG1.out⟩

set_option maxHeartbeats 400000 in
theorem held_any (w : World) (v : Value) (m n : Nat) (hv : Sees .i64 w v (marksI m n)) (hm : m + n ≤ 4000000000000000000) :
    Calls Tryz.prog 39 #[v, .int .i64 m] w fun e w' => e = .returned (.int .i64 ((m + n : Nat) : Int)) ∧ w.grownBy w' none := by
  obtain ⟨a, cap, rfl, _, _, _, _, hcell⟩ := hv
  have HC := Lib.hid hcell
  clear hcell
  rw [marksI_len]
  go_enter Tryz.func39, Tryz.ntmps39
  go_wp2
  go_loopw [1, 5] (fun q i wr => ∃ j : Nat, j ≤ n ∧ i = .int .i64 j ∧ q = .int .i64 ((m : Int) + j) ∧ Hid (w.grownBy wr none))
    (fun _ i _ => n - (intOf i).toNat)
  case atStart => exact ⟨0, Nat.zero_le _, rfl, by simp, World.grownBy.refl _ _⟩
  case round =>
    obtain ⟨j, hj, rfl, rfl, HG1⟩ := hrel
    by_cases hlt : j < n
    · rcases HC.out with hX | ⟨b, o, rfl, hc⟩
      · have := congrArg List.length hX; rw [marksI_len] at this; simp at this; omega
      have hcj : wr.cell? ⟨b, o + j, none⟩ = some (.int .i64 (((m : Int) + (j : Int)))) := by
        have := HG1.out.cell (hc j (by rw [marksI_len]; omega)) (by simp)
        rwa [marksI_get hlt, show ((m + j : Nat) : Int) = (m : Int) + (j : Int) by omega] at this
      clear hc
      go_wp2
      go_roundw
      case rel => exact ⟨j + 1, by omega, by go_num, by go_num, HG1⟩
      case measure => simp [intOf]; omega
    · have : j = n := by omega
      subst this
      go_wp2
      go_ret
      exact ⟨by go_num, HG1.out⟩
end Go.Proofs.YtonalkamfgpokaaGreat.LawsI

namespace Go.Proofs.YtonalkamfgpokaaGreat.LandL
open Go.RowKit Kit Rw LawsI

/-- What is left of a bound after n values. -/
def szv (left : Int) (n : Nat) : Int := if (n : Int) ≤ left then left - n else -1
theorem szv_ok {left : Int} {n : Nat} (h : (n : Int) ≤ left) : szv left n = left - n := if_pos h
theorem szv_no {left : Int} {n : Nat} (h : ¬ (n : Int) ≤ left) : szv left n = -1 := if_neg h

theorem szIntS_any (w : World) (v : Value) (X : List Int) (left : Int) (hv : Sees .i64 w v X) (hl : 0 ≤ left) (hl' : left ≤ 1048576) :
    Calls Tryz.prog 70 #[v, .int .i64 left] w fun e w' => e = .returned (.int .i64 (szv left X.length)) ∧ w = w' := by
  have hlen := hv.len
  obtain ⟨a, cap, rfl, _⟩ := hv
  by_cases h : (X.length : Int) ≤ left
  · rw [szv_ok h]
    go_enter Tryz.func70, Tryz.ntmps70
    go_wp2
    go_ret
    exact ⟨rfl, rfl⟩
  · rw [szv_no h]
    have h2 : left - (X.length : Int) < 0 := by omega
    go_enter Tryz.func70, Tryz.ntmps70
    go_wp2
    go_ret
    exact ⟨rfl, rfl⟩

set_option maxHeartbeats 400000 in
theorem szLand_any (w : World) (W H : Int) (v : Value) (X : List Int) (left : Int) (hv : Sees .i64 w v X) (hl : 0 ≤ left) (hl' : left ≤ 1048576) :
    Calls Tryz.prog 20 #[.agg #[.int .i64 W, .int .i64 H, v], .int .i64 left] w fun e w' => e = .returned (.int .i64 (szv left X.length)) ∧ w.grownBy w' none := by
  have HG := Lib.hid (World.grownBy_alloc w (.cells #[.int .i64 W, .int .i64 H, v] 24 (0, 0)) none)
  have HV := Lib.hid (hv.grown HG.out)
  obtain ⟨c0, c1, c2⟩ := (box_new w #[.int .i64 W, .int .i64 H, v] 24).three
  clear hv
  by_cases h : (X.length : Int) ≤ left
  · have HSZ := Lib.hid (szv_ok h)
    have h0 : 0 ≤ szv left X.length := by rw [HSZ.out]; omega
    go_enter Tryz.func20, Tryz.ntmps20
    go_wp2_with fail
    refine (szIntS_any _ v X left HV.out hl hl').mono ?_
    rintro e w' ⟨rfl, rfl⟩
    go_wp2
    go_ret
    exact ⟨rfl, HG.out⟩
  · have HSZ := Lib.hid (szv_no h)
    have h0 : szv left X.length < 0 := by rw [HSZ.out]; omega
    go_enter Tryz.func20, Tryz.ntmps20
    go_wp2_with fail
    refine (szIntS_any _ v X left HV.out hl hl').mono ?_
    rintro e w' ⟨rfl, rfl⟩
    go_wp2
    go_ret
    exact ⟨ret_i64 HSZ.out.symm, HG.out⟩

theorem szLand_yes (w : World) (W H : Int) (v : Value) (X : List Int) (left : Int) (hv : Sees .i64 w v X) (h : (X.length : Int) ≤ left) (hl : 0 ≤ left) (hl' : left ≤ 1048576) :
    Calls Tryz.prog 20 #[.agg #[.int .i64 W, .int .i64 H, v], .int .i64 left] w fun e w' => e = .returned (.int .i64 (left - (X.length : Int))) ∧ w.grownBy w' none := by
  have := szLand_any w W H v X left hv hl hl'; rwa [szv_ok h] at this
theorem szLand_no (w : World) (W H : Int) (v : Value) (X : List Int) (left : Int) (hv : Sees .i64 w v X) (h : ¬ (X.length : Int) ≤ left) (hl : 0 ≤ left) (hl' : left ≤ 1048576) :
    Calls Tryz.prog 20 #[.agg #[.int .i64 W, .int .i64 H, v], .int .i64 left] w fun e w' => e = .returned (.int .i64 (-1)) ∧ w.grownBy w' none := by
  have := szLand_any w W H v X left hv hl hl'; rwa [szv_no h] at this

set_option maxHeartbeats 400000 in
theorem toLand_any (w : World) (W H : Int) (v : Value) (X : List Int) (hv : Sees .i64 w v X) (hn : X.length ≤ 1000000000000) :
    Calls Tryz.prog 24 #[.agg #[.int .i64 W, .int .i64 H, v]] w fun e w' => ∃ u, e = .returned (.agg #[.int .i64 W, .int .i64 H, u]) ∧ Own .i64 3 w' w.heap.size u X ∧ w.grownBy w' none := by
  have b1 := box_new (w.alloc (.cells #[.int .i64 W, .int .i64 H, v] 24 (0, 0))) #[.int .i64 0, .int .i64 0, .slice none 0 0] 37
  have b2 := box_new ((w.alloc (.cells #[.int .i64 W, .int .i64 H, v] 24 (0, 0))).alloc (.cells #[.int .i64 0, .int .i64 0, .slice none 0 0] 37 (0, 0))) #[.int .i64 W, .int .i64 H, .slice none 0 0] 37
  have b1' := b1.grown (World.grownBy_alloc _ (.cells #[.int .i64 W, .int .i64 H, .slice none 0 0] 37 (0, 0)) none)
  simp only [World.size_alloc] at b1' b2
  have HG := Lib.hid (grownN_trans (grownN_trans (World.grownBy_alloc w (.cells #[.int .i64 W, .int .i64 H, v] 24 (0, 0)) none) (World.grownBy_alloc _ (.cells #[.int .i64 0, .int .i64 0, .slice none 0 0] 37 (0, 0)) none)) (World.grownBy_alloc _ (.cells #[.int .i64 W, .int .i64 H, .slice none 0 0] 37 (0, 0)) none))
  have HV := Lib.hid (hv.grown HG.out)
  have B1 := Lib.hid b1'
  have B2 := Lib.hid b2
  clear hv b1 b2 b1'
  go_enter Tryz.func24, Tryz.ntmps24
  go_wp2_with fail
  generalize ((w.alloc (.cells #[.int .i64 W, .int .i64 H, v] 24 (0, 0))).alloc (.cells #[.int .i64 0, .int .i64 0, .slice none 0 0] 37 (0, 0))).alloc (.cells #[.int .i64 W, .int .i64 H, .slice none 0 0] 37 (0, 0)) = W3 at *
  refine (to_any W3 v X HV.out hn).mono ?_
  rintro e w4 ⟨u, rfl, ho, hg⟩
  have HO := Lib.hid ho
  have HG4 := Lib.hid (grownN_trans HG.out hg)
  have B14 := Lib.hid (B1.out.grown hg)
  have B24 := Lib.hid (B2.out.grown hg)
  have h3 : w.heap.size + 1 + 1 < W3.heap.size := B2.out.lt
  have H3 := Lib.hid h3
  clear ho hg h3
  obtain ⟨ua, un, uc, hu, HUN⟩ := HO.out.sees.shape
  subst hu
  obtain ⟨c10, c11, c12⟩ := B14.out.three
  obtain ⟨c20, c21, c22⟩ := B24.out.three
  have f10 := B14.out.free 0
  have f11 := B14.out.free 1
  have f12 := B14.out.free 2
  have f22 := B24.out.free 2
  go_wp2
  have h3 := H3.out
  have hb : Below w.heap.size w w4 := grown_below HG4.out _ (Nat.le_refl _)
  refine bodyPost_ret (v := .agg #[.int .i64 W, .int .i64 H, .slice ua un uc]) ?_ rfl ⟨_, rfl, ?_, ?_⟩
  · simp [results, Tryz.results24, go_sem, c10, c11, c12]
  · exact ((((HO.out.set (by omega) _ _).set (by omega) _ _).set (by omega) _ _).set (by omega) _ _).lower (by omega)
  · exact below_grown ((((hb.setCell (by simp; omega) _).setCell (by simp) _).setCell (by simp) _).setCell (by simp) _)

set_option maxHeartbeats 400000 in
theorem eqLand_same (w : World) (W H : Int) (u v : Value) (X : List Int) (hu : Sees .i64 w u X) (hv : Sees .i64 w v X) :
    Calls Tryz.prog 29 #[.agg #[.int .i64 W, .int .i64 H, u], .agg #[.int .i64 W, .int .i64 H, v]] w fun e w' => e = .returned (.bool true) ∧ w.grownBy w' none := by
  have HG := Lib.hid (grownN_trans (World.grownBy_alloc w (.cells #[.int .i64 W, .int .i64 H, u] 37 (0, 0)) none) (World.grownBy_alloc _ (.cells #[.int .i64 W, .int .i64 H, v] 37 (0, 0)) none))
  have HU := Lib.hid (hu.grown HG.out)
  have HV := Lib.hid (hv.grown HG.out)
  clear hu hv
  go_enter Tryz.func29, Tryz.ntmps29
  go_wp2_with fail
  refine (eq_same _ u v X HU.out HV.out).mono ?_
  rintro e w3 ⟨rfl, hg⟩
  have HG3 := Lib.hid (grownN_trans HG.out hg)
  clear hg
  go_wp2
  go_ret
  exact ⟨rfl, HG3.out⟩

set_option maxHeartbeats 400000 in
theorem markLand_any (w : World) (base : Nat) (W H : Int) (v : Value) (X : List Int) (m : Nat) (hv : Own .i64 3 w base v X) (hm : m + X.length ≤ 4000000000000000000) :
    Calls Tryz.prog 35 #[.agg #[.int .i64 W, .int .i64 H, v], .int .i64 m] w fun e w' => e = .returned (.int .i64 ((m + X.length : Nat) : Int)) ∧ Own .i64 3 w' base v (marksI m X.length) ∧ w.grownBy w' v.ownBlock := by
  have HG := Lib.hid (World.grownBy_alloc w (.cells #[.int .i64 W, .int .i64 H, v] 37 (0, 0)) none)
  have HV := Lib.hid (hv.grown HG.out)
  clear hv
  go_enter Tryz.func35, Tryz.ntmps35
  go_wp2_with fail
  refine (mark_any _ base v X m HV.out hm).mono ?_
  rintro e w3 ⟨rfl, ho, hg⟩
  have HO := Lib.hid ho
  have HG3 : Hid (w.grownBy w3 v.ownBlock) := grown_old' HG.out hg
  clear ho hg
  go_wp2
  go_ret
  exact ⟨rfl, HO.out, HG3.out⟩

end Go.Proofs.YtonalkamfgpokaaGreat.LandL

namespace Go.Proofs.YtonalkamfgpokaaGreat.Stm

def storms (L : List Bool) : Nat := L.countP id
def calm (L : List Bool) : Nat := (L.reverse.takeWhile (fun b => !b)).length
def isRule (m w : Int) : Bool := decide (1 ≤ w ∧ w ≤ 10) && decide (0 ≤ m ∧ m ≤ w - 1)
/-- The storms among the last w of L. -/
def late (w : Int) (L : List Bool) : Nat := storms (L.drop (L.length - w.toNat))
def keeps (m w : Int) (L : List Bool) : Bool := isRule m w && (List.range L.length).all fun i => decide ((late w (L.take (i + 1)) : Int) ≤ m)
def mayStorm (m w : Int) (L : List Bool) : Bool := isRule m w && decide ((late (w - 1) L : Int) < m)
def addDay (L : List Bool) (b : Bool) : List Bool := (L ++ [b]).drop (L.length + 1 - 10)
theorem storms_app (L M : List Bool) : storms (L ++ M) = storms L + storms M := by simp [storms]
theorem storms_le (L : List Bool) : storms L ≤ L.length := List.countP_le_length
theorem storms_next {L : List Bool} {j : Nat} (hj : j < L.length) : storms (L.take (j + 1)) = storms (L.take j) + (if L.getD j false = true then 1 else 0) := by
  rw [List.take_add_one, storms_app]
  congr 1
  cases h : L[j] <;> simp [hj, h, storms]
end Go.Proofs.YtonalkamfgpokaaGreat.Stm
