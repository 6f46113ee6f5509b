/- Contracts of the laws' helpers on parties: copies, comparisons, marks, sizes. 'append(v, u...)' at a step of a region that draws its order: v a row of the call's own, u whatever reads so. No condition. Contracts of the library's slices.Clone at bools and at depots. Contract of the library's slices.Clone at members. -/
import Derived.Test.YtbjnbaddbanhbaaGreatG9
import Derived.Test.YtbjnbaddbanhbaaGreatG4
import Derived.Test.YtbjnbaddbanhbaaGreatG5
import Derived.Test.YtbjnbaddbanhbaaGreatG2
import Derived.Laws.AppendOwn
import Derived.Maps.AppendAt
import Derived.Laws.AppendOwnNone
import Derived.Deep.AppendLies
import Derived.Test.YtbjnbaddbanhbaaGreatG3
import Derived.Lib.SliceRun
namespace Go.Proofs.YtbjnbaddbanhbaaGreat.PartyL
open Go.RowKit Kit Rw Rg Four

/-- Two rows in different blocks. -/
def Apart (t u : Value) : Prop := (t.ownBlock = none ∨ t.ownBlock ≠ u.ownBlock) ∧ (u.ownBlock = none ∨ u.ownBlock ≠ t.ownBlock)

set_option maxRecDepth 20000 in
set_option maxHeartbeats 1000000 in
theorem toParty_any (w : World) (n f : Int) (cv pv : Value) (L : List Mem) (P : List Bool) (hc : SeesG encM w cv L) (hp : SeesG encB w pv P) (hL : L.length ≤ 100000000000) (hP : P.length ≤ 1000000000000) :
    Calls Tryz.prog 22 #[.agg #[.int .i64 n, .int .i64 f, cv, pv]] w fun e w' => ∃ u t, e = .returned (.agg #[.int .i64 n, .int .i64 f, u, t]) ∧ OwnG encM 117 w' w.heap.size u L ∧ OwnG encB 4 w' w.heap.size t P ∧ Apart t u ∧ w.grownBy w' none := by
  have g0 := World.grownBy_alloc w (.cells #[.int .i64 n, .int .i64 f, cv, pv] 31 (0, 0)) (none : Option Nat)
  have g1 := World.grownBy_alloc (w.alloc (.cells #[.int .i64 n, .int .i64 f, cv, pv] 31 (0, 0))) (.cells #[.int .i64 0, .int .i64 0, .slice none 0 0, .slice none 0 0] 44 (0, 0)) (none : Option Nat)
  have g2 := World.grownBy_alloc ((w.alloc (.cells #[.int .i64 n, .int .i64 f, cv, pv] 31 (0, 0))).alloc (.cells #[.int .i64 0, .int .i64 0, .slice none 0 0, .slice none 0 0] 44 (0, 0))) (.cells #[.int .i64 n, .int .i64 f, .slice none 0 0, .slice none 0 0] 44 (0, 0)) (none : Option Nat)
  have b0 := ((box_new w #[.int .i64 n, .int .i64 f, cv, pv] 31).grown g1).grown g2
  have b1 := (box_new (w.alloc (.cells #[.int .i64 n, .int .i64 f, cv, pv] 31 (0, 0))) #[.int .i64 0, .int .i64 0, .slice none 0 0, .slice none 0 0] 44).grown g2
  have b2 := box_new ((w.alloc (.cells #[.int .i64 n, .int .i64 f, cv, pv] 31 (0, 0))).alloc (.cells #[.int .i64 0, .int .i64 0, .slice none 0 0, .slice none 0 0] 44 (0, 0))) #[.int .i64 n, .int .i64 f, .slice none 0 0, .slice none 0 0] 44
  simp only [World.size_alloc] at b1 b2
  have HG := Lib.hid (grownN_trans (grownN_trans g0 g1) g2)
  have HC := Lib.hid (hc.grown HG.out)
  have HP := Lib.hid hp
  have B0 := Lib.hid b0
  have B1 := Lib.hid b1
  have B2 := Lib.hid b2
  clear hc hp g0 g1 g2 b0 b1 b2
  go_enter Tryz.func22, Tryz.ntmps22
  go_wp2_with fail
  generalize ((w.alloc (.cells #[.int .i64 n, .int .i64 f, cv, pv] 31 (0, 0))).alloc (.cells #[.int .i64 0, .int .i64 0, .slice none 0 0, .slice none 0 0] 44 (0, 0))).alloc (.cells #[.int .i64 n, .int .i64 f, .slice none 0 0, .slice none 0 0] 44 (0, 0)) = W3 at *
  refine (LawsM.to_any W3 cv L HC.out hL).mono ?_
  rintro e w4 ⟨u, rfl, ho, hg⟩
  obtain ⟨ua, un, uc, hu, HUN⟩ := ho.sees.shape
  subst hu
  have hW3 : w.heap.size + 1 + 1 < W3.heap.size := B2.out.lt
  have b04 := B0.out.grown hg
  have b14 := B1.out.grown hg
  have b24 := B2.out.grown hg
  have hset := grown_set w4 (w.heap.size + 1 + 1) 2 (.slice ua un uc)
  have b05 := b04.kept hset (by intro e; injection e with e; omega)
  have b15 := b14.kept hset (by intro e; injection e with e; omega)
  have b25 := four_set2 (v := (.slice ua un uc)) b24
  have HO5 := Lib.hid (ho.kept hset (.inr (ho.off (by omega))))
  have HG5 := Lib.hid (grown_new (grownN_trans HG.out hg) hset (fun c h => by injection h with h; omega))
  have hU4 := ho.lt
  have HU4 := Lib.hid hU4
  obtain ⟨c00, c01, c02, c03⟩ := four b04
  obtain ⟨d00, d01, d02, d03⟩ := four b05
  obtain ⟨c20, c21, c22, c23⟩ := four b24
  have f22 := b24.free 2
  have HW3 := Lib.hid hW3
  have B05 := Lib.hid b05
  have B15 := Lib.hid b15
  have B25 := Lib.hid b25
  have hsz : w4.heap.size = (w4.setCell ⟨w.heap.size + 1 + 1, 2, none⟩ (.slice ua un uc)).heap.size := by simp [World.setCell]
  have HSZ := Lib.hid hsz
  have hle := hg.size
  have HLE := Lib.hid hle
  clear b04 b14 b24 b05 b15 b25 hset hg ho hU4 hsz hle hW3
  go_wp2_with fail
  generalize w4.setCell ⟨w.heap.size + 1 + 1, 2, none⟩ (.slice ua un uc) = W5 at *
  refine (LawsBo.to_any W5 pv P (HP.out.grown HG5.out) hP).mono ?_
  rintro e w6 ⟨t, rfl, ht, hg⟩
  obtain ⟨ta, tn, tc, hte, HTN⟩ := ht.sees.shape
  subst hte
  have b16 := B15.out.grown hg
  have b26 := B25.out.grown hg
  have ho6 := HO5.out.grown hg
  have hset := grown_set w6 (w.heap.size + 1 + 1) 3 (.slice ta tn tc)
  have b17 := b16.kept hset (by intro e; injection e with e; omega)
  have b27 := four_set3 (v := (.slice ta tn tc)) b26
  have h3 := HW3.out
  have h5 := HSZ.out
  have hl := HLE.out
  have ho7 := ho6.kept hset (.inr (ho6.off (by omega)))
  have ht7 := ht.kept hset (.inr (ht.off (by omega)))
  have hg7 := grown_new (grownN_trans HG5.out hg) hset (fun c h => by injection h with h; omega)
  have hap : Apart (.slice ta tn tc) (.slice ua un uc) := apart_lt ht.lt HU4.out (by omega)
  obtain ⟨c20, c21, c22, c23⟩ := four b26
  have f23 := b26.free 3
  obtain ⟨e0, e1, e2, e3⟩ := four b27
  have HO7 := Lib.hid ho7
  have HT7 := Lib.hid ht7
  have HG7 := Lib.hid hg7
  have HAP := Lib.hid hap
  have B17 := Lib.hid b17
  obtain ⟨⟨p0, r0⟩, ⟨p1, r1⟩, ⟨p2, r2⟩, ⟨p3, r3⟩⟩ := put4_on b17 (.int .i64 n) (.int .i64 f) (.slice ua un uc) (.slice ta tn tc)
  clear b16 b26 b17 b27 ho6 ho7 ht7 hg7 hap hset hg ht c00 c01 c02 c03 d00 d01 d02 d03
  go_wp2
  try simp only [Exit.inBlock, Exit.then]
  refine ret_box rfl rfl (put4_box (x' := .int .i64 n) (y' := .int .i64 f) (z' := (.slice ua un uc)) (u' := (.slice ta tn tc)) B17.out) Tryz.underlying44 rfl (by kernel_rfl) rfl ?_
  have hP4 := put4_grown (w6.setCell ⟨w.heap.size + 1 + 1, 3, none⟩ (.slice ta tn tc)) (w.heap.size + 1) (.int .i64 n) (.int .i64 f) (.slice ua un uc) (.slice ta tn tc)
  exact ⟨(.slice ua un uc), (.slice ta tn tc), rfl, (HO7.out.kept hP4 (.inr (HO7.out.off (by omega)))).lower (by omega), (HT7.out.kept hP4 (.inr (HT7.out.off (by omega)))).lower (by omega), HAP.out, grown_new HG7.out hP4 (fun c h => by injection h with h; omega)⟩

set_option maxRecDepth 20000 in
set_option maxHeartbeats 1000000 in
theorem eqParty_same (w : World) (n f : Int) (u t u' t' : Value) (L : List Mem) (P : List Bool) (hu : SeesG encM w u L) (ht : SeesG encB w t P) (hu' : SeesG encM w u' L) (ht' : SeesG encB w t' P) :
    Calls Tryz.prog 26 #[.agg #[.int .i64 n, .int .i64 f, u, t], .agg #[.int .i64 n, .int .i64 f, u', t']] w fun e w' => e = .returned (.bool true) ∧ w.grownBy w' none := by
  have g0 := World.grownBy_alloc w (.cells #[.int .i64 n, .int .i64 f, u, t] 44 (0, 0)) (none : Option Nat)
  have g1 := World.grownBy_alloc (w.alloc (.cells #[.int .i64 n, .int .i64 f, u, t] 44 (0, 0))) (.cells #[.int .i64 n, .int .i64 f, u', t'] 44 (0, 0)) (none : Option Nat)
  have b0 := (box_new w #[.int .i64 n, .int .i64 f, u, t] 44).grown g1
  have b1 := box_new (w.alloc (.cells #[.int .i64 n, .int .i64 f, u, t] 44 (0, 0))) #[.int .i64 n, .int .i64 f, u', t'] 44
  simp only [World.size_alloc] at b1
  have HG := Lib.hid (grownN_trans g0 g1)
  have HU := Lib.hid (hu.grown HG.out)
  have HT := Lib.hid (ht.grown HG.out)
  have HU' := Lib.hid (hu'.grown HG.out)
  have HT' := Lib.hid (ht'.grown HG.out)
  have B0 := Lib.hid b0
  have B1 := Lib.hid b1
  clear hu ht hu' ht' g0 g1 b0 b1
  go_enter Tryz.func26, Tryz.ntmps26
  go_wp2_with fail
  generalize (w.alloc (.cells #[.int .i64 n, .int .i64 f, u, t] 44 (0, 0))).alloc (.cells #[.int .i64 n, .int .i64 f, u', t'] 44 (0, 0)) = W3 at *
  refine (LawsM.eq_same _ u u' L HU.out HU'.out).mono ?_
  rintro e w3 ⟨rfl, hg⟩
  have HG3 := Lib.hid (grownN_trans HG.out hg)
  have HT3 := Lib.hid (HT.out.grown hg)
  have HT3' := Lib.hid (HT'.out.grown hg)
  obtain ⟨c0, c1, c2, c3⟩ := four (B0.out.grown hg)
  obtain ⟨d0, d1, d2, d3⟩ := four (B1.out.grown hg)
  clear hg
  go_wp2_with fail
  refine (LawsBo.eq_same _ t t' P HT3.out HT3'.out).mono ?_
  rintro e w4 ⟨rfl, hg⟩
  have HG4 := Lib.hid (grownN_trans HG3.out hg)
  clear hg
  go_wp2
  go_ret
  exact ⟨rfl, HG4.out⟩

set_option maxRecDepth 20000 in
set_option maxHeartbeats 1000000 in
theorem markParty_any (w : World) (base : Nat) (n f : Int) (u t : Value) (L : List Mem) (P : List Bool) (m : Nat) (hu : OwnG encM 117 w base u L) (ht : OwnG encB 4 w base t P) (hap : Apart t u) (hm : m + 4 * L.length + P.length ≤ 4000000000000000000) :
    Calls Tryz.prog 33 #[.agg #[.int .i64 n, .int .i64 f, u, t], .int .i64 m] w fun e w' => e = .returned (.int .i64 ((m + 4 * L.length + P.length : Nat) : Int)) ∧ OwnG encM 117 w' base u (LawsM.marksM m L.length) ∧ OwnG encB 4 w' base t (LawsBo.marksB (m + 4 * L.length) P.length) ∧
      ∃ wm, w.grownBy wm u.ownBlock ∧ wm.grownBy w' t.ownBlock := by
  have g0 := World.grownBy_alloc w (.cells #[.int .i64 n, .int .i64 f, u, t] 44 (0, 0)) (none : Option Nat)
  have b0 := box_new w #[.int .i64 n, .int .i64 f, u, t] 44
  have HG := Lib.hid g0
  have HU := Lib.hid (hu.grown g0)
  have HT := Lib.hid (ht.grown g0)
  have hub : u.ownBlock ≠ some w.heap.size := fun e => by have := hu.lt _ e; omega
  have HUB := Lib.hid hub
  have B0 := Lib.hid b0
  have HAP := Lib.hid hap
  clear hu ht g0 b0 hub hap
  go_enter Tryz.func33, Tryz.ntmps33
  go_wp2_with fail
  refine (LawsM.mark_any _ base u L m HU.out (by omega)).mono ?_
  rintro e w3 ⟨rfl, ho, hg⟩
  have HO := Lib.hid ho
  have HG3 : Hid (w.grownBy w3 u.ownBlock) := grown_old' HG.out hg
  have HT3 := Lib.hid (HT.out.kept hg HAP.out.1)
  obtain ⟨c0, c1, c2, c3⟩ := four (B0.out.kept hg HUB.out)
  clear ho hg
  go_wp2_with fail
  refine (LawsBo.mark_any _ base t P (m + 4 * L.length) HT3.out (by omega)).mono ?_
  rintro e w4 ⟨rfl, ht, hg⟩
  have HT4 := Lib.hid ht
  have HO4 := Lib.hid (HO.out.kept hg HAP.out.2)
  have HG4 := Lib.hid hg
  clear ht hg
  go_wp2
  go_ret
  exact ⟨rfl, HO4.out, HT4.out, w3, HG3.out, HG4.out⟩

set_option maxRecDepth 20000 in
set_option maxHeartbeats 1000000 in
theorem heldParty_any (w : World) (n f : Int) (u t : Value) (m k j : Nat) (hu : SeesG encM w u (LawsM.marksM m k)) (ht : SeesG encB w t (LawsBo.marksB (m + 4 * k) j)) (hm : m + 4 * k + j ≤ 4000000000000000000) :
    Calls Tryz.prog 34 #[.agg #[.int .i64 n, .int .i64 f, u, t], .int .i64 m] w fun e w' => e = .returned (.int .i64 ((m + 4 * k + j : Nat) : Int)) ∧ w.grownBy w' none := by
  have g0 := World.grownBy_alloc w (.cells #[.int .i64 n, .int .i64 f, u, t] 44 (0, 0)) (none : Option Nat)
  have b0 := box_new w #[.int .i64 n, .int .i64 f, u, t] 44
  have HG := Lib.hid g0
  have HU := Lib.hid (hu.grown g0)
  have HT := Lib.hid (ht.grown g0)
  have B0 := Lib.hid b0
  clear hu ht g0 b0
  go_enter Tryz.func34, Tryz.ntmps34
  go_wp2_with fail
  refine (LawsM.held_any _ u m k HU.out (by omega)).mono ?_
  rintro e w3 ⟨rfl, hg⟩
  have HG3 := Lib.hid (grownN_trans HG.out hg)
  have HT3 := Lib.hid (HT.out.grown hg)
  obtain ⟨c0, c1, c2, c3⟩ := four (B0.out.grown hg)
  have h0 : ¬ ((m : Int) + 4 * (k : Int) < 0) := by omega
  clear hg
  go_wp2_with fail
  refine (LawsBo.held_any _ t (m + 4 * k) j HT3.out (by omega)).mono ?_
  rintro e w4 ⟨rfl, hg⟩
  have HG4 := Lib.hid (grownN_trans HG3.out hg)
  have h1 : ¬ ((m : Int) + 4 * (k : Int) + (j : Int) < 0) := by omega
  clear hg
  go_wp2
  go_ret
  exact ⟨by go_num, HG4.out⟩

set_option maxRecDepth 20000 in
set_option maxHeartbeats 1000000 in
theorem szParty_yes (w : World) (n f : Int) (cv pv : Value) (L : List Mem) (P : List Bool) (left : Int) (hc : SeesG encM w cv L) (hp : SeesG encB w pv P) (h : (L.length : Int) + (P.length : Int) ≤ left) (hl : 0 ≤ left) (hl' : left ≤ 1048576) :
    Calls Tryz.prog 17 #[.agg #[.int .i64 n, .int .i64 f, cv, pv], .int .i64 left] w fun e w' => e = .returned (.int .i64 (left - ((L.length : Int) + (P.length : Int)))) ∧ w.grownBy w' none := by
  have g0 := World.grownBy_alloc w (.cells #[.int .i64 n, .int .i64 f, cv, pv] 31 (0, 0)) (none : Option Nat)
  have b0 := box_new w #[.int .i64 n, .int .i64 f, cv, pv] 31
  have HG := Lib.hid g0
  have HC := Lib.hid (hc.grown g0)
  have HP := Lib.hid (hp.grown g0)
  have B0 := Lib.hid b0
  clear hc hp g0 b0
  go_enter Tryz.func17, Tryz.ntmps17
  go_wp2_with fail
  refine (LawsM.szM_yes _ cv L left HC.out (by omega) hl hl').mono ?_
  rintro e w3 ⟨rfl, hg⟩
  have HG3 := Lib.hid (grownN_trans HG.out hg)
  have HP3 := Lib.hid (HP.out.grown hg)
  obtain ⟨c0, c1, c2, c3⟩ := four (B0.out.grown hg)
  have h0 : ¬ (left - (L.length : Int) < 0) := by omega
  clear hg
  go_wp2_with fail
  refine (LawsBo.szB_yes _ pv P (left - (L.length : Int)) HP3.out (by omega) (by omega) (by omega)).mono ?_
  rintro e w4 ⟨rfl, hg⟩
  have HG4 := Lib.hid (grownN_trans HG3.out hg)
  have h1 : ¬ (left - (L.length : Int) - (P.length : Int) < 0) := by omega
  clear hg
  go_wp2
  go_ret
  exact ⟨ret_i64 (by omega), HG4.out⟩

set_option maxRecDepth 20000 in
set_option maxHeartbeats 1000000 in
theorem szParty_no (w : World) (n f : Int) (cv pv : Value) (L : List Mem) (P : List Bool) (left : Int) (hc : SeesG encM w cv L) (hp : SeesG encB w pv P) (h : ¬ (L.length : Int) + (P.length : Int) ≤ left) (hl : 0 ≤ left) (hl' : left ≤ 1048576) :
    Calls Tryz.prog 17 #[.agg #[.int .i64 n, .int .i64 f, cv, pv], .int .i64 left] w fun e w' => e = .returned (.int .i64 (-1)) ∧ w.grownBy w' none := by
  have g0 := World.grownBy_alloc w (.cells #[.int .i64 n, .int .i64 f, cv, pv] 31 (0, 0)) (none : Option Nat)
  have b0 := box_new w #[.int .i64 n, .int .i64 f, cv, pv] 31
  have HG := Lib.hid g0
  have HC := Lib.hid (hc.grown g0)
  have HP := Lib.hid (hp.grown g0)
  have B0 := Lib.hid b0
  clear hc hp g0 b0
  by_cases hL : (L.length : Int) ≤ left
  · go_enter Tryz.func17, Tryz.ntmps17
    go_wp2_with fail
    refine (LawsM.szM_yes _ cv L left HC.out (by omega) hl hl').mono ?_
    rintro e w3 ⟨rfl, hg⟩
    have HG3 := Lib.hid (grownN_trans HG.out hg)
    have HP3 := Lib.hid (HP.out.grown hg)
    obtain ⟨c0, c1, c2, c3⟩ := four (B0.out.grown hg)
    have h0 : ¬ (left - (L.length : Int) < 0) := by omega
    clear hg
    go_wp2_with fail
    refine (LawsBo.szB_no _ pv P (left - (L.length : Int)) HP3.out (by omega) (by omega) (by omega)).mono ?_
    rintro e w4 ⟨rfl, hg⟩
    have HG4 := Lib.hid (grownN_trans HG3.out hg)
    clear hg
    go_wp2
    go_ret
    exact ⟨rfl, HG4.out⟩
  · go_enter Tryz.func17, Tryz.ntmps17
    go_wp2_with fail
    refine (LawsM.szM_no _ cv L left HC.out (by omega) hl hl').mono ?_
    rintro e w3 ⟨rfl, hg⟩
    have HG3 := Lib.hid (grownN_trans HG.out hg)
    clear hg
    go_wp2
    go_ret
    exact ⟨rfl, HG3.out⟩
end Go.Proofs.YtbjnbaddbanhbaaGreat.PartyL

namespace Go.Proofs.YtbjnbaddbanhbaaGreat.Rg
open Go.RowKit Kit Rw

theorem stepG_append_sees {α : Type} {e : Enc α} {P : Program} (w : World) {ops : Array Oper} {o : Oper} {a : Act} {K : Act → World → Prop} {Q : Exit → Act → World → Prop} {Z : Prop} (hgd : o.guard = none) (s x : Operand) (t : TypeId)
    (ho : o.op = .call { callee := .builtin .append, args := #[s, x], argTypes := #[t, t] })
    (base : Nat) (E : TypeId) (i : TypeInfo) (z : Value) (bytes : Nat) (ht : P.underlying t = some (.slice E)) (hi : P.info? E = some i) (hz : i.zero = some z)
    (hsize : i.size = e.size) (hby : i.bytes = bytes) (hzs : z.cells.size = e.size)
    (v : Value) (L : List α) (hs : a.eval s = v) (hown : OwnG e E w base v L) (u : Value) (M : List α) (hx : a.eval x = u) (hu : SeesG e w u M)
    (h63 : L.length + M.length ≤ maxLen) (hbytes : (L.length + M.length) * bytes ≤ 140737488355328) (hbase : base ≤ w.heap.size)
    (h : ∀ v' w', OwnG e E w' base v' (L ++ M) → w.grownBy w' v.ownBlock → K (a.put o.dst v') w') :
    if Region.wanted o (yielded ops a.tmps) = true then Oper.wp P o a w K Q else Z := by
  have hw : Region.wanted o (yielded ops a.tmps) = true := by simp [Region.wanted, hgd]
  rw [if_pos hw]
  obtain ⟨ho1, hw1⟩ := hown
  have hok := hu.ok
  obtain ⟨ad, cap, rfl, hlc, hcm, hnil, _, hcell⟩ := hu
  have hall : ∀ x ∈ L ++ M, e.ok x := fun x hx => by
    rcases List.mem_append.1 hx with h | h
    · exact hw1 x h
    · exact hok x h
  cases ad with
  | none =>
    have hc := hnil rfl
    subst hc
    have hM : M = [] := List.eq_nil_of_length_eq_zero (by omega)
    subst hM
    have hrun := run_append_owned_none (P := P) (w := w) base t o.type E i e.size ht hi v L.length _ ho1
    have hx' : a.eval x = .slice none 0 0 := by simpa using hx
    unfold Oper.wp
    simp [execOp, ho, resolve, invoke, builtin, hs, hx', hrun, Result.andThen]
    exact h v w ⟨by simpa using ho1, hall⟩ (World.grownBy.refl w _)
  | some ad =>
    obtain ⟨v', w', hrun, r1, r2, _⟩ := run_append_own (P := P) w base t o.type E i z e.size bytes ht hi hz hsize hby hzs e.pos v L.length _ ho1 ad M.length cap (flat e M) (flat_len M) (fun j y hy => by
      have hj : j < M.length * e.size := by rw [← flat_len]; exact (List.getElem?_eq_some_iff.1 hy).1
      rcases hcell with h0 | ⟨b, of, e', hc⟩
      · rw [h0] at hj; simp at hj
      · injection e' with e'
        subst e'
        rw [add_plain, hc j hj, hy]) flat_one h63 hbytes hbase
    unfold Oper.wp
    simp [execOp, ho, resolve, invoke, builtin, hs, hx, hrun, Result.andThen]
    exact h v' w' ⟨by rw [List.length_append, flat_app]; exact r1, hall⟩ r2
/-- The same, and where the new value lies: where the old one did, or in a block that is made now. -/
theorem stepG_append_at {α : Type} {e : Enc α} {P : Program} (w : World) {ops : Array Oper} {o : Oper} {a : Act} {K : Act → World → Prop} {Q : Exit → Act → World → Prop} {Z : Prop} (hgd : o.guard = none) (s x : Operand) (t : TypeId)
    (ho : o.op = .call { callee := .builtin .append, args := #[s, x], argTypes := #[t, t] })
    (base : Nat) (E : TypeId) (i : TypeInfo) (z : Value) (bytes : Nat) (ht : P.underlying t = some (.slice E)) (hi : P.info? E = some i) (hz : i.zero = some z)
    (hsize : i.size = e.size) (hby : i.bytes = bytes) (hzs : z.cells.size = e.size)
    (v : Value) (L : List α) (hs : a.eval s = v) (hown : OwnG e E w base v L) (u : Value) (M : List α) (hx : a.eval x = u) (hu : SeesG e w u M)
    (h63 : L.length + M.length ≤ maxLen) (hbytes : (L.length + M.length) * bytes ≤ 140737488355328) (hbase : base ≤ w.heap.size)
    (h : ∀ v' w', OwnG e E w' base v' (L ++ M) → w.grownBy w' v.ownBlock → (v'.ownBlock = v.ownBlock ∨ v'.ownBlock = some w.heap.size) → K (a.put o.dst v') w') :
    if Region.wanted o (yielded ops a.tmps) = true then Oper.wp P o a w K Q else Z := by
  have hw : Region.wanted o (yielded ops a.tmps) = true := by simp [Region.wanted, hgd]
  rw [if_pos hw]
  obtain ⟨ho1, hw1⟩ := hown
  have hok := hu.ok
  obtain ⟨ad, cap, rfl, hlc, hcm, hnil, _, hcell⟩ := hu
  have hall : ∀ x ∈ L ++ M, e.ok x := fun x hx => by
    rcases List.mem_append.1 hx with h | h
    · exact hw1 x h
    · exact hok x h
  cases ad with
  | none =>
    have hc := hnil rfl
    subst hc
    have hM : M = [] := List.eq_nil_of_length_eq_zero (by omega)
    subst hM
    have hrun := run_append_owned_none (P := P) (w := w) base t o.type E i e.size ht hi v L.length _ ho1
    have hx' : a.eval x = .slice none 0 0 := by simpa using hx
    unfold Oper.wp
    simp [execOp, ho, resolve, invoke, builtin, hs, hx', hrun, Result.andThen]
    exact h v w ⟨by simpa using ho1, hall⟩ (World.grownBy.refl w _) (.inl rfl)
  | some ad =>
    obtain ⟨v', w', hrun, r1, r2, _, r3⟩ := run_append_own_at (P := P) w base t o.type E i z e.size bytes ht hi hz hsize hby hzs e.pos v L.length _ ho1 ad M.length cap (flat e M) (flat_len M) (fun j y hy => by
      have hj : j < M.length * e.size := by rw [← flat_len]; exact (List.getElem?_eq_some_iff.1 hy).1
      rcases hcell with h0 | ⟨b, of, e', hc⟩
      · rw [h0] at hj; simp at hj
      · injection e' with e'
        subst e'
        rw [add_plain, hc j hj, hy]) flat_one h63 hbytes hbase
    unfold Oper.wp
    simp [execOp, ho, resolve, invoke, builtin, hs, hx, hrun, Result.andThen]
    exact h v' w' ⟨by rw [List.length_append, flat_app]; exact r1, hall⟩ r2 r3

/-- Two rows in different blocks. -/
def ApartU (t u : Value) : Prop := (t.ownBlock = none ∨ t.ownBlock ≠ u.ownBlock) ∧ (u.ownBlock = none ∨ u.ownBlock ≠ t.ownBlock)
theorem ApartU.symm {t u : Value} (h : ApartU t u) : ApartU u t := ⟨h.2, h.1⟩
theorem apartU_new {α : Type} {e : Enc α} {E : TypeId} {w : World} {base : Nat} {v u : Value} {L : List α} (h : OwnG e E w base v L) (hu : u.ownBlock = some w.heap.size) : ApartU v u := by
  have hn : v.ownBlock ≠ some w.heap.size := fun e => by have := (h.lt _ e).2; omega
  exact ⟨.inr (by rw [hu]; exact hn), .inr (by rw [hu]; exact hn.symm)⟩
theorem apartU_step {α : Type} {e : Enc α} {E : TypeId} {w : World} {base : Nat} {v v' u : Value} {L : List α} (h : OwnG e E w base u L) (ha : ApartU v u) (hv : v'.ownBlock = v.ownBlock ∨ v'.ownBlock = some w.heap.size) : ApartU v' u := by
  rcases hv with hv | hv
  · exact ⟨by rw [hv]; exact ha.1, by rw [hv]; exact ha.2⟩
  · exact (apartU_new h hv).symm
end Go.Proofs.YtbjnbaddbanhbaaGreat.Rg

namespace Go.Proofs.YtbjnbaddbanhbaaGreat.Cln
open Go.RowKit Kit Rw Rg

theorem info_boolC : (Tryz.prog.info? 4).map (fun i => (i.zero, i.size, i.bytes)) = some (some (.bool false), 1, 1) := by kernel_rfl
set_option maxRecDepth 20000 in
set_option maxHeartbeats 1000000 in
theorem cloneB_any (w : World) (v : Value) (L : List Bool) (hv : SeesG encB w v L) (hn : L.length ≤ 1000000000) :
    Calls Tryz.prog 130 #[v] w fun e w' => ∃ u, e = .returned u ∧ OwnG encB 4 w' w.heap.size u L ∧ w.grownBy w' none := by
  have hg0 := World.grownBy_alloc w (.cells #[] 4 (0, 0)) none
  have HV := Lib.hid (hv.grown hg0)
  have HW : Hid (OwnG encB 4 (w.alloc (.cells #[] 4 (0, 0))) w.heap.size (.slice (some ⟨w.heap.size, 0, none⟩) 0 0) []) := ownG_empty w
  have HG := Lib.hid hg0
  clear hg0
  obtain ⟨a, cap, rfl, h1, h2, h3, _, _⟩ := hv
  obtain ⟨i0, hi, hz0, hz1, hz2⟩ := info_parts info_boolC
  have q : ∀ (w : World) (a : Option Addr) (n c n' c' : Nat), (binOp .eql 29 (.slice a n c) (.slice none n' c')).run Tryz.prog w = .ok (.bool a.isNone) w := fun w a n c n' c' => Lib.run_eql_slice_nil w _ _ a n c n' c' Tryz.underlying29
  cases a with
  | none =>
    have hc := h3 rfl
    have hL : L = [] := List.eq_nil_of_length_eq_zero (by omega)
    subst hL
    subst hc
    go_enter Tryz.func130, Tryz.ntmps130
    go_wp2
    go_ret
    exact ⟨_, rfl, ownG_nil, World.grownBy.refl _ _⟩
  | some ad =>
    clear h1 h2 h3
    go_enter Tryz.func130, Tryz.ntmps130
    go_wp2_with (at_builtin; go_loud (refine wpListG_append_sees _ rfl _ _ 29 rfl w.heap.size 4 i0 (.bool false) 1 Tryz.underlying29 hi hz0 hz1 hz2 rfl _ [] rfl HW.out _ L rfl HV.out (by unfold maxLen; simp; omega) (by simp; omega) HG.out.size ?_); intro v3 w3 hown3 hgrow3; rw [List.nil_append] at hown3; have HO3 := Lib.hid hown3; have HG3 := Lib.hid (grown_new HG.out hgrow3 (fun c hc => (HW.out.lt c hc).1)); clear hown3 hgrow3)
    go_ret
    exact ⟨_, rfl, HO3.out, HG3.out⟩
end Go.Proofs.YtbjnbaddbanhbaaGreat.Cln

namespace Go.Proofs.YtbjnbaddbanhbaaGreat.Cln
open Go.RowKit Kit Rw Rg

theorem info_mem : (Tryz.prog.info? 117).map (fun i => (i.zero, i.size, i.bytes)) = some (some (.agg #[.int .i64 0, .int .i64 0, .int .i64 0, .bool false]), 4, 32) := by kernel_rfl
set_option maxRecDepth 20000 in
set_option maxHeartbeats 1000000 in
theorem cloneM_any (w : World) (v : Value) (L : List Mem) (hv : SeesG encM w v L) (hn : L.length ≤ 1000000000) :
    Calls Tryz.prog 129 #[v] w fun e w' => ∃ u, e = .returned u ∧ OwnG encM 117 w' w.heap.size u L ∧ w.grownBy w' none := by
  have hg0 := World.grownBy_alloc w (.cells #[] 117 (0, 0)) none
  have HV := Lib.hid (hv.grown hg0)
  have HW : Hid (OwnG encM 117 (w.alloc (.cells #[] 117 (0, 0))) w.heap.size (.slice (some ⟨w.heap.size, 0, none⟩) 0 0) []) := ownG_empty w
  have HG := Lib.hid hg0
  clear hg0
  obtain ⟨a, cap, rfl, h1, h2, h3, _, _⟩ := hv
  obtain ⟨i0, hi, hz0, hz1, hz2⟩ := info_parts info_mem
  have q : ∀ (w : World) (a : Option Addr) (n c n' c' : Nat), (binOp .eql 42 (.slice a n c) (.slice none n' c')).run Tryz.prog w = .ok (.bool a.isNone) w := fun w a n c n' c' => Lib.run_eql_slice_nil w _ _ a n c n' c' Tryz.underlying42
  cases a with
  | none =>
    have hc := h3 rfl
    have hL : L = [] := List.eq_nil_of_length_eq_zero (by omega)
    subst hL
    subst hc
    go_enter Tryz.func129, Tryz.ntmps129
    go_wp2
    go_ret
    exact ⟨_, rfl, ownG_nil, World.grownBy.refl _ _⟩
  | some ad =>
    clear h1 h2 h3
    go_enter Tryz.func129, Tryz.ntmps129
    go_wp2_with (at_builtin; go_loud (refine wpListG_append_sees _ rfl _ _ 42 rfl w.heap.size 117 i0 (.agg #[.int .i64 0, .int .i64 0, .int .i64 0, .bool false]) 32 Tryz.underlying42 hi hz0 hz1 hz2 rfl _ [] rfl HW.out _ L rfl HV.out (by unfold maxLen; simp; omega) (by simp; omega) HG.out.size ?_); intro v3 w3 hown3 hgrow3; rw [List.nil_append] at hown3; have HO3 := Lib.hid hown3; have HG3 := Lib.hid (grown_new HG.out hgrow3 (fun c hc => (HW.out.lt c hc).1)); clear hown3 hgrow3)
    go_ret
    exact ⟨_, rfl, HO3.out, HG3.out⟩
end Go.Proofs.YtbjnbaddbanhbaaGreat.Cln
