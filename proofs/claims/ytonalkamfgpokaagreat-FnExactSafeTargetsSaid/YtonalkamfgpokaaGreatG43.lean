/- The iterator of the worst return where there is no day. Contract of the program's AreDepots. -/
import Derived.Test.YtonalkamfgpokaaGreatItr
import Derived.Test.YtonalkamfgpokaaGreatG28
import Derived.Test.YtonalkamfgpokaaGreatG19
import Derived.Test.YtonalkamfgpokaaGreatG18
import Derived.Test.YtonalkamfgpokaaGreatExc
import Derived.RangeFuncNested
import Derived.RangeFuncBound
import Derived.RangeFuncCalls
import Derived.RangeFuncLeaves
import Derived.RangeFuncBox
import Derived.Shelf.Abstract
import Derived.Shelf.RegionOpen
import Derived.OwnWalkIn
import Derived.TacticsInMore
import Derived.LoopNIn
import Derived.LoopIn
import Derived.Lib.OthersKept
import Derived.Deep.RegionHeld3
import Derived.Test.YtonalkamfgpokaaGreatG16
import Derived.Test.YtonalkamfgpokaaGreatRowM
import Derived.IntWalk
namespace Go.Proofs.YtonalkamfgpokaaGreat.Itn
open Go.RowKit Go.Shelf Kit Rw Rg Stm Crw CrS CrI Four Hom Sgn Itr
attribute [local go_sem] Oper.semAt_some

set_option maxRecDepth 100000 in
set_option maxHeartbeats 4000000 in
theorem iter_nil (m : Nat) (we W0 : World) (l LA Pb Hb Db : Nat) (base n f : Int) (wv cv pv dv : Value) (L : List Mem)
    (hP : Box W0 Pb #[.int .i64 n, .int .i64 f, cv, pv] 42) (hH : Box W0 Hb #[.int .i64 base, wv, .string (text [])] 173) (hD : Box W0 Db #[dv] 39)
    (hw : Below we.heap.size we W0) (hla : we.heap.size ≤ LA ∧ LA < W0.heap.size) (hll : we.heap.size ≤ l ∧ l < W0.heap.size) (hne : Pb ≠ LA ∧ Pb ≠ l ∧ Hb ≠ LA ∧ Hb ≠ l ∧ Db ≠ LA ∧ Db ≠ l)
    (hc : SeesG encM we cv L) (hwv : ∃ wa wn wc, wv = .slice wa wn wc) (hpv : ∃ pa pn pc, pv = .slice pa pn pc)
    (J : List (Int × Int) → World → Prop) (hJ : ∀ s W W' row, J s W → W.grownBy W' row → (∀ r, row = some r → W0.heap.size ≤ r) → J s W')
    (hY : ∀ pre a g W, J pre W → YieldAt Fence.wide m Tryz.prog l #[.agg #[.int .i64 a, .int .i64 g, cv, pv]] W fun e W' => e = .returned (.bool true) ∧ J (pre ++ [(a, g)]) W' ∧ K2 LA l W W') (h0 : J [] W0) :
    CallsIn Fence.wide (m + 1) Tryz.prog 217 #[.func (.yield l) #[] #[], .pointer (some ⟨Pb, 0, none⟩), .pointer (some ⟨Hb, 0, none⟩), .pointer (some ⟨Db, 0, none⟩)] W0 fun e W' =>
      (∃ v, e = .returned v) ∧ J [] W' := by
  obtain ⟨wa, wn, wc, rfl⟩ := hwv
  obtain ⟨ca, cn, cc, rfl, HCN⟩ := hc.shape
  obtain ⟨pa, pn, pc, rfl⟩ := hpv
  have HC := Lib.hid hc
  have HP := Lib.hid hP
  have HH := Lib.hid hH
  have HDB := Lib.hid hD
  have HBW := Lib.hid hw
  obtain ⟨q, hq⟩ : ∃ q, q = needOf L := ⟨_, rfl⟩
  have HQ := Lib.hid hq
  have hS1 := hH.three
  obtain ⟨p0, p1, p2, p3⟩ := Four.four hP
  obtain ⟨h0', h1, h2⟩ := hH.three
  clear hc hP hH hD hw hq hS1
  refine callsIn_of_wp Tryz.func217 rfl trivial ?_ rfl
  simp only [Tryz.ntmps217, List.size_toArray, List.length_cons, List.length_nil, Nat.reduceAdd, Nat.reduceSub, Array.replicate_succ, Array.replicate_zero, List.push_toArray, List.append_toArray, List.nil_append, List.cons_append]
  gi_wp2
  -- walk
  refine wpIn_wide.2 ?_
  have HGD := Lib.hid (grown_drew (World.grownBy.refl W0 none))
  refine wp_region_held_drew (S := fun w' => (w'.cell? ⟨Pb, 0, none⟩ = some (.int .i64 n) ∧ w'.cell? ⟨Pb, 1, none⟩ = some (.int .i64 f) ∧ w'.cell? ⟨Pb, 2, none⟩ = some (.slice ca cn cc) ∧ w'.cell? ⟨Pb, 3, none⟩ = some (.slice pa pn pc)) ∧ (w'.cell? ⟨Hb, 0, none⟩ = some (.int .i64 base) ∧ w'.cell? ⟨Hb, 1, none⟩ = some (.slice wa wn wc) ∧ w'.cell? ⟨Hb, 2, none⟩ = some (.string (text [])))) (by kernel_rfl) ⟨Four.four (HP.out.grown HGD.out), (HH.out.grown HGD.out).three⟩ (fun hHeld => ?_)
  refine wpAnyH_take (i := 0) (v := ?_) rfl (by kernel_rfl) (by kernel_rfl) (by kernel_rfl) (fun _ _ _ h => h) (Or.inl ⟨by rfl, ?_⟩) (by assumption) ?_; rotate_left; (focus (intro wS hSw; (try dsimp only at hSw); go_simp <;> with_reducible rfl)); (try simp only [Act.put, List.getElem_toArray, List.getElem_cons_succ, List.getElem_cons_zero, List.setIfInBounds_toArray, List.set_cons_zero, List.set_cons_succ])
  refine wpAnyH_take (i := 1) (v := ?_) rfl (by kernel_rfl) (by kernel_rfl) (by kernel_rfl) (fun _ _ _ h => h) (Or.inl ⟨by rfl, ?_⟩) (by assumption) ?_; rotate_left; (focus (intro wS hSw; (try dsimp only at hSw); go_simp <;> with_reducible rfl)); (try simp only [Act.put, List.getElem_toArray, List.getElem_cons_succ, List.getElem_cons_zero, List.setIfInBounds_toArray, List.set_cons_zero, List.set_cons_succ])
  refine wpAnyH_take (i := 2) (v := ?_) rfl (by kernel_rfl) (by kernel_rfl) (by kernel_rfl) (fun _ _ _ h => h) (Or.inl ⟨by rfl, ?_⟩) (by assumption) ?_; rotate_left; (focus (intro wS hSw; (try dsimp only at hSw); go_simp <;> with_reducible rfl)); (try simp only [Act.put, List.getElem_toArray, List.getElem_cons_succ, List.getElem_cons_zero, List.setIfInBounds_toArray, List.set_cons_zero, List.set_cons_succ])
  refine wpAnyH_take (i := 3) (v := ?_) rfl (by kernel_rfl) (by kernel_rfl) (by kernel_rfl) (fun _ _ _ h => h) (Or.inl ⟨by rfl, ?_⟩) (by assumption) ?_; rotate_left; (focus (intro wS hSw; (try dsimp only at hSw); go_simp <;> with_reducible rfl)); (try simp only [Act.put, List.getElem_toArray, List.getElem_cons_succ, List.getElem_cons_zero, List.setIfInBounds_toArray, List.set_cons_zero, List.set_cons_succ])
  refine wpAnyH_take (i := 4) (v := ?_) rfl (by kernel_rfl) (by kernel_rfl) (by kernel_rfl) (fun _ _ _ h => h) (Or.inl ⟨by rfl, ?_⟩) (by assumption) ?_; rotate_left; (focus (intro wS hSw; (try dsimp only at hSw); go_simp <;> with_reducible rfl)); (try simp only [Act.put, List.getElem_toArray, List.getElem_cons_succ, List.getElem_cons_zero, List.setIfInBounds_toArray, List.set_cons_zero, List.set_cons_succ])
  have HBE := Lib.hid (fun W (hg : W0.grownBy W none) => (HC.out.below (HBW.out.trans (grown_below hg we.heap.size HBW.out.size))))
  refine wpAnyH_ready (rs := [5, 6]) (by kernel_rfl) (by simp) ?_
  refine AllReadyH.cons rfl (fun K hK => ?_) (AllReadyH.cons rfl (fun K hK => ?_) AllReadyH.nil)
  · go_simp; (go_at_call 194; refine (iNeedOf_any _ _ L (HBE.out _ HGD.out)).mono ?_; rintro e v1 ⟨rfl, hg⟩; rw [← HQ.out])
    have HG1 := Lib.hid (grownN_trans HGD.out hg)
    refine hK.out _ _ ⟨Four.four (HP.out.grown HG1.out), (HH.out.grown HG1.out).three⟩ (fun hHeld => ?_)
    clear hK K hg
    (try simp only [Act.put, List.getElem_toArray, List.getElem_cons_succ, List.getElem_cons_zero, List.setIfInBounds_toArray, List.set_cons_zero, List.set_cons_succ])
    have HG2 := Lib.hid (grownN_trans HG1.out (World.grownBy_alloc v1 (.cells #[.int .i64 0, .int .i64 0, .slice none 0 0, .slice none 0 0] 42 (0, 0)) none))
    have HT2 := Lib.hid (box_new v1 #[.int .i64 0, .int .i64 0, .slice none 0 0, .slice none 0 0] 42)
    have HTS : Hid (W0.heap.size ≤ v1.heap.size) := HG1.out.size
    refine wpAnyH_ready (rs := [6]) (by kernel_rfl) (by simp) ?_; refine AllReadyH.cons rfl (fun K hK => ?_) AllReadyH.nil; go_simp
    refine hK.out _ _ ⟨Four.four (HP.out.grown HG2.out), (HH.out.grown HG2.out).three⟩ (fun hHeld => ?_)
    clear hK K
    (try simp only [Act.put, List.getElem_toArray, List.getElem_cons_succ, List.getElem_cons_zero, List.setIfInBounds_toArray, List.set_cons_zero, List.set_cons_succ])
    generalize v1.alloc (.cells #[.int .i64 0, .int .i64 0, .slice none 0 0, .slice none 0 0] 42 (0, 0)) = v2 at *
    generalize v1.heap.size = T at *
    obtain ⟨⟨s0, z0⟩, ⟨s1, z1⟩, ⟨s2, z2⟩, ⟨s3, z3⟩⟩ := put4_on HT2.out (.int .i64 n) (.int .i64 f) (.slice ca cn cc) (.slice pa pn pc)
    have HT3 := Lib.hid (put4_box (x' := .int .i64 n) (y' := .int .i64 f) (z' := .slice ca cn cc) (u' := .slice pa pn pc) HT2.out)
    have HG3 := Lib.hid (grown_new HG2.out (put4_grown v2 T (.int .i64 n) (.int .i64 f) (.slice ca cn cc) (.slice pa pn pc)) (fun c e => by injection e with e; have := HTS.out; omega))
    refine wpAnyH_ready (rs := [7]) (by kernel_rfl) (by simp) ?_; refine AllReadyH.cons rfl (fun K hK => ?_) AllReadyH.nil; go_simp
    refine hK.out _ _ ⟨Four.four (HP.out.grown HG3.out), (HH.out.grown HG3.out).three⟩ (fun hHeld => ?_)
    clear hK K
    (try simp only [Act.put, List.getElem_toArray, List.getElem_cons_succ, List.getElem_cons_zero, List.setIfInBounds_toArray, List.set_cons_zero, List.set_cons_succ])
    refine wpAnyH_take (i := 8) (v := ?_) rfl (by kernel_rfl) (by kernel_rfl) (by kernel_rfl) (fun _ _ _ h => h) (Or.inl ⟨by rfl, ?_⟩) (by assumption) ?_; rotate_left; (focus (intro wS hSw; (try dsimp only at hSw); go_simp <;> with_reducible rfl)); (try simp only [Act.put, List.getElem_toArray, List.getElem_cons_succ, List.getElem_cons_zero, List.setIfInBounds_toArray, List.set_cons_zero, List.set_cons_succ])
    refine wpAnyH_take (i := 9) (v := ?_) rfl (by kernel_rfl) (by kernel_rfl) (by kernel_rfl) (fun _ _ _ h => h) (Or.inl ⟨by rfl, ?_⟩) (by assumption) ?_; rotate_left; (focus (intro wS hSw; (try dsimp only at hSw); go_simp <;> with_reducible rfl)); (try simp only [Act.put, List.getElem_toArray, List.getElem_cons_succ, List.getElem_cons_zero, List.setIfInBounds_toArray, List.set_cons_zero, List.set_cons_succ])
    have HT4 : Hid (Box ((((v2.setCell ⟨T, 0, none⟩ (.int .i64 n)).setCell ⟨T, 1, none⟩ (.int .i64 f)).setCell ⟨T, 2, none⟩ (.slice ca cn cc)).setCell ⟨T, 3, none⟩ (.slice pa pn pc)) T #[.int .i64 n, .int .i64 f, .slice ca cn cc, .slice pa pn pc] 42) := HT3.out
    have HG4 : Hid (W0.grownBy ((((v2.setCell ⟨T, 0, none⟩ (.int .i64 n)).setCell ⟨T, 1, none⟩ (.int .i64 f)).setCell ⟨T, 2, none⟩ (.slice ca cn cc)).setCell ⟨T, 3, none⟩ (.slice pa pn pc)) none) := HG3.out
    generalize (((v2.setCell ⟨T, 0, none⟩ (.int .i64 n)).setCell ⟨T, 1, none⟩ (.int .i64 f)).setCell ⟨T, 2, none⟩ (.slice ca cn cc)).setCell ⟨T, 3, none⟩ (.slice pa pn pc) = w3 at *
    refine wpAnyH_done (by kernel_rfl) ?_ _
    (try simp only [Act.put, List.getElem_toArray, List.getElem_cons_succ, List.getElem_cons_zero, List.setIfInBounds_toArray, List.set_cons_zero, List.set_cons_succ])
    clear s0 z0 s1 z1 s2 z2 s3 z3 HT3 HG3 HT2 HG2 hHeld HGD HG1
    have HTN : Hid (T ≠ LA ∧ T ≠ l ∧ W0.heap.size ≤ T ∧ T < w3.heap.size) := ⟨by have := HTS.out; omega, by have := HTS.out; omega, HTS.out, HT4.out.lt⟩
    have hiter := World.iter_heap w3 (text []) 0
    have HIT := Lib.hid hiter
    obtain ⟨h0', h1, h2⟩ := (HH.out.grown HG4.out).three
    clear p0 p1 p2 p3 hiter
    gi_wp2
    gi_loopw [6] (fun ah wr => ah = .slice wa wn wc ∧ Hid (wr.heap[w3.heap.size]? = some (.stringIter (text []) 0)) ∧ Hid (J [] wr)) (fun _ _ => 0)
    case atStart =>
      have hgi : w3.grownBy (w3.iter (text []) 0) none := World.grownBy_alloc w3 (.stringIter (text []) 0) none
      exact ⟨rfl, HIT, hJ [] _ _ none h0 (grownN_trans HG4.out hgi) (fun _ e => by cases e)⟩
    case round =>
      rename_i _ wr
      obtain ⟨rfl, HI, HJ⟩ := hrel
      have hnx : ∀ ty, (Instr.next (.pointer (some ⟨w3.heap.size, 0, none⟩)) true ty).run Tryz.prog wr = .ok (.tuple #[.bool false]) wr := fun ty => Lib.run_next_end_at wr _ _ _ ty HI.out (by simp [text, ByteArray.size])
      gi_wp2
      go_end0
      exact ⟨⟨_, rfl⟩, HJ.out⟩
  · go_simp
    have HG1 := Lib.hid (grownN_trans HGD.out (World.grownBy_alloc W0.drew (.cells #[.int .i64 0, .int .i64 0, .slice none 0 0, .slice none 0 0] 42 (0, 0)) none))
    have HT1 : Hid (Box (W0.drew.alloc (.cells #[.int .i64 0, .int .i64 0, .slice none 0 0, .slice none 0 0] 42 (0, 0))) W0.heap.size #[.int .i64 0, .int .i64 0, .slice none 0 0, .slice none 0 0] 42) := box_new W0.drew #[.int .i64 0, .int .i64 0, .slice none 0 0, .slice none 0 0] 42
    refine hK.out _ _ ⟨Four.four (HP.out.grown HG1.out), (HH.out.grown HG1.out).three⟩ (fun hHeld => ?_)
    clear hK K
    (try simp only [Act.put, List.getElem_toArray, List.getElem_cons_succ, List.getElem_cons_zero, List.setIfInBounds_toArray, List.set_cons_zero, List.set_cons_succ])
    refine wpAnyH_ready (rs := [5]) (by kernel_rfl) (by simp) ?_; refine AllReadyH.cons rfl (fun K hK => ?_) AllReadyH.nil; go_simp; (go_at_call 194; refine (iNeedOf_any _ _ L (HBE.out _ HG1.out)).mono ?_; rintro e v2 ⟨rfl, hg⟩; rw [← HQ.out])
    have HG2 := Lib.hid (grownN_trans HG1.out hg)
    have HT2 := Lib.hid (HT1.out.grown hg)
    have HTS : Hid (W0.heap.size ≤ W0.heap.size) := Nat.le_refl _
    refine hK.out _ _ ⟨Four.four (HP.out.grown HG2.out), (HH.out.grown HG2.out).three⟩ (fun hHeld => ?_)
    clear hK K hg HT1
    (try simp only [Act.put, List.getElem_toArray, List.getElem_cons_succ, List.getElem_cons_zero, List.setIfInBounds_toArray, List.set_cons_zero, List.set_cons_succ])
    obtain ⟨⟨s0, z0⟩, ⟨s1, z1⟩, ⟨s2, z2⟩, ⟨s3, z3⟩⟩ := put4_on HT2.out (.int .i64 n) (.int .i64 f) (.slice ca cn cc) (.slice pa pn pc)
    have HT3 := Lib.hid (put4_box (x' := .int .i64 n) (y' := .int .i64 f) (z' := .slice ca cn cc) (u' := .slice pa pn pc) HT2.out)
    have HG3 := Lib.hid (grown_new HG2.out (put4_grown v2 W0.heap.size (.int .i64 n) (.int .i64 f) (.slice ca cn cc) (.slice pa pn pc)) (fun c e => by injection e with e; have := HTS.out; omega))
    refine wpAnyH_ready (rs := [7]) (by kernel_rfl) (by simp) ?_; refine AllReadyH.cons rfl (fun K hK => ?_) AllReadyH.nil; go_simp
    refine hK.out _ _ ⟨Four.four (HP.out.grown HG3.out), (HH.out.grown HG3.out).three⟩ (fun hHeld => ?_)
    clear hK K
    (try simp only [Act.put, List.getElem_toArray, List.getElem_cons_succ, List.getElem_cons_zero, List.setIfInBounds_toArray, List.set_cons_zero, List.set_cons_succ])
    refine wpAnyH_take (i := 8) (v := ?_) rfl (by kernel_rfl) (by kernel_rfl) (by kernel_rfl) (fun _ _ _ h => h) (Or.inl ⟨by rfl, ?_⟩) (by assumption) ?_; rotate_left; (focus (intro wS hSw; (try dsimp only at hSw); go_simp <;> with_reducible rfl)); (try simp only [Act.put, List.getElem_toArray, List.getElem_cons_succ, List.getElem_cons_zero, List.setIfInBounds_toArray, List.set_cons_zero, List.set_cons_succ])
    refine wpAnyH_take (i := 9) (v := ?_) rfl (by kernel_rfl) (by kernel_rfl) (by kernel_rfl) (fun _ _ _ h => h) (Or.inl ⟨by rfl, ?_⟩) (by assumption) ?_; rotate_left; (focus (intro wS hSw; (try dsimp only at hSw); go_simp <;> with_reducible rfl)); (try simp only [Act.put, List.getElem_toArray, List.getElem_cons_succ, List.getElem_cons_zero, List.setIfInBounds_toArray, List.set_cons_zero, List.set_cons_succ])
    have HT4 : Hid (Box ((((v2.setCell ⟨W0.heap.size, 0, none⟩ (.int .i64 n)).setCell ⟨W0.heap.size, 1, none⟩ (.int .i64 f)).setCell ⟨W0.heap.size, 2, none⟩ (.slice ca cn cc)).setCell ⟨W0.heap.size, 3, none⟩ (.slice pa pn pc)) W0.heap.size #[.int .i64 n, .int .i64 f, .slice ca cn cc, .slice pa pn pc] 42) := HT3.out
    have HG4 : Hid (W0.grownBy ((((v2.setCell ⟨W0.heap.size, 0, none⟩ (.int .i64 n)).setCell ⟨W0.heap.size, 1, none⟩ (.int .i64 f)).setCell ⟨W0.heap.size, 2, none⟩ (.slice ca cn cc)).setCell ⟨W0.heap.size, 3, none⟩ (.slice pa pn pc)) none) := HG3.out
    generalize (((v2.setCell ⟨W0.heap.size, 0, none⟩ (.int .i64 n)).setCell ⟨W0.heap.size, 1, none⟩ (.int .i64 f)).setCell ⟨W0.heap.size, 2, none⟩ (.slice ca cn cc)).setCell ⟨W0.heap.size, 3, none⟩ (.slice pa pn pc) = w3 at *
    refine wpAnyH_done (by kernel_rfl) ?_ _
    (try simp only [Act.put, List.getElem_toArray, List.getElem_cons_succ, List.getElem_cons_zero, List.setIfInBounds_toArray, List.set_cons_zero, List.set_cons_succ])
    clear s0 z0 s1 z1 s2 z2 s3 z3 HT3 HG3 HT2 HG2 hHeld HGD HG1
    have HTN : Hid (W0.heap.size ≠ LA ∧ W0.heap.size ≠ l ∧ W0.heap.size ≤ W0.heap.size ∧ W0.heap.size < w3.heap.size) := ⟨by have := HTS.out; omega, by have := HTS.out; omega, HTS.out, HT4.out.lt⟩
    have hiter := World.iter_heap w3 (text []) 0
    have HIT := Lib.hid hiter
    obtain ⟨h0', h1, h2⟩ := (HH.out.grown HG4.out).three
    clear p0 p1 p2 p3 hiter
    gi_wp2
    gi_loopw [6] (fun ah wr => ah = .slice wa wn wc ∧ Hid (wr.heap[w3.heap.size]? = some (.stringIter (text []) 0)) ∧ Hid (J [] wr)) (fun _ _ => 0)
    case atStart =>
      have hgi : w3.grownBy (w3.iter (text []) 0) none := World.grownBy_alloc w3 (.stringIter (text []) 0) none
      exact ⟨rfl, HIT, hJ [] _ _ none h0 (grownN_trans HG4.out hgi) (fun _ e => by cases e)⟩
    case round =>
      rename_i _ wr
      obtain ⟨rfl, HI, HJ⟩ := hrel
      have hnx : ∀ ty, (Instr.next (.pointer (some ⟨w3.heap.size, 0, none⟩)) true ty).run Tryz.prog wr = .ok (.tuple #[.bool false]) wr := fun ty => Lib.run_next_end_at wr _ _ _ ty HI.out (by simp [text, ByteArray.size])
      gi_wp2
      go_end0
      exact ⟨⟨_, rfl⟩, HJ.out⟩
end Go.Proofs.YtonalkamfgpokaaGreat.Itn

namespace Go.Proofs.YtonalkamfgpokaaGreat.DepA
open Go.RowKit Kit Rw Rg Dep Md Ld LandI

def inb (n l h : Int) : Bool := decide (l ≤ n ∧ n ≤ h)
theorem inR_b (n l h : Int) (w : World) : Calls Tryz.prog 156 #[.int .i64 n, .int .i64 l, .int .i64 h] w fun e w' => e = .returned (.bool (inb n l h)) ∧ w = w' := inRange_any n l h w
theorem two {w : World} {b : Nat} {x y : Value} {T : TypeId} (h : Box w b #[x, y] T) : w.cell? ⟨b, 0, none⟩ = some x ∧ w.cell? ⟨b, 1, none⟩ = some y := ⟨h.cell 0, h.cell 1⟩

set_option maxRecDepth 20000 in
set_option maxHeartbeats 2000000 in
theorem iAreDepots_any (w : World) (W H : Int) (x : Value) (X : List Int) (v : Value) (L : List (Int × Int)) (hx : Sees .i64 w x X) (hv : SeesG encP w v L) :
    Calls Tryz.prog 171 #[.agg #[.int .i64 W, .int .i64 H, x], v] w fun e w' => e = .returned (.bool (areDep W H X L)) ∧ w.grownBy w' none := by
  have hl := hv.len
  have hg0 := World.grownBy_alloc w (.cells #[.int .i64 W, .int .i64 H, x] 37 (0, 0)) (none : Option Nat)
  have HB := Lib.hid (box_new w #[.int .i64 W, .int .i64 H, x] 37)
  have HX := Lib.hid (hx.grown hg0)
  have HV := Lib.hid (hv.grown hg0)
  have HG := Lib.hid hg0
  obtain ⟨a, cap, rfl, _⟩ := hv
  clear hx hg0
  obtain ⟨c0, c1, c2⟩ := HB.out.three
  have hA := fun w' hs => isLand_any w' W H x X hs
  cases hl0 : isLand W H X
  · simp only [hl0] at hA
    have HA := Lib.hid hA
    have HR : Hid (areDep W H X L = false) := dep_land hl0
    clear hA hl0
    go_enter Tryz.func171, Tryz.ntmps171
    go_wp2_with fail
    refine (HA.out _ HX.out).mono ?_
    rintro e w2 ⟨rfl, hg⟩
    have HG2 := Lib.hid (grownN_trans HG.out hg)
    clear hg
    go_wp2
    go_ret
    exact ⟨ret_bool HR.out.symm, HG2.out⟩
  · simp only [hl0] at hA
    have HA := Lib.hid hA
    have HLD := Lib.hid hl0
    clear hA hl0
    by_cases hlen : L.length ≤ 20
    · have HLE := Lib.hid hlen
      go_enter Tryz.func171, Tryz.ntmps171
      go_wp2_with fail
      refine (HA.out _ HX.out).mono ?_
      rintro e w2 ⟨rfl, hg⟩
      have HG2 := Lib.hid (grownN_trans HG.out hg)
      have HB2 := Lib.hid (HB.out.grown hg)
      have HX2 := Lib.hid (HX.out.grown hg)
      have HV2 := Lib.hid (HV.out.grown hg)
      clear hg c0 c1 c2 HB HX HV HG HA
      go_wp2
      go_loopw [5, 18] (fun p i wr => ∃ j : Nat, j ≤ L.length ∧ i = .int .i64 j ∧ p = .int .i64 (beforeD L j) ∧ Hid (upD W H X L j) ∧ Hid (w2.grownBy wr none)) (fun _ i _ => L.length - (intOf i).toNat)
      case atStart => exact ⟨0, Nat.zero_le _, rfl, rfl, upD_zero, World.grownBy.refl _ _⟩
      case round =>
        rename_i wr
        obtain ⟨j, hj, rfl, rfl, HU, HG3⟩ := hrel
        by_cases hlt : j < L.length
        · obtain ⟨b, o, rfl, _, _⟩ := HV2.out.at_row hlt
          obtain ⟨y, hy⟩ : ∃ y, L.getD j (0, 0) = y := ⟨_, rfl⟩
          obtain ⟨d0, d1⟩ := atP_in HV2.out HG3.out hlt hy
          have HY := Lib.hid hy
          have hbn : beforeD L (j + 1) = y.1 := by rw [← hy]; rfl
          have HBN := Lib.hid hbn
          clear hy hbn
          obtain ⟨yc, yf⟩ := y
          dsimp only at d0 d1
          obtain ⟨p, hp⟩ : ∃ p, p = beforeD L j := ⟨_, rfl⟩
          rw [← hp]
          have HP := Lib.hid hp
          clear hp
          have hA := World.grownBy_alloc wr (.cells #[.int .i64 yc, .int .i64 yf] 94 (0, 0)) (none : Option Nat)
          have HG4 := Lib.hid (grownN_trans HG3.out hA)
          have HBX := Lib.hid (box_new wr #[.int .i64 yc, .int .i64 yf] 94)
          obtain ⟨q0, q1⟩ := two HBX.out
          obtain ⟨c0, c1, c2⟩ := (HB2.out.grown HG4.out).three
          clear hA
          by_cases ho : yc ≤ p
          · have HR : Hid (areDep W H X L = false) := by
              have hp := HP.out
              match j, hp with
              | 0, hp =>
                refine dep_bad hlt (.inl ?_)
                rw [show dP = (0, 0) from rfl, HY.out]
                unfold okDep
                cases hop : isOpen W H X yc
                · rfl
                · have h0 := open_pos hop
                  simp only [beforeD] at hp
                  omega
              | k + 1, hp =>
                refine dep_bad hlt (.inr ⟨by omega, ?_⟩)
                rw [show dP = (0, 0) from rfl, HY.out, Nat.add_sub_cancel]
                have hp' : p = (L.getD k (0, 0)).1 := hp
                rw [← hp']
                dsimp only
                omega
            go_wp2
            go_ret
            exact ⟨ret_bool HR.out.symm, grownN_trans HG2.out HG4.out⟩
          · have hO := fun w' hs => isOpen_any w' W H yc x X hs
            cases hop : isOpen W H X yc
            · have HR : Hid (areDep W H X L = false) := dep_bad hlt (.inl (by rw [show dP = (0, 0) from rfl, HY.out]; unfold okDep; rw [hop]; rfl))
              simp only [hop] at hO
              have HO := Lib.hid hO
              clear hO hop
              go_wp2_with fail
              refine (HO.out _ (HX2.out.grown HG4.out)).mono ?_
              rintro e w5 ⟨rfl, hg⟩
              have HG5 := Lib.hid (grownN_trans HG4.out hg)
              clear hg
              go_wp2
              go_ret
              exact ⟨ret_bool HR.out.symm, grownN_trans HG2.out HG5.out⟩
            · have HOP := Lib.hid hop
              simp only [hop] at hO
              have HO := Lib.hid hO
              clear hO hop
              by_cases hf : 1 ≤ yf ∧ yf ≤ 10000
              · have hb : inb yf 1 10000 = true := decide_eq_true hf
                have HU2 : Hid (upD W H X L (j + 1)) := upD_next HU.out (by rw [show dP = (0, 0) from rfl, HY.out]; unfold okDep; rw [HOP.out, decide_eq_true hf]; rfl) (fun h0 => by
                  have hp := HP.out
                  match j, hp, h0 with
                  | k + 1, hp, _ =>
                    rw [show dP = (0, 0) from rfl, HY.out, Nat.add_sub_cancel]
                    have hp' : p = (L.getD k (0, 0)).1 := hp
                    rw [← hp']
                    dsimp only
                    omega)
                clear hf
                go_wp2_with fail
                refine (HO.out _ (HX2.out.grown HG4.out)).mono ?_
                rintro e w5 ⟨rfl, hg⟩
                have HG5 := Lib.hid (grownN_trans HG4.out hg)
                obtain ⟨r0, r1⟩ := two (HBX.out.grown hg)
                clear hg
                go_wp2_with fail
                refine (inR_b _ _ _ _).mono ?_
                rintro e w6 ⟨rfl, rfl⟩
                rw [hb]
                go_wp2
                go_roundw
                case rel => exact ⟨j + 1, by omega, by go_num, by rw [HBN.out], HU2, HG5⟩
                case measure => simp [intOf]; omega
              · have hb : inb yf 1 10000 = false := decide_eq_false hf
                have HR : Hid (areDep W H X L = false) := dep_bad hlt (.inl (by rw [show dP = (0, 0) from rfl, HY.out]; unfold okDep; rw [decide_eq_false hf, Bool.and_false]))
                clear hf
                go_wp2_with fail
                refine (HO.out _ (HX2.out.grown HG4.out)).mono ?_
                rintro e w5 ⟨rfl, hg⟩
                have HG5 := Lib.hid (grownN_trans HG4.out hg)
                obtain ⟨r0, r1⟩ := two (HBX.out.grown hg)
                clear hg
                go_wp2_with fail
                refine (inR_b _ _ _ _).mono ?_
                rintro e w6 ⟨rfl, rfl⟩
                rw [hb]
                go_wp2
                go_ret
                exact ⟨ret_bool HR.out.symm, grownN_trans HG2.out HG5.out⟩
        · have : j = L.length := by omega
          subst this
          have HR : Hid (areDep W H X L = true) := dep_yes HLD.out HLE.out HU.out
          go_wp2
          go_ret
          exact ⟨ret_bool HR.out.symm, grownN_trans HG2.out HG3.out⟩
    · have HR : Hid (areDep W H X L = false) := dep_long hlen
      go_enter Tryz.func171, Tryz.ntmps171
      go_wp2_with fail
      refine (HA.out _ HX.out).mono ?_
      rintro e w2 ⟨rfl, hg⟩
      have HG2 := Lib.hid (grownN_trans HG.out hg)
      clear hg
      go_wp2
      go_ret
      exact ⟨ret_bool HR.out.symm, HG2.out⟩
end Go.Proofs.YtonalkamfgpokaaGreat.DepA
