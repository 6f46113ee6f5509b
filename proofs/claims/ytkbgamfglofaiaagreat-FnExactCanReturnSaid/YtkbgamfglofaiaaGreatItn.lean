/- The iterator of the worst return where there is no day. -/
import Derived.Test.YtkbgamfglofaiaaGreatItr
import Derived.Test.YtkbgamfglofaiaaGreatSgn
import Derived.Test.YtkbgamfglofaiaaGreatDepI
import Derived.Test.YtkbgamfglofaiaaGreatCrI
import Derived.Test.YtkbgamfglofaiaaGreatG18
import Derived.Test.YtkbgamfglofaiaaGreatExc
import Derived.RangeFuncNested
import Derived.RangeFuncBound
import Derived.RangeFuncCalls
import Derived.RangeFuncLeaves
import Derived.RangeFuncBox
import Derived.Shelf.Abstract
import Derived.Shelf.RegionOpen
import Derived.OwnWalkIn
import Derived.TacticsInMore
import Derived.LoopNIn
import Derived.LoopIn
import Derived.Lib.OthersKept
import Derived.Deep.RegionHeld3
namespace Go.Proofs.YtkbgamfglofaiaaGreat.Itn
open Go.RowKit Go.Shelf Kit Rw Rg Stm Crw CrS CrI Four Hom Sgn Itr
attribute [local go_sem] Oper.semAt_some

set_option maxRecDepth 100000 in
set_option maxHeartbeats 4000000 in
theorem iter_nil (m : Nat) (we W0 : World) (l LA Pb Hb Db : Nat) (base n f : Int) (wv cv pv dv : Value) (L : List Mem)
    (hP : Box W0 Pb #[.int .i64 n, .int .i64 f, cv, pv] 44) (hH : Box W0 Hb #[.int .i64 base, wv, .string (text [])] 87) (hD : Box W0 Db #[dv] 40)
    (hw : Below we.heap.size we W0) (hla : we.heap.size ≤ LA ∧ LA < W0.heap.size) (hll : we.heap.size ≤ l ∧ l < W0.heap.size) (hne : Pb ≠ LA ∧ Pb ≠ l ∧ Hb ≠ LA ∧ Hb ≠ l ∧ Db ≠ LA ∧ Db ≠ l)
    (hc : SeesG encM we cv L) (hwv : ∃ wa wn wc, wv = .slice wa wn wc) (hpv : ∃ pa pn pc, pv = .slice pa pn pc)
    (J : List (Int × Int) → World → Prop) (hJ : ∀ s W W' row, J s W → W.grownBy W' row → (∀ r, row = some r → W0.heap.size ≤ r) → J s W')
    (hY : ∀ pre a g W, J pre W → YieldAt Fence.wide m Tryz.prog l #[.agg #[.int .i64 a, .int .i64 g, cv, pv]] W fun e W' => e = .returned (.bool true) ∧ J (pre ++ [(a, g)]) W' ∧ K2 LA l W W') (h0 : J [] W0) :
    CallsIn Fence.wide (m + 1) Tryz.prog 162 #[.func (.yield l) #[] #[], .pointer (some ⟨Pb, 0, none⟩), .pointer (some ⟨Hb, 0, none⟩), .pointer (some ⟨Db, 0, none⟩)] W0 fun e W' =>
      (∃ v, e = .returned v) ∧ J [] W' := by
  obtain ⟨wa, wn, wc, rfl⟩ := hwv
  obtain ⟨ca, cn, cc, rfl, HCN⟩ := hc.shape
  obtain ⟨pa, pn, pc, rfl⟩ := hpv
  have HC := Lib.hid hc
  have HP := Lib.hid hP
  have HH := Lib.hid hH
  have HDB := Lib.hid hD
  have HBW := Lib.hid hw
  obtain ⟨q, hq⟩ : ∃ q, q = needOf L := ⟨_, rfl⟩
  have HQ := Lib.hid hq
  have hS1 := hH.three
  obtain ⟨p0, p1, p2, p3⟩ := Four.four hP
  obtain ⟨h0', h1, h2⟩ := hH.three
  clear hc hP hH hD hw hq hS1
  refine callsIn_of_wp Tryz.func162 rfl trivial ?_ rfl
  simp only [Tryz.ntmps162, List.size_toArray, List.length_cons, List.length_nil, Nat.reduceAdd, Nat.reduceSub, Array.replicate_succ, Array.replicate_zero, List.push_toArray, List.append_toArray, List.nil_append, List.cons_append]
  gi_wp2
  -- walk
  refine wpIn_wide.2 ?_
  have HGD := Lib.hid (grown_drew (World.grownBy.refl W0 none))
  refine wp_region_held_drew (S := fun w' => (w'.cell? ⟨Pb, 0, none⟩ = some (.int .i64 n) ∧ w'.cell? ⟨Pb, 1, none⟩ = some (.int .i64 f) ∧ w'.cell? ⟨Pb, 2, none⟩ = some (.slice ca cn cc) ∧ w'.cell? ⟨Pb, 3, none⟩ = some (.slice pa pn pc)) ∧ (w'.cell? ⟨Hb, 0, none⟩ = some (.int .i64 base) ∧ w'.cell? ⟨Hb, 1, none⟩ = some (.slice wa wn wc) ∧ w'.cell? ⟨Hb, 2, none⟩ = some (.string (text [])))) (by kernel_rfl) ⟨Four.four (HP.out.grown HGD.out), (HH.out.grown HGD.out).three⟩ (fun hHeld => ?_)
  refine wpAnyH_take (i := 0) (v := ?_) rfl (by kernel_rfl) (by kernel_rfl) (by kernel_rfl) (fun _ _ _ h => h) (Or.inl ⟨by rfl, ?_⟩) (by assumption) ?_; rotate_left; (focus (intro wS hSw; (try dsimp only at hSw); go_simp <;> with_reducible rfl)); (try simp only [Act.put, List.getElem_toArray, List.getElem_cons_succ, List.getElem_cons_zero, List.setIfInBounds_toArray, List.set_cons_zero, List.set_cons_succ])
  refine wpAnyH_take (i := 1) (v := ?_) rfl (by kernel_rfl) (by kernel_rfl) (by kernel_rfl) (fun _ _ _ h => h) (Or.inl ⟨by rfl, ?_⟩) (by assumption) ?_; rotate_left; (focus (intro wS hSw; (try dsimp only at hSw); go_simp <;> with_reducible rfl)); (try simp only [Act.put, List.getElem_toArray, List.getElem_cons_succ, List.getElem_cons_zero, List.setIfInBounds_toArray, List.set_cons_zero, List.set_cons_succ])
  refine wpAnyH_take (i := 2) (v := ?_) rfl (by kernel_rfl) (by kernel_rfl) (by kernel_rfl) (fun _ _ _ h => h) (Or.inl ⟨by rfl, ?_⟩) (by assumption) ?_; rotate_left; (focus (intro wS hSw; (try dsimp only at hSw); go_simp <;> with_reducible rfl)); (try simp only [Act.put, List.getElem_toArray, List.getElem_cons_succ, List.getElem_cons_zero, List.setIfInBounds_toArray, List.set_cons_zero, List.set_cons_succ])
  refine wpAnyH_take (i := 3) (v := ?_) rfl (by kernel_rfl) (by kernel_rfl) (by kernel_rfl) (fun _ _ _ h => h) (Or.inl ⟨by rfl, ?_⟩) (by assumption) ?_; rotate_left; (focus (intro wS hSw; (try dsimp only at hSw); go_simp <;> with_reducible rfl)); (try simp only [Act.put, List.getElem_toArray, List.getElem_cons_succ, List.getElem_cons_zero, List.setIfInBounds_toArray, List.set_cons_zero, List.set_cons_succ])
  refine wpAnyH_take (i := 4) (v := ?_) rfl (by kernel_rfl) (by kernel_rfl) (by kernel_rfl) (fun _ _ _ h => h) (Or.inl ⟨by rfl, ?_⟩) (by assumption) ?_; rotate_left; (focus (intro wS hSw; (try dsimp only at hSw); go_simp <;> with_reducible rfl)); (try simp only [Act.put, List.getElem_toArray, List.getElem_cons_succ, List.getElem_cons_zero, List.setIfInBounds_toArray, List.set_cons_zero, List.set_cons_succ])
  have HBE := Lib.hid (fun W (hg : W0.grownBy W none) => (HC.out.below (HBW.out.trans (grown_below hg we.heap.size HBW.out.size))))
  refine wpAnyH_ready (rs := [5, 6]) (by kernel_rfl) (by simp) ?_
  refine AllReadyH.cons rfl (fun K hK => ?_) (AllReadyH.cons rfl (fun K hK => ?_) AllReadyH.nil)
  · go_simp; (go_at_call 163; refine (iNeedOf_any _ _ L (HBE.out _ HGD.out)).mono ?_; rintro e v1 ⟨rfl, hg⟩; rw [← HQ.out])
    have HG1 := Lib.hid (grownN_trans HGD.out hg)
    refine hK.out _ _ ⟨Four.four (HP.out.grown HG1.out), (HH.out.grown HG1.out).three⟩ (fun hHeld => ?_)
    clear hK K hg
    (try simp only [Act.put, List.getElem_toArray, List.getElem_cons_succ, List.getElem_cons_zero, List.setIfInBounds_toArray, List.set_cons_zero, List.set_cons_succ])
    have HG2 := Lib.hid (grownN_trans HG1.out (World.grownBy_alloc v1 (.cells #[.int .i64 0, .int .i64 0, .slice none 0 0, .slice none 0 0] 44 (0, 0)) none))
    have HT2 := Lib.hid (box_new v1 #[.int .i64 0, .int .i64 0, .slice none 0 0, .slice none 0 0] 44)
    have HTS : Hid (W0.heap.size ≤ v1.heap.size) := HG1.out.size
    refine wpAnyH_ready (rs := [6]) (by kernel_rfl) (by simp) ?_; refine AllReadyH.cons rfl (fun K hK => ?_) AllReadyH.nil; go_simp
    refine hK.out _ _ ⟨Four.four (HP.out.grown HG2.out), (HH.out.grown HG2.out).three⟩ (fun hHeld => ?_)
    clear hK K
    (try simp only [Act.put, List.getElem_toArray, List.getElem_cons_succ, List.getElem_cons_zero, List.setIfInBounds_toArray, List.set_cons_zero, List.set_cons_succ])
    generalize v1.alloc (.cells #[.int .i64 0, .int .i64 0, .slice none 0 0, .slice none 0 0] 44 (0, 0)) = v2 at *
    generalize v1.heap.size = T at *
    obtain ⟨⟨s0, z0⟩, ⟨s1, z1⟩, ⟨s2, z2⟩, ⟨s3, z3⟩⟩ := put4_on HT2.out (.int .i64 n) (.int .i64 f) (.slice ca cn cc) (.slice pa pn pc)
    have HT3 := Lib.hid (put4_box (x' := .int .i64 n) (y' := .int .i64 f) (z' := .slice ca cn cc) (u' := .slice pa pn pc) HT2.out)
    have HG3 := Lib.hid (grown_new HG2.out (put4_grown v2 T (.int .i64 n) (.int .i64 f) (.slice ca cn cc) (.slice pa pn pc)) (fun c e => by injection e with e; have := HTS.out; omega))
    refine wpAnyH_ready (rs := [7]) (by kernel_rfl) (by simp) ?_; refine AllReadyH.cons rfl (fun K hK => ?_) AllReadyH.nil; go_simp
    refine hK.out _ _ ⟨Four.four (HP.out.grown HG3.out), (HH.out.grown HG3.out).three⟩ (fun hHeld => ?_)
    clear hK K
    (try simp only [Act.put, List.getElem_toArray, List.getElem_cons_succ, List.getElem_cons_zero, List.setIfInBounds_toArray, List.set_cons_zero, List.set_cons_succ])
    refine wpAnyH_take (i := 8) (v := ?_) rfl (by kernel_rfl) (by kernel_rfl) (by kernel_rfl) (fun _ _ _ h => h) (Or.inl ⟨by rfl, ?_⟩) (by assumption) ?_; rotate_left; (focus (intro wS hSw; (try dsimp only at hSw); go_simp <;> with_reducible rfl)); (try simp only [Act.put, List.getElem_toArray, List.getElem_cons_succ, List.getElem_cons_zero, List.setIfInBounds_toArray, List.set_cons_zero, List.set_cons_succ])
    refine wpAnyH_take (i := 9) (v := ?_) rfl (by kernel_rfl) (by kernel_rfl) (by kernel_rfl) (fun _ _ _ h => h) (Or.inl ⟨by rfl, ?_⟩) (by assumption) ?_; rotate_left; (focus (intro wS hSw; (try dsimp only at hSw); go_simp <;> with_reducible rfl)); (try simp only [Act.put, List.getElem_toArray, List.getElem_cons_succ, List.getElem_cons_zero, List.setIfInBounds_toArray, List.set_cons_zero, List.set_cons_succ])
    have HT4 : Hid (Box ((((v2.setCell ⟨T, 0, none⟩ (.int .i64 n)).setCell ⟨T, 1, none⟩ (.int .i64 f)).setCell ⟨T, 2, none⟩ (.slice ca cn cc)).setCell ⟨T, 3, none⟩ (.slice pa pn pc)) T #[.int .i64 n, .int .i64 f, .slice ca cn cc, .slice pa pn pc] 44) := HT3.out
    have HG4 : Hid (W0.grownBy ((((v2.setCell ⟨T, 0, none⟩ (.int .i64 n)).setCell ⟨T, 1, none⟩ (.int .i64 f)).setCell ⟨T, 2, none⟩ (.slice ca cn cc)).setCell ⟨T, 3, none⟩ (.slice pa pn pc)) none) := HG3.out
    generalize (((v2.setCell ⟨T, 0, none⟩ (.int .i64 n)).setCell ⟨T, 1, none⟩ (.int .i64 f)).setCell ⟨T, 2, none⟩ (.slice ca cn cc)).setCell ⟨T, 3, none⟩ (.slice pa pn pc) = w3 at *
    refine wpAnyH_done (by kernel_rfl) ?_ _
    (try simp only [Act.put, List.getElem_toArray, List.getElem_cons_succ, List.getElem_cons_zero, List.setIfInBounds_toArray, List.set_cons_zero, List.set_cons_succ])
    clear s0 z0 s1 z1 s2 z2 s3 z3 HT3 HG3 HT2 HG2 hHeld HGD HG1
    have HTN : Hid (T ≠ LA ∧ T ≠ l ∧ W0.heap.size ≤ T ∧ T < w3.heap.size) := ⟨by have := HTS.out; omega, by have := HTS.out; omega, HTS.out, HT4.out.lt⟩
    have hiter := World.iter_heap w3 (text []) 0
    have HIT := Lib.hid hiter
    obtain ⟨h0', h1, h2⟩ := (HH.out.grown HG4.out).three
    clear p0 p1 p2 p3 hiter
    gi_wp2
    gi_loopw [6] (fun ah wr => ah = .slice wa wn wc ∧ Hid (wr.heap[w3.heap.size]? = some (.stringIter (text []) 0)) ∧ Hid (J [] wr)) (fun _ _ => 0)
    case atStart =>
      have hgi : w3.grownBy (w3.iter (text []) 0) none := World.grownBy_alloc w3 (.stringIter (text []) 0) none
      exact ⟨rfl, HIT, hJ [] _ _ none h0 (grownN_trans HG4.out hgi) (fun _ e => by cases e)⟩
    case round =>
      rename_i _ wr
      obtain ⟨rfl, HI, HJ⟩ := hrel
      have hnx : ∀ ty, (Instr.next (.pointer (some ⟨w3.heap.size, 0, none⟩)) true ty).run Tryz.prog wr = .ok (.tuple #[.bool false]) wr := fun ty => Lib.run_next_end_at wr _ _ _ ty HI.out (by simp [text, ByteArray.size])
      gi_wp2
      go_end0
      exact ⟨⟨_, rfl⟩, HJ.out⟩
  · go_simp
    have HG1 := Lib.hid (grownN_trans HGD.out (World.grownBy_alloc W0.drew (.cells #[.int .i64 0, .int .i64 0, .slice none 0 0, .slice none 0 0] 44 (0, 0)) none))
    have HT1 : Hid (Box (W0.drew.alloc (.cells #[.int .i64 0, .int .i64 0, .slice none 0 0, .slice none 0 0] 44 (0, 0))) W0.heap.size #[.int .i64 0, .int .i64 0, .slice none 0 0, .slice none 0 0] 44) := box_new W0.drew #[.int .i64 0, .int .i64 0, .slice none 0 0, .slice none 0 0] 44
    refine hK.out _ _ ⟨Four.four (HP.out.grown HG1.out), (HH.out.grown HG1.out).three⟩ (fun hHeld => ?_)
    clear hK K
    (try simp only [Act.put, List.getElem_toArray, List.getElem_cons_succ, List.getElem_cons_zero, List.setIfInBounds_toArray, List.set_cons_zero, List.set_cons_succ])
    refine wpAnyH_ready (rs := [5]) (by kernel_rfl) (by simp) ?_; refine AllReadyH.cons rfl (fun K hK => ?_) AllReadyH.nil; go_simp; (go_at_call 163; refine (iNeedOf_any _ _ L (HBE.out _ HG1.out)).mono ?_; rintro e v2 ⟨rfl, hg⟩; rw [← HQ.out])
    have HG2 := Lib.hid (grownN_trans HG1.out hg)
    have HT2 := Lib.hid (HT1.out.grown hg)
    have HTS : Hid (W0.heap.size ≤ W0.heap.size) := Nat.le_refl _
    refine hK.out _ _ ⟨Four.four (HP.out.grown HG2.out), (HH.out.grown HG2.out).three⟩ (fun hHeld => ?_)
    clear hK K hg HT1
    (try simp only [Act.put, List.getElem_toArray, List.getElem_cons_succ, List.getElem_cons_zero, List.setIfInBounds_toArray, List.set_cons_zero, List.set_cons_succ])
    obtain ⟨⟨s0, z0⟩, ⟨s1, z1⟩, ⟨s2, z2⟩, ⟨s3, z3⟩⟩ := put4_on HT2.out (.int .i64 n) (.int .i64 f) (.slice ca cn cc) (.slice pa pn pc)
    have HT3 := Lib.hid (put4_box (x' := .int .i64 n) (y' := .int .i64 f) (z' := .slice ca cn cc) (u' := .slice pa pn pc) HT2.out)
    have HG3 := Lib.hid (grown_new HG2.out (put4_grown v2 W0.heap.size (.int .i64 n) (.int .i64 f) (.slice ca cn cc) (.slice pa pn pc)) (fun c e => by injection e with e; have := HTS.out; omega))
    refine wpAnyH_ready (rs := [7]) (by kernel_rfl) (by simp) ?_; refine AllReadyH.cons rfl (fun K hK => ?_) AllReadyH.nil; go_simp
    refine hK.out _ _ ⟨Four.four (HP.out.grown HG3.out), (HH.out.grown HG3.out).three⟩ (fun hHeld => ?_)
    clear hK K
    (try simp only [Act.put, List.getElem_toArray, List.getElem_cons_succ, List.getElem_cons_zero, List.setIfInBounds_toArray, List.set_cons_zero, List.set_cons_succ])
    refine wpAnyH_take (i := 8) (v := ?_) rfl (by kernel_rfl) (by kernel_rfl) (by kernel_rfl) (fun _ _ _ h => h) (Or.inl ⟨by rfl, ?_⟩) (by assumption) ?_; rotate_left; (focus (intro wS hSw; (try dsimp only at hSw); go_simp <;> with_reducible rfl)); (try simp only [Act.put, List.getElem_toArray, List.getElem_cons_succ, List.getElem_cons_zero, List.setIfInBounds_toArray, List.set_cons_zero, List.set_cons_succ])
    refine wpAnyH_take (i := 9) (v := ?_) rfl (by kernel_rfl) (by kernel_rfl) (by kernel_rfl) (fun _ _ _ h => h) (Or.inl ⟨by rfl, ?_⟩) (by assumption) ?_; rotate_left; (focus (intro wS hSw; (try dsimp only at hSw); go_simp <;> with_reducible rfl)); (try simp only [Act.put, List.getElem_toArray, List.getElem_cons_succ, List.getElem_cons_zero, List.setIfInBounds_toArray, List.set_cons_zero, List.set_cons_succ])
    have HT4 : Hid (Box ((((v2.setCell ⟨W0.heap.size, 0, none⟩ (.int .i64 n)).setCell ⟨W0.heap.size, 1, none⟩ (.int .i64 f)).setCell ⟨W0.heap.size, 2, none⟩ (.slice ca cn cc)).setCell ⟨W0.heap.size, 3, none⟩ (.slice pa pn pc)) W0.heap.size #[.int .i64 n, .int .i64 f, .slice ca cn cc, .slice pa pn pc] 44) := HT3.out
    have HG4 : Hid (W0.grownBy ((((v2.setCell ⟨W0.heap.size, 0, none⟩ (.int .i64 n)).setCell ⟨W0.heap.size, 1, none⟩ (.int .i64 f)).setCell ⟨W0.heap.size, 2, none⟩ (.slice ca cn cc)).setCell ⟨W0.heap.size, 3, none⟩ (.slice pa pn pc)) none) := HG3.out
    generalize (((v2.setCell ⟨W0.heap.size, 0, none⟩ (.int .i64 n)).setCell ⟨W0.heap.size, 1, none⟩ (.int .i64 f)).setCell ⟨W0.heap.size, 2, none⟩ (.slice ca cn cc)).setCell ⟨W0.heap.size, 3, none⟩ (.slice pa pn pc) = w3 at *
    refine wpAnyH_done (by kernel_rfl) ?_ _
    (try simp only [Act.put, List.getElem_toArray, List.getElem_cons_succ, List.getElem_cons_zero, List.setIfInBounds_toArray, List.set_cons_zero, List.set_cons_succ])
    clear s0 z0 s1 z1 s2 z2 s3 z3 HT3 HG3 HT2 HG2 hHeld HGD HG1
    have HTN : Hid (W0.heap.size ≠ LA ∧ W0.heap.size ≠ l ∧ W0.heap.size ≤ W0.heap.size ∧ W0.heap.size < w3.heap.size) := ⟨by have := HTS.out; omega, by have := HTS.out; omega, HTS.out, HT4.out.lt⟩
    have hiter := World.iter_heap w3 (text []) 0
    have HIT := Lib.hid hiter
    obtain ⟨h0', h1, h2⟩ := (HH.out.grown HG4.out).three
    clear p0 p1 p2 p3 hiter
    gi_wp2
    gi_loopw [6] (fun ah wr => ah = .slice wa wn wc ∧ Hid (wr.heap[w3.heap.size]? = some (.stringIter (text []) 0)) ∧ Hid (J [] wr)) (fun _ _ => 0)
    case atStart =>
      have hgi : w3.grownBy (w3.iter (text []) 0) none := World.grownBy_alloc w3 (.stringIter (text []) 0) none
      exact ⟨rfl, HIT, hJ [] _ _ none h0 (grownN_trans HG4.out hgi) (fun _ e => by cases e)⟩
    case round =>
      rename_i _ wr
      obtain ⟨rfl, HI, HJ⟩ := hrel
      have hnx : ∀ ty, (Instr.next (.pointer (some ⟨w3.heap.size, 0, none⟩)) true ty).run Tryz.prog wr = .ok (.tuple #[.bool false]) wr := fun ty => Lib.run_next_end_at wr _ _ _ ty HI.out (by simp [text, ByteArray.size])
      gi_wp2
      go_end0
      exact ⟨⟨_, rfl⟩, HJ.out⟩
end Go.Proofs.YtkbgamfglofaiaaGreat.Itn
