/- The program's worst return, day by day: the iterator, for every loop body that keeps all but two blocks. -/
import Derived.Test.YtonalkamfgpokaaGreatG21
import Derived.Test.YtonalkamfgpokaaGreatG28
import Derived.Test.YtonalkamfgpokaaGreatG19
import Derived.Test.YtonalkamfgpokaaGreatG18
import Derived.Test.YtonalkamfgpokaaGreatExc
import Derived.RangeFuncNested
import Derived.RangeFuncBound
import Derived.RangeFuncCalls
import Derived.RangeFuncLeaves
import Derived.RangeFuncBox
import Derived.Shelf.Abstract
import Derived.Shelf.RegionOpen
import Derived.OwnWalkIn
import Derived.TacticsInMore
import Derived.LoopNIn
import Derived.LoopIn
import Derived.Lib.OthersKept
import Derived.Deep.RegionHeld3
namespace Go.Proofs.YtonalkamfgpokaaGreat.Itr
open Go.RowKit Go.Shelf Kit Rw Rg Stm Crw CrS CrI Four Hom Sgn
attribute [local go_sem] Oper.semAt_some

/-- The party at the end of each day: its cell and its food; till it cannot eat. -/
def days (need : Int) (pick : Int → Int → Int) : List Bool → List Int → Int → Int → List (Int × Int)
  | [], _, _, _ => []
  | true :: S, W, a, f => if f < need then [] else (a, f - need) :: days need pick S W a (f - need)
  | false :: S, W, _, f => if f < need then [] else
    match W with
    | [] => []
    | c :: W => (c, pick c (f - need)) :: days need pick S W c (pick c (f - need))
theorem days_no {need : Int} {pick : Int → Int → Int} {s : Bool} {S : List Bool} {W : List Int} {a f : Int} (h : f < need) : days need pick (s :: S) W a f = [] := by
  cases s <;> simp [days, h]
theorem days_storm {need : Int} {pick : Int → Int → Int} {S : List Bool} {W : List Int} {a f : Int} (h : ¬ f < need) : days need pick (true :: S) W a f = (a, f - need) :: days need pick S W a (f - need) := by
  simp [days, h]
theorem days_calm {need : Int} {pick : Int → Int → Int} {S : List Bool} {c : Int} {W : List Int} {a f : Int} (h : ¬ f < need) : days need pick (false :: S) (c :: W) a f = (c, pick c (f - need)) :: days need pick S W c (pick c (f - need)) := by
  simp [days, h]
/-- All but two blocks is as it was. -/
structure K2 (x y : Nat) (W W' : World) : Prop where
  os : W'.os = W.os
  tape : W'.tape = W.tape
  output : W'.output = W.output
  size : W.heap.size ≤ W'.heap.size
  same : ∀ k, k < W.heap.size → k ≠ x → k ≠ y → W'.heap[k]? = W.heap[k]?
theorem K2.refl (x y : Nat) (W : World) : K2 x y W W := ⟨rfl, rfl, rfl, Nat.le_refl _, fun _ _ _ _ => rfl⟩
theorem K2.trans {x y : Nat} {A B C : World} (h : K2 x y A B) (k : K2 x y B C) : K2 x y A C :=
  ⟨k.os.trans h.os, k.tape.trans h.tape, k.output.trans h.output, Nat.le_trans h.size k.size, fun i hi h1 h2 => (k.same i (Nat.lt_of_lt_of_le hi h.size) h1 h2).trans (h.same i hi h1 h2)⟩
theorem K2.of {x y : Nat} {A B : World} {r : Option Nat} (h : A.grownBy B r) (hr : ∀ c, r = some c → A.heap.size ≤ c ∨ c = x ∨ c = y) : K2 x y A B :=
  ⟨h.os, h.tape, h.output, h.size, fun i hi h1 h2 => h.block i hi (fun e => by have := hr i e.symm; omega)⟩
/-- From a world on: a write into what has been made since. -/
theorem K2.new {x y : Nat} {A B C : World} {r : Option Nat} (h : K2 x y A B) (k : B.grownBy C r) (hr : ∀ c, r = some c → A.heap.size ≤ c) : K2 x y A C :=
  ⟨k.os.trans h.os, k.tape.trans h.tape, k.output.trans h.output, Nat.le_trans h.size k.size, fun i hi h1 h2 => (k.block i (Nat.lt_of_lt_of_le hi h.size) (fun e => by have := hr i e.symm; omega)).trans (h.same i hi h1 h2)⟩
theorem K2.below {x y : Nat} {A B : World} {n : Nat} (h : K2 x y A B) (hn : n ≤ A.heap.size) (hx : n ≤ x) (hy : n ≤ y) : Below n A B :=
  ⟨h.os, h.tape, h.output, h.size, fun k hk => h.same k (by omega) (by omega) (by omega)⟩
theorem K2.box {x y : Nat} {A B : World} {b : Nat} {cs : Array Value} {T : TypeId} (h : K2 x y A B) (hb : Box A b cs T) (h1 : b ≠ x) (h2 : b ≠ y) : Box B b cs T := (h.same b hb.lt h1 h2).trans hb
theorem iter_grown {w : World} {k : Nat} {s : ByteArray} {p : Nat} (hk : w.heap[k]? = some (.stringIter s p)) (p' : Nat) : w.grownBy (w.iterAt k s p') (some k) :=
  ⟨rfl, rfl, rfl, by rw [Lib.iterAt_size]; exact Nat.le_refl _, fun i _ h => Lib.iterAt_other w k i s p' (fun e => h (by rw [e]))⟩
theorem calms_next (b : Bool) (S : List Bool) : calms (b :: S) = (if b then 0 else 1) + calms S := by cases b <;> simp [calms, Nat.add_comm]
theorem text_size (S : List Bool) : (text S).size = S.length := by simp [text, ByteArray.size]
theorem text_at (S : List Bool) (j : Nat) (h : j < (text S).size) : ((text S)[j]'h).toNat = (if S.getD j false then 115 else 46) := by
  have hj : j < S.length := by rw [← text_size]; exact h
  have : (text S)[j]'h = byte (S[j]'hj) := by
    show ((S.map byte).toArray)[j]'(by simpa using hj) = _
    simp
  rw [this]
  cases hb : S[j] <;> simp [byte, hj, hb]

set_option maxRecDepth 100000 in
set_option maxHeartbeats 4000000 in
theorem iter_any (m : Nat) (we W0 : World) (l LA Pb Hb Db : Nat) (base n f : Int) (wv cv pv dv : Value) (way Wl : List Int) (S0 : List Bool) (L : List Mem) (D : List (Int × Int))
    (hP : Box W0 Pb #[.int .i64 n, .int .i64 f, cv, pv] 42) (hH : Box W0 Hb #[.int .i64 base, wv, .string (text S0)] 173) (hD : Box W0 Db #[dv] 39)
    (hw : Below we.heap.size we W0) (hla : we.heap.size ≤ LA ∧ LA < W0.heap.size) (hll : we.heap.size ≤ l ∧ l < W0.heap.size) (hne : Pb ≠ LA ∧ Pb ≠ l ∧ Hb ≠ LA ∧ Hb ≠ l ∧ Db ≠ LA ∧ Db ≠ l)
    (hc : SeesG encM we cv L) (hd : SeesG encP we dv D) (hway : Sees .i64 we wv way) (hcr : areCrew L = true) (hwy : way = n :: Wl) (hcal : calms S0 = Wl.length) (hf : 0 ≤ f ∧ f ≤ 10000) (hS : S0.length ≤ 3000000) (hpv : ∃ pa pn pc, pv = .slice pa pn pc)
    (J : List (Int × Int) → World → Prop) (hJ : ∀ s W W' row, J s W → W.grownBy W' row → (∀ r, row = some r → W0.heap.size ≤ r) → J s W')
    (hY : ∀ pre a g W, J pre W → YieldAt Fence.wide m Tryz.prog l #[.agg #[.int .i64 a, .int .i64 g, cv, pv]] W fun e W' => e = .returned (.bool true) ∧ J (pre ++ [(a, g)]) W' ∧ K2 LA l W W') (h0 : J [] W0) :
    CallsIn Fence.wide (m + 1) Tryz.prog 217 #[.func (.yield l) #[] #[], .pointer (some ⟨Pb, 0, none⟩), .pointer (some ⟨Hb, 0, none⟩), .pointer (some ⟨Db, 0, none⟩)] W0 fun e W' =>
      (∃ v, e = .returned v) ∧ J (days (needOf L) (gain L D) S0 Wl n f) W' := by
  obtain ⟨wa, wn, wc, rfl, HWN⟩ := hway.shape
  obtain ⟨ca, cn, cc, rfl, HCN⟩ := hc.shape
  obtain ⟨pa, pn, pc, rfl⟩ := hpv
  obtain ⟨rb, ro, rfl, _⟩ := hway.at_row (j := 0) (by rw [hwy]; simp)
  have HWAY := Lib.hid hway
  have HC := Lib.hid hc
  have HD := Lib.hid hd
  have HP := Lib.hid hP
  have HH := Lib.hid hH
  have HDB := Lib.hid hD
  have HBW := Lib.hid hw
  obtain ⟨q, hq⟩ : ∃ q, q = needOf L := ⟨_, rfl⟩
  have hqb : 0 < q ∧ q ≤ 800 := by rw [hq]; exact ⟨needOf_pos hcr, (needOf_bound L).2⟩
  have HQ := Lib.hid hq
  have hwn : wn = Wl.length + 1 := by rw [← HWN.out, hwy]; simp
  subst hwn
  have hwc : Wl.length + 1 ≤ wc := by
    obtain ⟨_, c', e, hle, _⟩ := hway
    injection e with _ e1 e2
    omega
  have hS1 := hH.three
  obtain ⟨p0, p1, p2, p3⟩ := Four.four hP
  obtain ⟨h0', h1, h2⟩ := hH.three
  rw [← hq]
  clear hway hc hd hP hH hD hw hq hS1
  refine callsIn_of_wp Tryz.func217 rfl trivial ?_ rfl
  simp only [Tryz.ntmps217, List.size_toArray, List.length_cons, List.length_nil, Nat.reduceAdd, Nat.reduceSub, Array.replicate_succ, Array.replicate_zero, List.push_toArray, List.append_toArray, List.nil_append, List.cons_append]
  gi_wp2
  -- walk
  refine wpIn_wide.2 ?_
  have HGD := Lib.hid (grown_drew (World.grownBy.refl W0 none))
  refine wp_region_held_drew (S := fun w' => (w'.cell? ⟨Pb, 0, none⟩ = some (.int .i64 n) ∧ w'.cell? ⟨Pb, 1, none⟩ = some (.int .i64 f) ∧ w'.cell? ⟨Pb, 2, none⟩ = some (.slice ca cn cc) ∧ w'.cell? ⟨Pb, 3, none⟩ = some (.slice pa pn pc)) ∧ (w'.cell? ⟨Hb, 0, none⟩ = some (.int .i64 base) ∧ w'.cell? ⟨Hb, 1, none⟩ = some (.slice (some ⟨rb, ro, none⟩) (Wl.length + 1) wc) ∧ w'.cell? ⟨Hb, 2, none⟩ = some (.string (text S0)))) (by kernel_rfl) ⟨Four.four (HP.out.grown HGD.out), (HH.out.grown HGD.out).three⟩ (fun hHeld => ?_)
  refine wpAnyH_take (i := 0) (v := ?_) rfl (by kernel_rfl) (by kernel_rfl) (by kernel_rfl) (fun _ _ _ h => h) (Or.inl ⟨by rfl, ?_⟩) (by assumption) ?_; rotate_left; (focus (intro wS hSw; (try dsimp only at hSw); go_simp <;> with_reducible rfl)); (try simp only [Act.put, List.getElem_toArray, List.getElem_cons_succ, List.getElem_cons_zero, List.setIfInBounds_toArray, List.set_cons_zero, List.set_cons_succ])
  refine wpAnyH_take (i := 1) (v := ?_) rfl (by kernel_rfl) (by kernel_rfl) (by kernel_rfl) (fun _ _ _ h => h) (Or.inl ⟨by rfl, ?_⟩) (by assumption) ?_; rotate_left; (focus (intro wS hSw; (try dsimp only at hSw); go_simp <;> with_reducible rfl)); (try simp only [Act.put, List.getElem_toArray, List.getElem_cons_succ, List.getElem_cons_zero, List.setIfInBounds_toArray, List.set_cons_zero, List.set_cons_succ])
  refine wpAnyH_take (i := 2) (v := ?_) rfl (by kernel_rfl) (by kernel_rfl) (by kernel_rfl) (fun _ _ _ h => h) (Or.inl ⟨by rfl, ?_⟩) (by assumption) ?_; rotate_left; (focus (intro wS hSw; (try dsimp only at hSw); go_simp <;> with_reducible rfl)); (try simp only [Act.put, List.getElem_toArray, List.getElem_cons_succ, List.getElem_cons_zero, List.setIfInBounds_toArray, List.set_cons_zero, List.set_cons_succ])
  refine wpAnyH_take (i := 3) (v := ?_) rfl (by kernel_rfl) (by kernel_rfl) (by kernel_rfl) (fun _ _ _ h => h) (Or.inl ⟨by rfl, ?_⟩) (by assumption) ?_; rotate_left; (focus (intro wS hSw; (try dsimp only at hSw); go_simp <;> with_reducible rfl)); (try simp only [Act.put, List.getElem_toArray, List.getElem_cons_succ, List.getElem_cons_zero, List.setIfInBounds_toArray, List.set_cons_zero, List.set_cons_succ])
  refine wpAnyH_take (i := 4) (v := ?_) rfl (by kernel_rfl) (by kernel_rfl) (by kernel_rfl) (fun _ _ _ h => h) (Or.inl ⟨by rfl, ?_⟩) (by assumption) ?_; rotate_left; (focus (intro wS hSw; (try dsimp only at hSw); go_simp <;> with_reducible rfl)); (try simp only [Act.put, List.getElem_toArray, List.getElem_cons_succ, List.getElem_cons_zero, List.setIfInBounds_toArray, List.set_cons_zero, List.set_cons_succ])
  have HBE := Lib.hid (fun W (hg : W0.grownBy W none) => (HC.out.below (HBW.out.trans (grown_below hg we.heap.size HBW.out.size))))
  refine wpAnyH_ready (rs := [5, 6]) (by kernel_rfl) (by simp) ?_
  refine AllReadyH.cons rfl (fun K hK => ?_) (AllReadyH.cons rfl (fun K hK => ?_) AllReadyH.nil)
  · go_simp; (go_at_call 194; refine (iNeedOf_any _ _ L (HBE.out _ HGD.out)).mono ?_; rintro e v1 ⟨rfl, hg⟩; rw [← HQ.out])
    have HG1 := Lib.hid (grownN_trans HGD.out hg)
    refine hK.out _ _ ⟨Four.four (HP.out.grown HG1.out), (HH.out.grown HG1.out).three⟩ (fun hHeld => ?_)
    clear hK K hg
    (try simp only [Act.put, List.getElem_toArray, List.getElem_cons_succ, List.getElem_cons_zero, List.setIfInBounds_toArray, List.set_cons_zero, List.set_cons_succ])
    have HG2 := Lib.hid (grownN_trans HG1.out (World.grownBy_alloc v1 (.cells #[.int .i64 0, .int .i64 0, .slice none 0 0, .slice none 0 0] 42 (0, 0)) none))
    have HT2 := Lib.hid (box_new v1 #[.int .i64 0, .int .i64 0, .slice none 0 0, .slice none 0 0] 42)
    have HTS : Hid (W0.heap.size ≤ v1.heap.size) := HG1.out.size
    refine wpAnyH_ready (rs := [6]) (by kernel_rfl) (by simp) ?_; refine AllReadyH.cons rfl (fun K hK => ?_) AllReadyH.nil; go_simp
    refine hK.out _ _ ⟨Four.four (HP.out.grown HG2.out), (HH.out.grown HG2.out).three⟩ (fun hHeld => ?_)
    clear hK K
    (try simp only [Act.put, List.getElem_toArray, List.getElem_cons_succ, List.getElem_cons_zero, List.setIfInBounds_toArray, List.set_cons_zero, List.set_cons_succ])
    generalize v1.alloc (.cells #[.int .i64 0, .int .i64 0, .slice none 0 0, .slice none 0 0] 42 (0, 0)) = v2 at *
    generalize v1.heap.size = T at *
    obtain ⟨⟨s0, z0⟩, ⟨s1, z1⟩, ⟨s2, z2⟩, ⟨s3, z3⟩⟩ := put4_on HT2.out (.int .i64 n) (.int .i64 f) (.slice ca cn cc) (.slice pa pn pc)
    have HT3 := Lib.hid (put4_box (x' := .int .i64 n) (y' := .int .i64 f) (z' := .slice ca cn cc) (u' := .slice pa pn pc) HT2.out)
    have HG3 := Lib.hid (grown_new HG2.out (put4_grown v2 T (.int .i64 n) (.int .i64 f) (.slice ca cn cc) (.slice pa pn pc)) (fun c e => by injection e with e; have := HTS.out; omega))
    refine wpAnyH_ready (rs := [7]) (by kernel_rfl) (by simp) ?_; refine AllReadyH.cons rfl (fun K hK => ?_) AllReadyH.nil; go_simp
    refine hK.out _ _ ⟨Four.four (HP.out.grown HG3.out), (HH.out.grown HG3.out).three⟩ (fun hHeld => ?_)
    clear hK K
    (try simp only [Act.put, List.getElem_toArray, List.getElem_cons_succ, List.getElem_cons_zero, List.setIfInBounds_toArray, List.set_cons_zero, List.set_cons_succ])
    refine wpAnyH_take (i := 8) (v := ?_) rfl (by kernel_rfl) (by kernel_rfl) (by kernel_rfl) (fun _ _ _ h => h) (Or.inl ⟨by rfl, ?_⟩) (by assumption) ?_; rotate_left; (focus (intro wS hSw; (try dsimp only at hSw); go_simp <;> with_reducible rfl)); (try simp only [Act.put, List.getElem_toArray, List.getElem_cons_succ, List.getElem_cons_zero, List.setIfInBounds_toArray, List.set_cons_zero, List.set_cons_succ])
    refine wpAnyH_take (i := 9) (v := ?_) rfl (by kernel_rfl) (by kernel_rfl) (by kernel_rfl) (fun _ _ _ h => h) (Or.inl ⟨by rfl, ?_⟩) (by assumption) ?_; rotate_left; (focus (intro wS hSw; (try dsimp only at hSw); go_simp <;> with_reducible rfl)); (try simp only [Act.put, List.getElem_toArray, List.getElem_cons_succ, List.getElem_cons_zero, List.setIfInBounds_toArray, List.set_cons_zero, List.set_cons_succ])
    have HT4 : Hid (Box ((((v2.setCell ⟨T, 0, none⟩ (.int .i64 n)).setCell ⟨T, 1, none⟩ (.int .i64 f)).setCell ⟨T, 2, none⟩ (.slice ca cn cc)).setCell ⟨T, 3, none⟩ (.slice pa pn pc)) T #[.int .i64 n, .int .i64 f, .slice ca cn cc, .slice pa pn pc] 42) := HT3.out
    have HG4 : Hid (W0.grownBy ((((v2.setCell ⟨T, 0, none⟩ (.int .i64 n)).setCell ⟨T, 1, none⟩ (.int .i64 f)).setCell ⟨T, 2, none⟩ (.slice ca cn cc)).setCell ⟨T, 3, none⟩ (.slice pa pn pc)) none) := HG3.out
    generalize (((v2.setCell ⟨T, 0, none⟩ (.int .i64 n)).setCell ⟨T, 1, none⟩ (.int .i64 f)).setCell ⟨T, 2, none⟩ (.slice ca cn cc)).setCell ⟨T, 3, none⟩ (.slice pa pn pc) = w3 at *
    refine wpAnyH_done (by kernel_rfl) ?_ _
    (try simp only [Act.put, List.getElem_toArray, List.getElem_cons_succ, List.getElem_cons_zero, List.setIfInBounds_toArray, List.set_cons_zero, List.set_cons_succ])
    clear s0 z0 s1 z1 s2 z2 s3 z3 HT3 HG3 HT2 HG2 hHeld HGD HG1
    have HTN : Hid (T ≠ LA ∧ T ≠ l ∧ W0.heap.size ≤ T ∧ T < w3.heap.size) := ⟨by have := HTS.out; omega, by have := HTS.out; omega, HTS.out, HT4.out.lt⟩
    have hiter := World.iter_heap w3 (text S0) 0
    have HIT := Lib.hid hiter
    obtain ⟨h0', h1, h2⟩ := (HH.out.grown HG4.out).three
    clear p0 p1 p2 p3 hiter
    gi_wp2
    gi_loopw [6] (fun ah wr => ∃ (j i : Nat) (a g : Int) (pre : List (Int × Int)), j ≤ S0.length ∧ i ≤ Wl.length ∧ ah = .slice (some ⟨rb, ro + i, none⟩) (Wl.length + 1 - i) (wc - i) ∧ Hid (0 ≤ g ∧ g ≤ 10000) ∧ Hid (calms (S0.drop j) = Wl.length - i) ∧ Hid (pre ++ days q (gain L D) (S0.drop j) (Wl.drop i) a g = days q (gain L D) S0 Wl n f) ∧ Hid (Box wr T #[.int .i64 a, .int .i64 g, .slice ca cn cc, .slice pa pn pc] 42) ∧ Hid (wr.heap[w3.heap.size]? = some (.stringIter (text S0) j)) ∧ Hid (K2 LA l W0 wr) ∧ Hid (J pre wr)) (fun _ wr => S0.length - wr.iterPos w3.heap.size)
    case atStart =>
      have hgi : w3.grownBy (w3.iter (text S0) 0) none := World.grownBy_alloc w3 (.stringIter (text S0) 0) none
      exact ⟨0, 0, n, f, [], Nat.zero_le _, Nat.zero_le _, by simp, hf, hcal, rfl, HT4.out.grown hgi, HIT, K2.of (grownN_trans HG4.out hgi) (fun c e => by cases e), hJ [] _ _ none h0 (grownN_trans HG4.out hgi) (fun _ e => by cases e)⟩
    case round =>
      rename_i _ wr
      obtain ⟨j, i, a, g, pre, hj, hi, rfl, HGB, HCA, HE, HT, HI, HK, HJ⟩ := hrel
      by_cases hlt : j < S0.length
      · have hltT : j < (text S0).size := by rw [text_size]; exact hlt
        have hcode := text_at S0 j hltT
        have hdr : S0.drop j = S0.getD j false :: S0.drop (j + 1) := by rw [List.drop_eq_getElem_cons hlt]; simp [hlt]
        have hgi := iter_grown HI.out (j + 1)
        have HT2 := Lib.hid (HT.out.kept hgi (fun e => by injection e with e; have := HTN.out; omega))
        have HI2 := Lib.hid (Lib.iterAt_heap wr w3.heap.size (text S0) j (j + 1) HI.out)
        have hIS : W0.heap.size ≤ w3.heap.size := HG4.out.size
        have HK2 := Lib.hid (HK.out.new hgi (fun c e => by injection e with e; omega))
        have HJ2 := Lib.hid (hJ _ _ _ _ HJ.out hgi (fun c e => by injection e with e; omega))
        have HIL : Hid (w3.heap.size < (wr.iterAt w3.heap.size (text S0) (j + 1)).heap.size) := (Array.getElem?_eq_some_iff.1 HI2.out).1
        have HPO : Hid ((wr.iterAt w3.heap.size (text S0) (j + 1)).iterPos w3.heap.size = j + 1 ∧ wr.iterPos w3.heap.size = j) := by
          refine ⟨?_, ?_⟩
          · simp only [World.iterPos, HI2.out]
          · simp only [World.iterPos, HI.out]
        obtain ⟨d0, d1, d2, d3⟩ := Four.four HT2.out
        have y1 := HT2.out.free 1
        cases hb : S0.getD j false
        · -- calm
          have hnx : ∀ ty, (Instr.next (.pointer (some ⟨w3.heap.size, 0, none⟩)) true ty).run Tryz.prog wr = .ok (.tuple #[.bool true, .int .i64 (j : Int), .int .i32 46]) (wr.iterAt w3.heap.size (text S0) (j + 1)) := fun ty => by
            have ha : ((text S0)[j]'hltT).toNat < 128 := by rw [hcode, hb]; decide
            rw [Lib.run_next_ascii_at wr _ _ j ty HI.out hltT ha, hcode, hb]; rfl
          rw [hb] at hdr
          have HDR := Lib.hid hdr
          clear hcode hb hdr hgi
          by_cases hgq : g < q
          · have HR : Hid (pre = days q (gain L D) S0 Wl n f) := by show _ = _; rw [← HE.out, HDR.out, days_no hgq, List.append_nil]
            gi_wp2
            refine bodyPost_ret (results_none rfl _ _ _) rfl ?_
            exact ⟨⟨_, rfl⟩, by rw [← HR.out]; exact HJ2.out⟩
          · have hcs : 1 + calms (S0.drop (j + 1)) = Wl.length - i := by rw [← HCA.out, HDR.out, calms_next]; simp
            have hil : i < Wl.length := by omega
            have HCA2 : Hid (calms (S0.drop (j + 1)) = Wl.length - (i + 1)) := by show _ = _; omega
            have hw : IntKind.i64.wrap (g - q) = g - q := IntWalk.i64_in _ (by have := HGB.out; omega)
            have hset := grown_set (wr.iterAt w3.heap.size (text S0) (j + 1)) T 1 (.int .i64 (g - q))
            have HT3 := Lib.hid (Four.four_set1 (v := .int .i64 (g - q)) HT2.out)
            have HI3 := Lib.hid ((hset.block w3.heap.size HIL.out (fun e => by injection e with e; have := HTN.out; omega)).trans HI2.out)
            have HK3 := Lib.hid (HK2.out.new hset (fun c e => by injection e with e; have := HTN.out; omega))
            have HJ3 := Lib.hid (hJ _ _ _ _ HJ2.out hset (fun c e => by injection e with e; have := HTN.out; omega))
            have HIL3 := Lib.hid (Nat.lt_of_lt_of_le HIL.out hset.size)
            obtain ⟨x0, x1, x2, x3⟩ := Four.four HT3.out
            obtain ⟨c, hc⟩ : ∃ c, c = Wl.getD i 0 := ⟨_, rfl⟩
            have hce : ((wr.iterAt w3.heap.size (text S0) (j + 1)).setCell ⟨T, 1, none⟩ (.int .i64 (g - q))).cell? ⟨rb, ro + i + 1, none⟩ = some (.int .i64 c) := by
              have hbl := HBW.out.trans (HK3.out.below HBW.out.size hla.1 hll.1)
              obtain ⟨b', o', e, hat⟩ := (HWAY.out.below hbl).at_row (j := i + 1) (by rw [HWN.out]; omega)
              injection e with e; injection e with e1 e2; subst e1 e2
              rw [hc, show ro + i + 1 = ro + (i + 1) by omega, hat, hwy]; rfl
            have hns : ¬ wc - i = 1 := by omega
            have y0 := HT3.out.free 0
            have z0 := four_set0 (v := .int .i64 c) HT3.out
            have HC2 := Lib.hid hc
            clear hset hc
            gi_wp2
            have HT5 : Hid (Box (((wr.iterAt w3.heap.size (text S0) (j + 1)).setCell ⟨T, 1, none⟩ (.int .i64 (g - q))).setCell ⟨T, 0, none⟩ (.int .i64 c)) T #[.int .i64 c, .int .i64 (g - q), .slice ca cn cc, .slice pa pn pc] 42) := Four.four_set0 (v := .int .i64 c) HT3.out
            have hset := grown_set ((wr.iterAt w3.heap.size (text S0) (j + 1)).setCell ⟨T, 1, none⟩ (.int .i64 (g - q))) T 0 (.int .i64 c)
            have HI5 := Lib.hid ((hset.block w3.heap.size HIL3.out (fun e => by injection e with e; have := HTN.out; omega)).trans HI3.out)
            have HK5 := Lib.hid (HK3.out.new hset (fun c e => by injection e with e; have := HTN.out; omega))
            have HJ5 := Lib.hid (hJ _ _ _ _ HJ3.out hset (fun c e => by injection e with e; have := HTN.out; omega))
            have HIL5 := Lib.hid (Nat.lt_of_lt_of_le HIL3.out hset.size)
            generalize ((wr.iterAt w3.heap.size (text S0) (j + 1)).setCell ⟨T, 1, none⟩ (.int .i64 (g - q))).setCell ⟨T, 0, none⟩ (.int .i64 c) = v5 at *
            have HBL5 := Lib.hid (HBW.out.trans (HK5.out.below HBW.out.size hla.1 hll.1))
            have HC5 := Lib.hid (HC.out.below HBL5.out)
            have HD5 := Lib.hid (HD.out.below HBL5.out)
            have HDB5 := Lib.hid (HK5.out.box HDB.out hne.2.2.2.2.1 hne.2.2.2.2.2)
            have HGD5 := Lib.hid (grown_drew (World.grownBy.refl v5 none))
            have hgw : (Lit.int .i64 (g - q)).wf = true := i64_mk (by have := HGB.out; omega)
            have HGW := Lib.hid hgw
            obtain ⟨gn, hgn⟩ : ∃ gn, gn = gain L D c (g - q) := ⟨_, rfl⟩
            have HGN := Lib.hid (gain_bd L D c (show 0 ≤ g - q ∧ g - q ≤ 10000 by have := HGB.out; omega))
            have hfit : IntKind.i64.wrap (g - q + Mn.most 0 (Mn.least (Dep.foodAt D c) (Pa.roomOf L (g - q)))) = gn := by
              rw [hgn]; exact IntWalk.i64_in _ (by have h1 := HGB.out; have h2 := HGN.out; unfold gain Ph.pickF Ph.pickK at h2; omega)
            rw [← hgn] at HGN
            have HGQ := Lib.hid hgn
            clear hset x0 x1 x2 x3 y0 y1 z0 hce hns hw hgn hgw HT3 HI3 HK3 HJ3 HIL3 d0 d1 d2 d3
            refine wpIn_wide.2 ?_
            refine Exc.region_E 10 (S := fun w' => (w'.cell? ⟨T, 0, none⟩ = some (.int .i64 c) ∧ w'.cell? ⟨T, 1, none⟩ = some (.int .i64 (g - q)) ∧ w'.cell? ⟨T, 2, none⟩ = some (.slice ca cn cc) ∧ w'.cell? ⟨T, 3, none⟩ = some (.slice pa pn pc)) ∧ w'.cell? ⟨Db, 0, none⟩ = some dv) (by kernel_rfl) ⟨Four.four (HT5.out.grown HGD5.out), (HDB5.out.grown HGD5.out).cell 0⟩ (fun hHeld => ?_)
            refine Exc.take_W (i := 0) (v := ?_) rfl (by kernel_rfl) (by kernel_rfl) (by kernel_rfl) (by kernel_rfl) (fun _ _ _ h => h) (Or.inl ⟨by rfl, ?_⟩) (by first | exact (fun _ => by assumption) | exact (fun h => absurd h (by decide))) ?_; rotate_left; (focus (intro wS hSw; (try dsimp only at hSw); go_simp <;> with_reducible rfl)); (try simp only [Act.put, List.getElem_toArray, List.getElem_cons_succ, List.getElem_cons_zero, List.setIfInBounds_toArray, List.set_cons_zero, List.set_cons_succ])
            refine Exc.take_E (i := 1) (v := ?_) rfl (by kernel_rfl) (by kernel_rfl) (by kernel_rfl) (by kernel_rfl) (by kernel_rfl) (by kernel_rfl) (fun _ _ _ h => h) (Or.inl ⟨by rfl, ?_⟩) (by assumption) ?_; rotate_left; (focus (intro wS hSw; (try dsimp only at hSw); go_simp <;> with_reducible rfl)); (try simp only [Act.put, List.getElem_toArray, List.getElem_cons_succ, List.getElem_cons_zero, List.setIfInBounds_toArray, List.set_cons_zero, List.set_cons_succ])
            refine Exc.take_E (i := 2) (v := ?_) rfl (by kernel_rfl) (by kernel_rfl) (by kernel_rfl) (by kernel_rfl) (by kernel_rfl) (by kernel_rfl) (fun _ _ _ h => h) (Or.inl ⟨by rfl, ?_⟩) (by assumption) ?_; rotate_left; (focus (intro wS hSw; (try dsimp only at hSw); go_simp <;> with_reducible rfl)); (try simp only [Act.put, List.getElem_toArray, List.getElem_cons_succ, List.getElem_cons_zero, List.setIfInBounds_toArray, List.set_cons_zero, List.set_cons_succ])
            refine Exc.take_E (i := 3) (v := ?_) rfl (by kernel_rfl) (by kernel_rfl) (by kernel_rfl) (by kernel_rfl) (by kernel_rfl) (by kernel_rfl) (fun _ _ _ h => h) (Or.inl ⟨by rfl, ?_⟩) (by assumption) ?_; rotate_left; (focus (intro wS hSw; (try dsimp only at hSw); go_simp <;> with_reducible rfl)); (try simp only [Act.put, List.getElem_toArray, List.getElem_cons_succ, List.getElem_cons_zero, List.setIfInBounds_toArray, List.set_cons_zero, List.set_cons_succ])
            refine Exc.take_W (i := 4) (v := ?_) rfl (by kernel_rfl) (by kernel_rfl) (by kernel_rfl) (by kernel_rfl) (fun _ _ _ h => h) (Or.inl ⟨by rfl, ?_⟩) (by first | exact (fun _ => by assumption) | exact (fun h => absurd h (by decide))) ?_; rotate_left; (focus (intro wS hSw; (try dsimp only at hSw); go_simp <;> with_reducible rfl)); (try simp only [Act.put, List.getElem_toArray, List.getElem_cons_succ, List.getElem_cons_zero, List.setIfInBounds_toArray, List.set_cons_zero, List.set_cons_succ])
            refine Exc.take_E (i := 5) (v := ?_) rfl (by kernel_rfl) (by kernel_rfl) (by kernel_rfl) (by kernel_rfl) (by kernel_rfl) (by kernel_rfl) (fun _ _ _ h => h) (Or.inl ⟨by rfl, ?_⟩) (by assumption) ?_; rotate_left; (focus (intro wS hSw; (try dsimp only at hSw); go_simp <;> with_reducible rfl)); (try simp only [Act.put, List.getElem_toArray, List.getElem_cons_succ, List.getElem_cons_zero, List.setIfInBounds_toArray, List.set_cons_zero, List.set_cons_succ])
            refine Exc.ready_E (i := 6) (by kernel_rfl) rfl (fun K hK => ?_); go_simp; (go_at_call 105; refine (DepI.iFoodAt_any _ _ D c (HD5.out.grown HGD5.out)).mono ?_; rintro e v6 ⟨rfl, hg⟩; have HG6 := Lib.hid (grownN_trans HGD5.out hg); clear hg)
            refine hK.out _ _ ?_ (fun hHeld => ?_)
            · exact ⟨Four.four (HT5.out.grown HG6.out), (HDB5.out.grown HG6.out).cell 0⟩
            clear hK K
            (try simp only [Act.put, List.getElem_toArray, List.getElem_cons_succ, List.getElem_cons_zero, List.setIfInBounds_toArray, List.set_cons_zero, List.set_cons_succ])
            refine Exc.ready_E (i := 7) (by kernel_rfl) rfl (fun K hK => ?_); go_simp; (go_at_call 153; refine (Ph.takes_any _ c (g - q) (Dep.foodAt D c) _ _ L HGW.out (HC5.out.grown HG6.out)).mono ?_; rintro e v7 ⟨rfl, hg⟩; have HG7 := Lib.hid (grownN_trans HG6.out hg); obtain ⟨e0, e1, e2, e3⟩ := Four.four (HT5.out.grown HG7.out); have y1 := (HT5.out.grown HG7.out).free 1; clear hg)
            refine hK.out _ _ ?_ (fun hHeld => ?_)
            · exact ⟨Four.four (HT5.out.grown HG7.out), (HDB5.out.grown HG7.out).cell 0⟩
            clear hK K
            (try simp only [Act.put, List.getElem_toArray, List.getElem_cons_succ, List.getElem_cons_zero, List.setIfInBounds_toArray, List.set_cons_zero, List.set_cons_succ])
            refine Exc.take_W (i := 8) (v := ?_) rfl (by kernel_rfl) (by kernel_rfl) (by kernel_rfl) (by kernel_rfl) (fun _ _ _ h => h) (Or.inl ⟨by rfl, ?_⟩) (by first | exact (fun _ => by assumption) | exact (fun h => absurd h (by decide))) ?_; rotate_left; (focus (intro wS hSw; (try dsimp only at hSw); go_simp <;> with_reducible rfl)); (try simp only [Act.put, List.getElem_toArray, List.getElem_cons_succ, List.getElem_cons_zero, List.setIfInBounds_toArray, List.set_cons_zero, List.set_cons_succ])
            refine Exc.take_W (i := 9) (v := ?_) rfl (by kernel_rfl) (by kernel_rfl) (by kernel_rfl) (by kernel_rfl) (fun _ _ _ h => h) (Or.inl ⟨by rfl, ?_⟩) (by first | exact (fun _ => by assumption) | exact (fun h => absurd h (by decide))) ?_; rotate_left; (focus (intro wS hSw; (try dsimp only at hSw); go_simp <;> with_reducible rfl)); (try simp only [Act.put, List.getElem_toArray, List.getElem_cons_succ, List.getElem_cons_zero, List.setIfInBounds_toArray, List.set_cons_zero, List.set_cons_succ])
            refine Exc.last_E (by kernel_rfl) rfl (by kernel_rfl) (fun K hK => ?_); go_simp
            refine hK.out _ _ ?_
            clear hK K
            (try simp only [Act.put, List.getElem_toArray, List.getElem_cons_succ, List.getElem_cons_zero, List.setIfInBounds_toArray, List.set_cons_zero, List.set_cons_succ])
            refine Exc.done_E (by kernel_rfl) ?_ _
            (try simp only [Act.put, List.getElem_toArray, List.getElem_cons_succ, List.getElem_cons_zero, List.setIfInBounds_toArray, List.set_cons_zero, List.set_cons_succ])
            have hset := grown_set v7 T 1 (.int .i64 gn)
            have HT8 := Lib.hid (Four.four_set1 (v := .int .i64 gn) (HT5.out.grown HG7.out))
            have hi7 : v7.heap[w3.heap.size]? = some (.stringIter (text S0) (j + 1)) := (HG7.out.block w3.heap.size HIL5.out (fun e => by cases e)).trans HI5.out
            have HI8 := Lib.hid ((hset.block w3.heap.size (Nat.lt_of_lt_of_le HIL5.out HG7.out.size) (fun e => by injection e with e; have := HTN.out; omega)).trans hi7)
            have HK8 := Lib.hid ((HK5.out.new HG7.out (fun c e => by cases e)).new hset (fun c e => by injection e with e; have := HTN.out; omega))
            have HJ8 := Lib.hid (hJ _ _ _ _ (hJ _ _ _ _ HJ5.out HG7.out (fun c e => by cases e)) hset (fun c e => by injection e with e; have := HTN.out; omega))
            have HIL8 := Lib.hid (Nat.lt_of_lt_of_le HIL5.out (Nat.le_trans HG7.out.size hset.size))
            obtain ⟨x0, x1, x2, x3⟩ := Four.four HT8.out
            obtain ⟨fn, tmps, assign, body, hy, hR⟩ := hY pre c gn _ HJ8.out
            have hdw : Wl.drop i = c :: Wl.drop (i + 1) := by rw [HC2.out, List.drop_eq_getElem_cons hil]; simp [hil]
            have HE2 : Hid ((pre ++ [(c, gn)]) ++ days q (gain L D) (S0.drop (j + 1)) (Wl.drop (i + 1)) c gn = days q (gain L D) S0 Wl n f) := by
              show _ = _; rw [← HE.out, HDR.out, hdw, days_calm (Int.not_lt.2 hgq), ← HGQ.out, List.append_assoc]; rfl
            clear hset hi7 hdw hfit e0 e1 e2 e3 hHeld
            gi_wp2
            refine hR.mono ?_
            rintro e W' ⟨rfl, hJ', hk'⟩
            have HJ9 := Lib.hid hJ'
            have HT9 := Lib.hid (hk'.box HT8.out HTN.out.1 HTN.out.2.1)
            have HI9 := Lib.hid ((hk'.same w3.heap.size HIL8.out (by have := HTN.out; omega) (by have := HTN.out; omega)).trans HI8.out)
            have HK9 := Lib.hid (HK8.out.trans hk')
            clear hJ' hk'
            gi_wp2
            go_roundw
            case rel => exact ⟨j + 1, i + 1, c, gn, pre ++ [(c, gn)], by omega, hil, by rw [show ro + (i + 1) = ro + i + 1 by omega, show Wl.length + 1 - (i + 1) = Wl.length + 1 - i - 1 by omega, show wc - (i + 1) = wc - i - 1 by omega], by show _ ∧ _; have := HGB.out; have := HGN.out; omega, HCA2, HE2, HT9, HI9, HK9, HJ9⟩
            case measure =>
              have h1 := HPO.out.2
              have h2 : W'.iterPos w3.heap.size = j + 1 := by simp only [World.iterPos, HI9.out]
              rw [h1, h2]; omega
        · -- storm
          have hnx : ∀ ty, (Instr.next (.pointer (some ⟨w3.heap.size, 0, none⟩)) true ty).run Tryz.prog wr = .ok (.tuple #[.bool true, .int .i64 (j : Int), .int .i32 115]) (wr.iterAt w3.heap.size (text S0) (j + 1)) := fun ty => by
            have ha : ((text S0)[j]'hltT).toNat < 128 := by rw [hcode, hb]; decide
            rw [Lib.run_next_ascii_at wr _ _ j ty HI.out hltT ha, hcode, hb]; rfl
          rw [hb] at hdr
          have HDR := Lib.hid hdr
          clear hcode hb hdr hgi
          by_cases hgq : g < q
          · have HR : Hid (pre = days q (gain L D) S0 Wl n f) := by show _ = _; rw [← HE.out, HDR.out, days_no hgq, List.append_nil]
            gi_wp2
            refine bodyPost_ret (results_none rfl _ _ _) rfl ?_
            exact ⟨⟨_, rfl⟩, by rw [← HR.out]; exact HJ2.out⟩
          · have hw : IntKind.i64.wrap (g - q) = g - q := IntWalk.i64_in _ (by have := HGB.out; omega)
            have hset := grown_set (wr.iterAt w3.heap.size (text S0) (j + 1)) T 1 (.int .i64 (g - q))
            have HT3 := Lib.hid (Four.four_set1 (v := .int .i64 (g - q)) HT2.out)
            have HI3 := Lib.hid ((hset.block w3.heap.size HIL.out (fun e => by injection e with e; have := HTN.out; omega)).trans HI2.out)
            have HK3 := Lib.hid (HK2.out.new hset (fun c e => by injection e with e; have := HTN.out; omega))
            have HJ3 := Lib.hid (hJ _ _ _ _ HJ2.out hset (fun c e => by injection e with e; have := HTN.out; omega))
            have HIL3 := Lib.hid (Nat.lt_of_lt_of_le HIL.out hset.size)
            obtain ⟨x0, x1, x2, x3⟩ := Four.four HT3.out
            obtain ⟨fn, tmps, assign, body, hy, hR⟩ := hY pre a (g - q) _ HJ3.out
            have HE2 : Hid ((pre ++ [(a, g - q)]) ++ days q (gain L D) (S0.drop (j + 1)) (Wl.drop i) a (g - q) = days q (gain L D) S0 Wl n f) := by
              show _ = _; rw [← HE.out, HDR.out, days_storm hgq, List.append_assoc]; rfl
            have HCA2 : Hid (calms (S0.drop (j + 1)) = Wl.length - i) := by
              show _ = _; rw [← HCA.out, HDR.out, calms_next]; simp
            clear hset
            gi_wp2
            refine hR.mono ?_
            rintro e W' ⟨rfl, hJ', hk'⟩
            have HJ4 := Lib.hid hJ'
            have HT4' := Lib.hid (hk'.box HT3.out HTN.out.1 HTN.out.2.1)
            have HI4 := Lib.hid ((hk'.same w3.heap.size HIL3.out (by have := HTN.out; omega) (by have := HTN.out; omega)).trans HI3.out)
            have HK4 := Lib.hid (HK3.out.trans hk')
            clear hJ' hk'
            gi_wp2
            go_roundw
            case rel => exact ⟨j + 1, i, a, g - q, pre ++ [(a, g - q)], by omega, hi, rfl, by show _ ∧ _; have := HGB.out; omega, HCA2, HE2, HT4', HI4, HK4, HJ4⟩
            case measure =>
              have h1 := HPO.out.2
              have h2 : W'.iterPos w3.heap.size = j + 1 := by simp only [World.iterPos, HI4.out]
              rw [h1, h2]; omega
      · have hej : j = S0.length := by omega
        subst hej
        have HR : Hid (pre = days q (gain L D) S0 Wl n f) := by show _ = _; rw [← HE.out, List.drop_length]; simp [days]
        have hsz := text_size S0
        have hnx : ∀ ty, (Instr.next (.pointer (some ⟨w3.heap.size, 0, none⟩)) true ty).run Tryz.prog wr = .ok (.tuple #[.bool false]) wr := fun ty => Lib.run_next_end_at wr _ _ _ ty HI.out (by rw [hsz]; omega)
        gi_wp2
        go_end0
        exact ⟨⟨_, rfl⟩, by rw [← HR.out]; exact HJ.out⟩
  · go_simp
    have HG1 := Lib.hid (grownN_trans HGD.out (World.grownBy_alloc W0.drew (.cells #[.int .i64 0, .int .i64 0, .slice none 0 0, .slice none 0 0] 42 (0, 0)) none))
    have HT1 : Hid (Box (W0.drew.alloc (.cells #[.int .i64 0, .int .i64 0, .slice none 0 0, .slice none 0 0] 42 (0, 0))) W0.heap.size #[.int .i64 0, .int .i64 0, .slice none 0 0, .slice none 0 0] 42) := box_new W0.drew #[.int .i64 0, .int .i64 0, .slice none 0 0, .slice none 0 0] 42
    refine hK.out _ _ ⟨Four.four (HP.out.grown HG1.out), (HH.out.grown HG1.out).three⟩ (fun hHeld => ?_)
    clear hK K
    (try simp only [Act.put, List.getElem_toArray, List.getElem_cons_succ, List.getElem_cons_zero, List.setIfInBounds_toArray, List.set_cons_zero, List.set_cons_succ])
    refine wpAnyH_ready (rs := [5]) (by kernel_rfl) (by simp) ?_; refine AllReadyH.cons rfl (fun K hK => ?_) AllReadyH.nil; go_simp; (go_at_call 194; refine (iNeedOf_any _ _ L (HBE.out _ HG1.out)).mono ?_; rintro e v2 ⟨rfl, hg⟩; rw [← HQ.out])
    have HG2 := Lib.hid (grownN_trans HG1.out hg)
    have HT2 := Lib.hid (HT1.out.grown hg)
    have HTS : Hid (W0.heap.size ≤ W0.heap.size) := Nat.le_refl _
    refine hK.out _ _ ⟨Four.four (HP.out.grown HG2.out), (HH.out.grown HG2.out).three⟩ (fun hHeld => ?_)
    clear hK K hg HT1
    (try simp only [Act.put, List.getElem_toArray, List.getElem_cons_succ, List.getElem_cons_zero, List.setIfInBounds_toArray, List.set_cons_zero, List.set_cons_succ])
    obtain ⟨⟨s0, z0⟩, ⟨s1, z1⟩, ⟨s2, z2⟩, ⟨s3, z3⟩⟩ := put4_on HT2.out (.int .i64 n) (.int .i64 f) (.slice ca cn cc) (.slice pa pn pc)
    have HT3 := Lib.hid (put4_box (x' := .int .i64 n) (y' := .int .i64 f) (z' := .slice ca cn cc) (u' := .slice pa pn pc) HT2.out)
    have HG3 := Lib.hid (grown_new HG2.out (put4_grown v2 W0.heap.size (.int .i64 n) (.int .i64 f) (.slice ca cn cc) (.slice pa pn pc)) (fun c e => by injection e with e; have := HTS.out; omega))
    refine wpAnyH_ready (rs := [7]) (by kernel_rfl) (by simp) ?_; refine AllReadyH.cons rfl (fun K hK => ?_) AllReadyH.nil; go_simp
    refine hK.out _ _ ⟨Four.four (HP.out.grown HG3.out), (HH.out.grown HG3.out).three⟩ (fun hHeld => ?_)
    clear hK K
    (try simp only [Act.put, List.getElem_toArray, List.getElem_cons_succ, List.getElem_cons_zero, List.setIfInBounds_toArray, List.set_cons_zero, List.set_cons_succ])
    refine wpAnyH_take (i := 8) (v := ?_) rfl (by kernel_rfl) (by kernel_rfl) (by kernel_rfl) (fun _ _ _ h => h) (Or.inl ⟨by rfl, ?_⟩) (by assumption) ?_; rotate_left; (focus (intro wS hSw; (try dsimp only at hSw); go_simp <;> with_reducible rfl)); (try simp only [Act.put, List.getElem_toArray, List.getElem_cons_succ, List.getElem_cons_zero, List.setIfInBounds_toArray, List.set_cons_zero, List.set_cons_succ])
    refine wpAnyH_take (i := 9) (v := ?_) rfl (by kernel_rfl) (by kernel_rfl) (by kernel_rfl) (fun _ _ _ h => h) (Or.inl ⟨by rfl, ?_⟩) (by assumption) ?_; rotate_left; (focus (intro wS hSw; (try dsimp only at hSw); go_simp <;> with_reducible rfl)); (try simp only [Act.put, List.getElem_toArray, List.getElem_cons_succ, List.getElem_cons_zero, List.setIfInBounds_toArray, List.set_cons_zero, List.set_cons_succ])
    have HT4 : Hid (Box ((((v2.setCell ⟨W0.heap.size, 0, none⟩ (.int .i64 n)).setCell ⟨W0.heap.size, 1, none⟩ (.int .i64 f)).setCell ⟨W0.heap.size, 2, none⟩ (.slice ca cn cc)).setCell ⟨W0.heap.size, 3, none⟩ (.slice pa pn pc)) W0.heap.size #[.int .i64 n, .int .i64 f, .slice ca cn cc, .slice pa pn pc] 42) := HT3.out
    have HG4 : Hid (W0.grownBy ((((v2.setCell ⟨W0.heap.size, 0, none⟩ (.int .i64 n)).setCell ⟨W0.heap.size, 1, none⟩ (.int .i64 f)).setCell ⟨W0.heap.size, 2, none⟩ (.slice ca cn cc)).setCell ⟨W0.heap.size, 3, none⟩ (.slice pa pn pc)) none) := HG3.out
    generalize (((v2.setCell ⟨W0.heap.size, 0, none⟩ (.int .i64 n)).setCell ⟨W0.heap.size, 1, none⟩ (.int .i64 f)).setCell ⟨W0.heap.size, 2, none⟩ (.slice ca cn cc)).setCell ⟨W0.heap.size, 3, none⟩ (.slice pa pn pc) = w3 at *
    refine wpAnyH_done (by kernel_rfl) ?_ _
    (try simp only [Act.put, List.getElem_toArray, List.getElem_cons_succ, List.getElem_cons_zero, List.setIfInBounds_toArray, List.set_cons_zero, List.set_cons_succ])
    clear s0 z0 s1 z1 s2 z2 s3 z3 HT3 HG3 HT2 HG2 hHeld HGD HG1
    have HTN : Hid (W0.heap.size ≠ LA ∧ W0.heap.size ≠ l ∧ W0.heap.size ≤ W0.heap.size ∧ W0.heap.size < w3.heap.size) := ⟨by have := HTS.out; omega, by have := HTS.out; omega, HTS.out, HT4.out.lt⟩
    have hiter := World.iter_heap w3 (text S0) 0
    have HIT := Lib.hid hiter
    obtain ⟨h0', h1, h2⟩ := (HH.out.grown HG4.out).three
    clear p0 p1 p2 p3 hiter
    gi_wp2
    gi_loopw [6] (fun ah wr => ∃ (j i : Nat) (a g : Int) (pre : List (Int × Int)), j ≤ S0.length ∧ i ≤ Wl.length ∧ ah = .slice (some ⟨rb, ro + i, none⟩) (Wl.length + 1 - i) (wc - i) ∧ Hid (0 ≤ g ∧ g ≤ 10000) ∧ Hid (calms (S0.drop j) = Wl.length - i) ∧ Hid (pre ++ days q (gain L D) (S0.drop j) (Wl.drop i) a g = days q (gain L D) S0 Wl n f) ∧ Hid (Box wr W0.heap.size #[.int .i64 a, .int .i64 g, .slice ca cn cc, .slice pa pn pc] 42) ∧ Hid (wr.heap[w3.heap.size]? = some (.stringIter (text S0) j)) ∧ Hid (K2 LA l W0 wr) ∧ Hid (J pre wr)) (fun _ wr => S0.length - wr.iterPos w3.heap.size)
    case atStart =>
      have hgi : w3.grownBy (w3.iter (text S0) 0) none := World.grownBy_alloc w3 (.stringIter (text S0) 0) none
      exact ⟨0, 0, n, f, [], Nat.zero_le _, Nat.zero_le _, by simp, hf, hcal, rfl, HT4.out.grown hgi, HIT, K2.of (grownN_trans HG4.out hgi) (fun c e => by cases e), hJ [] _ _ none h0 (grownN_trans HG4.out hgi) (fun _ e => by cases e)⟩
    case round =>
      rename_i _ wr
      obtain ⟨j, i, a, g, pre, hj, hi, rfl, HGB, HCA, HE, HT, HI, HK, HJ⟩ := hrel
      by_cases hlt : j < S0.length
      · have hltT : j < (text S0).size := by rw [text_size]; exact hlt
        have hcode := text_at S0 j hltT
        have hdr : S0.drop j = S0.getD j false :: S0.drop (j + 1) := by rw [List.drop_eq_getElem_cons hlt]; simp [hlt]
        have hgi := iter_grown HI.out (j + 1)
        have HT2 := Lib.hid (HT.out.kept hgi (fun e => by injection e with e; have := HTN.out; omega))
        have HI2 := Lib.hid (Lib.iterAt_heap wr w3.heap.size (text S0) j (j + 1) HI.out)
        have hIS : W0.heap.size ≤ w3.heap.size := HG4.out.size
        have HK2 := Lib.hid (HK.out.new hgi (fun c e => by injection e with e; omega))
        have HJ2 := Lib.hid (hJ _ _ _ _ HJ.out hgi (fun c e => by injection e with e; omega))
        have HIL : Hid (w3.heap.size < (wr.iterAt w3.heap.size (text S0) (j + 1)).heap.size) := (Array.getElem?_eq_some_iff.1 HI2.out).1
        have HPO : Hid ((wr.iterAt w3.heap.size (text S0) (j + 1)).iterPos w3.heap.size = j + 1 ∧ wr.iterPos w3.heap.size = j) := by
          refine ⟨?_, ?_⟩
          · simp only [World.iterPos, HI2.out]
          · simp only [World.iterPos, HI.out]
        obtain ⟨d0, d1, d2, d3⟩ := Four.four HT2.out
        have y1 := HT2.out.free 1
        cases hb : S0.getD j false
        · -- calm
          have hnx : ∀ ty, (Instr.next (.pointer (some ⟨w3.heap.size, 0, none⟩)) true ty).run Tryz.prog wr = .ok (.tuple #[.bool true, .int .i64 (j : Int), .int .i32 46]) (wr.iterAt w3.heap.size (text S0) (j + 1)) := fun ty => by
            have ha : ((text S0)[j]'hltT).toNat < 128 := by rw [hcode, hb]; decide
            rw [Lib.run_next_ascii_at wr _ _ j ty HI.out hltT ha, hcode, hb]; rfl
          rw [hb] at hdr
          have HDR := Lib.hid hdr
          clear hcode hb hdr hgi
          by_cases hgq : g < q
          · have HR : Hid (pre = days q (gain L D) S0 Wl n f) := by show _ = _; rw [← HE.out, HDR.out, days_no hgq, List.append_nil]
            gi_wp2
            refine bodyPost_ret (results_none rfl _ _ _) rfl ?_
            exact ⟨⟨_, rfl⟩, by rw [← HR.out]; exact HJ2.out⟩
          · have hcs : 1 + calms (S0.drop (j + 1)) = Wl.length - i := by rw [← HCA.out, HDR.out, calms_next]; simp
            have hil : i < Wl.length := by omega
            have HCA2 : Hid (calms (S0.drop (j + 1)) = Wl.length - (i + 1)) := by show _ = _; omega
            have hw : IntKind.i64.wrap (g - q) = g - q := IntWalk.i64_in _ (by have := HGB.out; omega)
            have hset := grown_set (wr.iterAt w3.heap.size (text S0) (j + 1)) W0.heap.size 1 (.int .i64 (g - q))
            have HT3 := Lib.hid (Four.four_set1 (v := .int .i64 (g - q)) HT2.out)
            have HI3 := Lib.hid ((hset.block w3.heap.size HIL.out (fun e => by injection e with e; have := HTN.out; omega)).trans HI2.out)
            have HK3 := Lib.hid (HK2.out.new hset (fun c e => by injection e with e; have := HTN.out; omega))
            have HJ3 := Lib.hid (hJ _ _ _ _ HJ2.out hset (fun c e => by injection e with e; have := HTN.out; omega))
            have HIL3 := Lib.hid (Nat.lt_of_lt_of_le HIL.out hset.size)
            obtain ⟨x0, x1, x2, x3⟩ := Four.four HT3.out
            obtain ⟨c, hc⟩ : ∃ c, c = Wl.getD i 0 := ⟨_, rfl⟩
            have hce : ((wr.iterAt w3.heap.size (text S0) (j + 1)).setCell ⟨W0.heap.size, 1, none⟩ (.int .i64 (g - q))).cell? ⟨rb, ro + i + 1, none⟩ = some (.int .i64 c) := by
              have hbl := HBW.out.trans (HK3.out.below HBW.out.size hla.1 hll.1)
              obtain ⟨b', o', e, hat⟩ := (HWAY.out.below hbl).at_row (j := i + 1) (by rw [HWN.out]; omega)
              injection e with e; injection e with e1 e2; subst e1 e2
              rw [hc, show ro + i + 1 = ro + (i + 1) by omega, hat, hwy]; rfl
            have hns : ¬ wc - i = 1 := by omega
            have y0 := HT3.out.free 0
            have z0 := four_set0 (v := .int .i64 c) HT3.out
            have HC2 := Lib.hid hc
            clear hset hc
            gi_wp2
            have HT5 : Hid (Box (((wr.iterAt w3.heap.size (text S0) (j + 1)).setCell ⟨W0.heap.size, 1, none⟩ (.int .i64 (g - q))).setCell ⟨W0.heap.size, 0, none⟩ (.int .i64 c)) W0.heap.size #[.int .i64 c, .int .i64 (g - q), .slice ca cn cc, .slice pa pn pc] 42) := Four.four_set0 (v := .int .i64 c) HT3.out
            have hset := grown_set ((wr.iterAt w3.heap.size (text S0) (j + 1)).setCell ⟨W0.heap.size, 1, none⟩ (.int .i64 (g - q))) W0.heap.size 0 (.int .i64 c)
            have HI5 := Lib.hid ((hset.block w3.heap.size HIL3.out (fun e => by injection e with e; have := HTN.out; omega)).trans HI3.out)
            have HK5 := Lib.hid (HK3.out.new hset (fun c e => by injection e with e; have := HTN.out; omega))
            have HJ5 := Lib.hid (hJ _ _ _ _ HJ3.out hset (fun c e => by injection e with e; have := HTN.out; omega))
            have HIL5 := Lib.hid (Nat.lt_of_lt_of_le HIL3.out hset.size)
            generalize ((wr.iterAt w3.heap.size (text S0) (j + 1)).setCell ⟨W0.heap.size, 1, none⟩ (.int .i64 (g - q))).setCell ⟨W0.heap.size, 0, none⟩ (.int .i64 c) = v5 at *
            have HBL5 := Lib.hid (HBW.out.trans (HK5.out.below HBW.out.size hla.1 hll.1))
            have HC5 := Lib.hid (HC.out.below HBL5.out)
            have HD5 := Lib.hid (HD.out.below HBL5.out)
            have HDB5 := Lib.hid (HK5.out.box HDB.out hne.2.2.2.2.1 hne.2.2.2.2.2)
            have HGD5 := Lib.hid (grown_drew (World.grownBy.refl v5 none))
            have hgw : (Lit.int .i64 (g - q)).wf = true := i64_mk (by have := HGB.out; omega)
            have HGW := Lib.hid hgw
            obtain ⟨gn, hgn⟩ : ∃ gn, gn = gain L D c (g - q) := ⟨_, rfl⟩
            have HGN := Lib.hid (gain_bd L D c (show 0 ≤ g - q ∧ g - q ≤ 10000 by have := HGB.out; omega))
            have hfit : IntKind.i64.wrap (g - q + Mn.most 0 (Mn.least (Dep.foodAt D c) (Pa.roomOf L (g - q)))) = gn := by
              rw [hgn]; exact IntWalk.i64_in _ (by have h1 := HGB.out; have h2 := HGN.out; unfold gain Ph.pickF Ph.pickK at h2; omega)
            rw [← hgn] at HGN
            have HGQ := Lib.hid hgn
            clear hset x0 x1 x2 x3 y0 y1 z0 hce hns hw hgn hgw HT3 HI3 HK3 HJ3 HIL3 d0 d1 d2 d3
            refine wpIn_wide.2 ?_
            refine Exc.region_E 10 (S := fun w' => (w'.cell? ⟨W0.heap.size, 0, none⟩ = some (.int .i64 c) ∧ w'.cell? ⟨W0.heap.size, 1, none⟩ = some (.int .i64 (g - q)) ∧ w'.cell? ⟨W0.heap.size, 2, none⟩ = some (.slice ca cn cc) ∧ w'.cell? ⟨W0.heap.size, 3, none⟩ = some (.slice pa pn pc)) ∧ w'.cell? ⟨Db, 0, none⟩ = some dv) (by kernel_rfl) ⟨Four.four (HT5.out.grown HGD5.out), (HDB5.out.grown HGD5.out).cell 0⟩ (fun hHeld => ?_)
            refine Exc.take_W (i := 0) (v := ?_) rfl (by kernel_rfl) (by kernel_rfl) (by kernel_rfl) (by kernel_rfl) (fun _ _ _ h => h) (Or.inl ⟨by rfl, ?_⟩) (by first | exact (fun _ => by assumption) | exact (fun h => absurd h (by decide))) ?_; rotate_left; (focus (intro wS hSw; (try dsimp only at hSw); go_simp <;> with_reducible rfl)); (try simp only [Act.put, List.getElem_toArray, List.getElem_cons_succ, List.getElem_cons_zero, List.setIfInBounds_toArray, List.set_cons_zero, List.set_cons_succ])
            refine Exc.take_E (i := 1) (v := ?_) rfl (by kernel_rfl) (by kernel_rfl) (by kernel_rfl) (by kernel_rfl) (by kernel_rfl) (by kernel_rfl) (fun _ _ _ h => h) (Or.inl ⟨by rfl, ?_⟩) (by assumption) ?_; rotate_left; (focus (intro wS hSw; (try dsimp only at hSw); go_simp <;> with_reducible rfl)); (try simp only [Act.put, List.getElem_toArray, List.getElem_cons_succ, List.getElem_cons_zero, List.setIfInBounds_toArray, List.set_cons_zero, List.set_cons_succ])
            refine Exc.take_E (i := 2) (v := ?_) rfl (by kernel_rfl) (by kernel_rfl) (by kernel_rfl) (by kernel_rfl) (by kernel_rfl) (by kernel_rfl) (fun _ _ _ h => h) (Or.inl ⟨by rfl, ?_⟩) (by assumption) ?_; rotate_left; (focus (intro wS hSw; (try dsimp only at hSw); go_simp <;> with_reducible rfl)); (try simp only [Act.put, List.getElem_toArray, List.getElem_cons_succ, List.getElem_cons_zero, List.setIfInBounds_toArray, List.set_cons_zero, List.set_cons_succ])
            refine Exc.take_E (i := 3) (v := ?_) rfl (by kernel_rfl) (by kernel_rfl) (by kernel_rfl) (by kernel_rfl) (by kernel_rfl) (by kernel_rfl) (fun _ _ _ h => h) (Or.inl ⟨by rfl, ?_⟩) (by assumption) ?_; rotate_left; (focus (intro wS hSw; (try dsimp only at hSw); go_simp <;> with_reducible rfl)); (try simp only [Act.put, List.getElem_toArray, List.getElem_cons_succ, List.getElem_cons_zero, List.setIfInBounds_toArray, List.set_cons_zero, List.set_cons_succ])
            refine Exc.take_W (i := 4) (v := ?_) rfl (by kernel_rfl) (by kernel_rfl) (by kernel_rfl) (by kernel_rfl) (fun _ _ _ h => h) (Or.inl ⟨by rfl, ?_⟩) (by first | exact (fun _ => by assumption) | exact (fun h => absurd h (by decide))) ?_; rotate_left; (focus (intro wS hSw; (try dsimp only at hSw); go_simp <;> with_reducible rfl)); (try simp only [Act.put, List.getElem_toArray, List.getElem_cons_succ, List.getElem_cons_zero, List.setIfInBounds_toArray, List.set_cons_zero, List.set_cons_succ])
            refine Exc.take_E (i := 5) (v := ?_) rfl (by kernel_rfl) (by kernel_rfl) (by kernel_rfl) (by kernel_rfl) (by kernel_rfl) (by kernel_rfl) (fun _ _ _ h => h) (Or.inl ⟨by rfl, ?_⟩) (by assumption) ?_; rotate_left; (focus (intro wS hSw; (try dsimp only at hSw); go_simp <;> with_reducible rfl)); (try simp only [Act.put, List.getElem_toArray, List.getElem_cons_succ, List.getElem_cons_zero, List.setIfInBounds_toArray, List.set_cons_zero, List.set_cons_succ])
            refine Exc.ready_E (i := 6) (by kernel_rfl) rfl (fun K hK => ?_); go_simp; (go_at_call 105; refine (DepI.iFoodAt_any _ _ D c (HD5.out.grown HGD5.out)).mono ?_; rintro e v6 ⟨rfl, hg⟩; have HG6 := Lib.hid (grownN_trans HGD5.out hg); clear hg)
            refine hK.out _ _ ?_ (fun hHeld => ?_)
            · exact ⟨Four.four (HT5.out.grown HG6.out), (HDB5.out.grown HG6.out).cell 0⟩
            clear hK K
            (try simp only [Act.put, List.getElem_toArray, List.getElem_cons_succ, List.getElem_cons_zero, List.setIfInBounds_toArray, List.set_cons_zero, List.set_cons_succ])
            refine Exc.ready_E (i := 7) (by kernel_rfl) rfl (fun K hK => ?_); go_simp; (go_at_call 153; refine (Ph.takes_any _ c (g - q) (Dep.foodAt D c) _ _ L HGW.out (HC5.out.grown HG6.out)).mono ?_; rintro e v7 ⟨rfl, hg⟩; have HG7 := Lib.hid (grownN_trans HG6.out hg); obtain ⟨e0, e1, e2, e3⟩ := Four.four (HT5.out.grown HG7.out); have y1 := (HT5.out.grown HG7.out).free 1; clear hg)
            refine hK.out _ _ ?_ (fun hHeld => ?_)
            · exact ⟨Four.four (HT5.out.grown HG7.out), (HDB5.out.grown HG7.out).cell 0⟩
            clear hK K
            (try simp only [Act.put, List.getElem_toArray, List.getElem_cons_succ, List.getElem_cons_zero, List.setIfInBounds_toArray, List.set_cons_zero, List.set_cons_succ])
            refine Exc.take_W (i := 8) (v := ?_) rfl (by kernel_rfl) (by kernel_rfl) (by kernel_rfl) (by kernel_rfl) (fun _ _ _ h => h) (Or.inl ⟨by rfl, ?_⟩) (by first | exact (fun _ => by assumption) | exact (fun h => absurd h (by decide))) ?_; rotate_left; (focus (intro wS hSw; (try dsimp only at hSw); go_simp <;> with_reducible rfl)); (try simp only [Act.put, List.getElem_toArray, List.getElem_cons_succ, List.getElem_cons_zero, List.setIfInBounds_toArray, List.set_cons_zero, List.set_cons_succ])
            refine Exc.take_W (i := 9) (v := ?_) rfl (by kernel_rfl) (by kernel_rfl) (by kernel_rfl) (by kernel_rfl) (fun _ _ _ h => h) (Or.inl ⟨by rfl, ?_⟩) (by first | exact (fun _ => by assumption) | exact (fun h => absurd h (by decide))) ?_; rotate_left; (focus (intro wS hSw; (try dsimp only at hSw); go_simp <;> with_reducible rfl)); (try simp only [Act.put, List.getElem_toArray, List.getElem_cons_succ, List.getElem_cons_zero, List.setIfInBounds_toArray, List.set_cons_zero, List.set_cons_succ])
            refine Exc.last_E (by kernel_rfl) rfl (by kernel_rfl) (fun K hK => ?_); go_simp
            refine hK.out _ _ ?_
            clear hK K
            (try simp only [Act.put, List.getElem_toArray, List.getElem_cons_succ, List.getElem_cons_zero, List.setIfInBounds_toArray, List.set_cons_zero, List.set_cons_succ])
            refine Exc.done_E (by kernel_rfl) ?_ _
            (try simp only [Act.put, List.getElem_toArray, List.getElem_cons_succ, List.getElem_cons_zero, List.setIfInBounds_toArray, List.set_cons_zero, List.set_cons_succ])
            have hset := grown_set v7 W0.heap.size 1 (.int .i64 gn)
            have HT8 := Lib.hid (Four.four_set1 (v := .int .i64 gn) (HT5.out.grown HG7.out))
            have hi7 : v7.heap[w3.heap.size]? = some (.stringIter (text S0) (j + 1)) := (HG7.out.block w3.heap.size HIL5.out (fun e => by cases e)).trans HI5.out
            have HI8 := Lib.hid ((hset.block w3.heap.size (Nat.lt_of_lt_of_le HIL5.out HG7.out.size) (fun e => by injection e with e; have := HTN.out; omega)).trans hi7)
            have HK8 := Lib.hid ((HK5.out.new HG7.out (fun c e => by cases e)).new hset (fun c e => by injection e with e; have := HTN.out; omega))
            have HJ8 := Lib.hid (hJ _ _ _ _ (hJ _ _ _ _ HJ5.out HG7.out (fun c e => by cases e)) hset (fun c e => by injection e with e; have := HTN.out; omega))
            have HIL8 := Lib.hid (Nat.lt_of_lt_of_le HIL5.out (Nat.le_trans HG7.out.size hset.size))
            obtain ⟨x0, x1, x2, x3⟩ := Four.four HT8.out
            obtain ⟨fn, tmps, assign, body, hy, hR⟩ := hY pre c gn _ HJ8.out
            have hdw : Wl.drop i = c :: Wl.drop (i + 1) := by rw [HC2.out, List.drop_eq_getElem_cons hil]; simp [hil]
            have HE2 : Hid ((pre ++ [(c, gn)]) ++ days q (gain L D) (S0.drop (j + 1)) (Wl.drop (i + 1)) c gn = days q (gain L D) S0 Wl n f) := by
              show _ = _; rw [← HE.out, HDR.out, hdw, days_calm (Int.not_lt.2 hgq), ← HGQ.out, List.append_assoc]; rfl
            clear hset hi7 hdw hfit e0 e1 e2 e3 hHeld
            gi_wp2
            refine hR.mono ?_
            rintro e W' ⟨rfl, hJ', hk'⟩
            have HJ9 := Lib.hid hJ'
            have HT9 := Lib.hid (hk'.box HT8.out HTN.out.1 HTN.out.2.1)
            have HI9 := Lib.hid ((hk'.same w3.heap.size HIL8.out (by have := HTN.out; omega) (by have := HTN.out; omega)).trans HI8.out)
            have HK9 := Lib.hid (HK8.out.trans hk')
            clear hJ' hk'
            gi_wp2
            go_roundw
            case rel => exact ⟨j + 1, i + 1, c, gn, pre ++ [(c, gn)], by omega, hil, by rw [show ro + (i + 1) = ro + i + 1 by omega, show Wl.length + 1 - (i + 1) = Wl.length + 1 - i - 1 by omega, show wc - (i + 1) = wc - i - 1 by omega], by show _ ∧ _; have := HGB.out; have := HGN.out; omega, HCA2, HE2, HT9, HI9, HK9, HJ9⟩
            case measure =>
              have h1 := HPO.out.2
              have h2 : W'.iterPos w3.heap.size = j + 1 := by simp only [World.iterPos, HI9.out]
              rw [h1, h2]; omega
        · -- storm
          have hnx : ∀ ty, (Instr.next (.pointer (some ⟨w3.heap.size, 0, none⟩)) true ty).run Tryz.prog wr = .ok (.tuple #[.bool true, .int .i64 (j : Int), .int .i32 115]) (wr.iterAt w3.heap.size (text S0) (j + 1)) := fun ty => by
            have ha : ((text S0)[j]'hltT).toNat < 128 := by rw [hcode, hb]; decide
            rw [Lib.run_next_ascii_at wr _ _ j ty HI.out hltT ha, hcode, hb]; rfl
          rw [hb] at hdr
          have HDR := Lib.hid hdr
          clear hcode hb hdr hgi
          by_cases hgq : g < q
          · have HR : Hid (pre = days q (gain L D) S0 Wl n f) := by show _ = _; rw [← HE.out, HDR.out, days_no hgq, List.append_nil]
            gi_wp2
            refine bodyPost_ret (results_none rfl _ _ _) rfl ?_
            exact ⟨⟨_, rfl⟩, by rw [← HR.out]; exact HJ2.out⟩
          · have hw : IntKind.i64.wrap (g - q) = g - q := IntWalk.i64_in _ (by have := HGB.out; omega)
            have hset := grown_set (wr.iterAt w3.heap.size (text S0) (j + 1)) W0.heap.size 1 (.int .i64 (g - q))
            have HT3 := Lib.hid (Four.four_set1 (v := .int .i64 (g - q)) HT2.out)
            have HI3 := Lib.hid ((hset.block w3.heap.size HIL.out (fun e => by injection e with e; have := HTN.out; omega)).trans HI2.out)
            have HK3 := Lib.hid (HK2.out.new hset (fun c e => by injection e with e; have := HTN.out; omega))
            have HJ3 := Lib.hid (hJ _ _ _ _ HJ2.out hset (fun c e => by injection e with e; have := HTN.out; omega))
            have HIL3 := Lib.hid (Nat.lt_of_lt_of_le HIL.out hset.size)
            obtain ⟨x0, x1, x2, x3⟩ := Four.four HT3.out
            obtain ⟨fn, tmps, assign, body, hy, hR⟩ := hY pre a (g - q) _ HJ3.out
            have HE2 : Hid ((pre ++ [(a, g - q)]) ++ days q (gain L D) (S0.drop (j + 1)) (Wl.drop i) a (g - q) = days q (gain L D) S0 Wl n f) := by
              show _ = _; rw [← HE.out, HDR.out, days_storm hgq, List.append_assoc]; rfl
            have HCA2 : Hid (calms (S0.drop (j + 1)) = Wl.length - i) := by
              show _ = _; rw [← HCA.out, HDR.out, calms_next]; simp
            clear hset
            gi_wp2
            refine hR.mono ?_
            rintro e W' ⟨rfl, hJ', hk'⟩
            have HJ4 := Lib.hid hJ'
            have HT4' := Lib.hid (hk'.box HT3.out HTN.out.1 HTN.out.2.1)
            have HI4 := Lib.hid ((hk'.same w3.heap.size HIL3.out (by have := HTN.out; omega) (by have := HTN.out; omega)).trans HI3.out)
            have HK4 := Lib.hid (HK3.out.trans hk')
            clear hJ' hk'
            gi_wp2
            go_roundw
            case rel => exact ⟨j + 1, i, a, g - q, pre ++ [(a, g - q)], by omega, hi, rfl, by show _ ∧ _; have := HGB.out; omega, HCA2, HE2, HT4', HI4, HK4, HJ4⟩
            case measure =>
              have h1 := HPO.out.2
              have h2 : W'.iterPos w3.heap.size = j + 1 := by simp only [World.iterPos, HI4.out]
              rw [h1, h2]; omega
      · have hej : j = S0.length := by omega
        subst hej
        have HR : Hid (pre = days q (gain L D) S0 Wl n f) := by show _ = _; rw [← HE.out, List.drop_length]; simp [days]
        have hsz := text_size S0
        have hnx : ∀ ty, (Instr.next (.pointer (some ⟨w3.heap.size, 0, none⟩)) true ty).run Tryz.prog wr = .ok (.tuple #[.bool false]) wr := fun ty => Lib.run_next_end_at wr _ _ _ ty HI.out (by rw [hsz]; omega)
        gi_wp2
        go_end0
        exact ⟨⟨_, rfl⟩, by rw [← HR.out]; exact HJ.out⟩
end Go.Proofs.YtonalkamfgpokaaGreat.Itr
