/- A range over a function whose iterator writes a cells variable of its own: the law for a loop body that writes one box. No condition of ours. The food left at home: the range over the worst return. -/
import Derived.Test.YtonalkamfgpokaaGreatItr
namespace Go.Proofs.YtonalkamfgpokaaGreat.Ran
open Go.RowKit Go.Shelf Kit Rw Rg Stm Crw CrS CrI Four Itr

theorem grown_of {A B C : World} {r s : Option Nat} (h : A.grownBy B none) (k : B.grownBy C s) (hs : ∀ c, s = some c → A.heap.size ≤ c ∨ r = some c) : A.grownBy C r :=
  ⟨k.os.trans h.os, k.tape.trans h.tape, k.output.trans h.output, Nat.le_trans h.size k.size, fun i hi hr => (k.block i (Nat.lt_of_lt_of_le hi h.size) (fun e => by rcases hs i e.symm with h' | h'
                                                                                                                                                                    · omega
                                                                                                                                                                    · exact hr h'.symm)).trans (h.block i hi (fun e => by cases e))⟩
theorem range_own {α : Type} {m : Nat} {P : Program} {g : Operand} {ps : Array Tmp} {assign body : Code} {Q : Exit → Act → World → Prop} {a : Act} {w : World}
    {gf : Nat} {lb : Array Value} (hg : a.eval g = .func (.func gf) #[] lb) (eg : ∀ args w, (callFunc gf args).run P w = .ok (.enter gf args) w)
    (encs : α → Array Value) (hps : ∀ x, (encs x).size = ps.size) (LA : Nat) (hLA : LA < w.heap.size) (ds : List α)
    (J : List α → World → Prop) (hJ : ∀ s W W' row, J s W → W.grownBy W' row → (∀ r, row = some r → w.heap.size ≤ r) → J s W') (h0 : J [] w)
    (hiter : ∀ W1, w.grownBy W1 none → W1.heap.size = w.heap.size + 2 → ∀ (J' : List α → World → Prop), (∀ s W W' row, J' s W → W.grownBy W' row → (∀ r, row = some r → W1.heap.size ≤ r) → J' s W') →
       (∀ pre x W, J' pre W → YieldAt Fence.wide m P (w.heap.size + 1) (encs x) W fun e W' => e = .returned (.bool true) ∧ J' (pre ++ [x]) W' ∧ K2 LA (w.heap.size + 1) W W') → J' [] W1 →
       CallsIn Fence.wide (m + 1) P gf (#[.func (.yield (w.heap.size + 1)) #[] #[]] ++ lb) W1 fun e W' => (∃ v, e = .returned v) ∧ J' ds W')
    (A : α → Act → World → Prop) (hA : ∀ x a' W W', A x a' W → W.grownBy W' (some (w.heap.size + 1)) → A x a' W')
    (hassign : ∀ l pre x W (K : Act → World → Prop), J pre W → w.heap.size + 2 ≤ W.heap.size → (∀ a' W', W.grownBy W' none → A x a' W' → K a' W') →
      assign.wpIn (Fence.wide.inRound l) m P (Exit.then K (fun _ _ _ => False)) { tmps := (ps.zip (encs x)).foldl (fun t (p, v) => t.setIfInBounds p v) a.tmps, defers := [] } W)
    (hbody : ∀ l pre x a' W, J pre W → A x a' W → body.wpIn (Fence.wide.inRound l) m P (fun e _ W' => e = .normal ∧ W.grownBy W' (some LA) ∧ J (pre ++ [x]) W') a' W)
    (hdone : ∀ W, J ds W → W.heap[w.heap.size]? = some (.deferred (some [])) → Q .normal { a with defers := { target := .collected w.heap.size, args := #[] } :: a.defers } W) :
    (Code.rangeFunc g ps assign body).wpIn Fence.wide (m + 2) P Q a w := by
  refine wpIn_rangeFunc ?_
  intro fn hfn
  obtain ⟨rec, hrec⟩ : ∃ rec : LoopState → Option Code → Loop, rec = fun st pe => { state := st, pending := pe, fn, tmps := a.tmps, params := ps, assign, body, defers := w.heap.size } := ⟨_, rfl⟩
  obtain ⟨W1, hW1⟩ : ∃ W1, (w.alloc (.deferred (some []))).alloc (.loop (rec .ready none)) = W1 := ⟨_, rfl⟩
  have hL1 : W1.heap[w.heap.size + 1]? = some (.loop (rec .ready none)) := by
    rw [← hW1]; have := World.alloc_heap_new (w.alloc (.deferred (some []))) (.loop (rec .ready none)); rwa [World.size_alloc] at this
  have hK1 : W1.heap[w.heap.size]? = some (.deferred (some [])) := by
    rw [← hW1]; exact (Below.heap_alloc _ _ _ (by simp)).trans (World.alloc_heap_new w _)
  have hg1 : w.grownBy W1 none := by rw [← hW1]; exact grownN_trans (World.grownBy_alloc _ _ _) (World.grownBy_alloc _ _ _)
  have hs1 : W1.heap.size = w.heap.size + 2 := by rw [← hW1]; simp
  refine ⟨w.heap.size + 1, [{ target := .collected w.heap.size, args := #[] }], W1, { target := .fn (.func gf) lb, args := #[.func (.yield (w.heap.size + 1)) #[] #[]] }, W1, gf,
    #[.func (.yield (w.heap.size + 1)) #[] #[]] ++ lb, W1, ?_, ?_, fun _ _ => trivial, ?_, fun _ => by omega, ?_⟩
  · rw [← hW1, hrec]; exact run_enterLoop_outer _ _ _ _ _
  · simp only [resolve, hg]
    simp [go_sem]
  · simp [invoke, go_sem, eg]
  · refine (hiter W1 hg1 hs1
      (fun pre W => J pre W ∧ W.heap[w.heap.size + 1]? = some (.loop (rec .ready none)) ∧ W.heap[w.heap.size]? = some (.deferred (some [])))
      (fun s X Y row hs hg' hr => ⟨hJ s X Y row hs.1 hg' (fun r e => by have := hr r e; omega),
        (hg'.block _ (Array.getElem?_eq_some_iff.1 hs.2.1).1 (fun e => by have := hr _ e.symm; omega)).trans hs.2.1,
        (hg'.block _ (Array.getElem?_eq_some_iff.1 hs.2.2).1 (fun e => by have := hr _ e.symm; omega)).trans hs.2.2⟩)
      ?_ ⟨hJ _ _ _ none h0 hg1 (fun _ e => by cases e), hL1, hK1⟩).mono ?_
    · rintro pre x W ⟨hi, hl, hk⟩
      have hlt : w.heap.size + 1 < W.heap.size := (Array.getElem?_eq_some_iff.1 hl).1
      have hy := run_yield (P := P) (args := encs x) hl (by rw [hrec]; exact hps x)
      rw [hrec] at hy
      refine ⟨fn, _, assign, body, hy, roundIn_of_wpIn hfn (hassign _ pre x W _ hi (by omega) ?_)⟩
      clear hy
      intro a' Wa hga hax
      have hla : Wa.heap[w.heap.size + 1]? = some (.loop (rec .ready none)) := (hga.block _ hlt (fun e => by cases e)).trans hl
      have hka : Wa.heap[w.heap.size]? = some (.deferred (some [])) := (hga.block _ (by omega) (fun e => by cases e)).trans hk
      have hia := hJ _ _ _ none hi hga (fun _ e => by cases e)
      refine ⟨_, run_beginRound hla (by rw [hrec]), ?_⟩
      have hlta : w.heap.size + 1 < Wa.heap.size := (Array.getElem?_eq_some_iff.1 hla).1
      have hg2 := grownBy_putObj' Wa (w.heap.size + 1) (.loop { rec .ready none with state := .busy })
      have hl2 : (Wa.putObj (w.heap.size + 1) (.loop { rec .ready none with state := .busy })).heap[w.heap.size + 1]? = some (.loop { rec .ready none with state := .busy }) := World.putObj_heap_same hlta
      have hk2 : (Wa.putObj (w.heap.size + 1) (.loop { rec .ready none with state := .busy })).heap[w.heap.size]? = some (.deferred (some [])) := (World.putObj_heap_other (by omega)).trans hka
      have hi2 := hJ _ _ _ _ hia hg2 (fun r e => by injection e with e; omega)
      refine wpIn_mono (hbody _ pre x a' _ hi2 (hA _ _ _ _ hax hg2)) ?_
      rintro e a3 W3 ⟨rfl, hg3, hi3⟩
      have hl3 := (hg3.block _ (Array.getElem?_eq_some_iff.1 hl2).1 (fun e => by injection e with e; omega)).trans hl2
      have hk3 := (hg3.block _ (Array.getElem?_eq_some_iff.1 hk2).1 (fun e => by injection e with e; omega)).trans hk2
      have hg4 := grownBy_putObj' W3 (w.heap.size + 1) (.loop (rec .ready none))
      have hr := run_endRound (P := P) none hl3
      have hr' : (Instr.endRound (w.heap.size + 1) none).run P W3 = .ok (.bool true) (W3.putObj (w.heap.size + 1) (.loop (rec .ready none))) := by rw [hr, hrec]; rfl
      refine ⟨_, _, hr', rfl, ⟨hJ _ _ _ _ hi3 hg4 (fun r e => by injection e with e; omega), World.putObj_heap_same (Array.getElem?_eq_some_iff.1 hl3).1, (World.putObj_heap_other (by omega)).trans hk3⟩, ?_⟩
      exact (((K2.of (x := LA) (y := w.heap.size + 1) hga (fun c e => by cases e)).trans (K2.of hg2 (fun c e => by injection e with e; omega))).trans (K2.of hg3 (fun c e => by injection e with e; omega))).trans (K2.of hg4 (fun c e => by injection e with e; omega))
    · rintro e W2 ⟨⟨v, rfl⟩, hi, hl, hk⟩
      exact ⟨none, _, by have := run_endLoop (P := P) hl (by rw [hrec]; simp); rw [hrec] at this; exact this, hdone _ (hJ _ _ _ _ hi (grownBy_putObj' _ _ _) (fun r e => by injection e with e; omega)) ((World.putObj_heap_other (by omega)).trans hk)⟩
end Go.Proofs.YtonalkamfgpokaaGreat.Ran

namespace Go.Proofs.YtonalkamfgpokaaGreat.Lft
open Go.RowKit Go.Shelf Kit Rw Rg Stm Crw CrS CrI Four Hom Sgn Itr Ran
attribute [local go_sem] Oper.semAt_some

/-- The last party of so many days, the party ahead of them where there are none. -/
def endOf (n g : Int) (ds : List (Int × Int)) : Int × Int := (ds.getLast?).getD (n, g)
theorem endOf_snoc (n g a b : Int) (ds : List (Int × Int)) : endOf n g (ds ++ [(a, b)]) = (a, b) := by simp [endOf]
def atBase (base : Int) (p : Int × Int) : Int := if p.1 = base then p.2 else -1
/-- What is asked of the iterator by the loop over it. -/
def IterOf (w : World) (base n g : Int) (wv cv pv dv : Value) (S0 : List Bool) (ds : List (Int × Int)) : Prop :=
  ∀ (W0 : World) (l LA Pb Hb Db : Nat), Box W0 Pb #[.int .i64 n, .int .i64 g, cv, pv] 42 → Box W0 Hb #[.int .i64 base, wv, .string (text S0)] 173 → Box W0 Db #[dv] 39 →
    Below w.heap.size w W0 → (w.heap.size ≤ LA ∧ LA < W0.heap.size) → (w.heap.size ≤ l ∧ l < W0.heap.size) → (Pb ≠ LA ∧ Pb ≠ l ∧ Hb ≠ LA ∧ Hb ≠ l ∧ Db ≠ LA ∧ Db ≠ l) →
    ∀ (J : List (Int × Int) → World → Prop), (∀ s W W' row, J s W → W.grownBy W' row → (∀ r, row = some r → W0.heap.size ≤ r) → J s W') →
      (∀ pre a g' W, J pre W → YieldAt Fence.wide 0 Tryz.prog l #[.agg #[.int .i64 a, .int .i64 g', cv, pv]] W fun e W' => e = .returned (.bool true) ∧ J (pre ++ [(a, g')]) W' ∧ K2 LA l W W') → J [] W0 →
      CallsIn Fence.wide (0 + 1) Tryz.prog 217 #[.func (.yield l) #[] #[], .pointer (some ⟨Pb, 0, none⟩), .pointer (some ⟨Hb, 0, none⟩), .pointer (some ⟨Db, 0, none⟩)] W0 fun e W' =>
        (∃ v, e = .returned v) ∧ J ds W'
theorem seq_any (w : World) (hv : Value) (da : Option Addr) (dn dc : Nat) (base : Int) (wv sv : Value) (n f : Int) (cv pv : Value) (hh : hv = .agg #[.int .i64 base, wv, sv]) :
    Calls Tryz.prog 206 #[hv, .slice da dn dc, .agg #[.int .i64 n, .int .i64 f, cv, pv]] w fun e w' =>
      e = .returned (.func (.func 217) #[] #[.pointer (some ⟨w.heap.size + 2, 0, none⟩), .pointer (some ⟨w.heap.size, 0, none⟩), .pointer (some ⟨w.heap.size + 1, 0, none⟩)]) ∧ w.grownBy w' none ∧
      Box w' (w.heap.size + 2) #[.int .i64 n, .int .i64 f, cv, pv] 42 ∧ Box w' w.heap.size #[.int .i64 base, wv, sv] 173 ∧ Box w' (w.heap.size + 1) #[.slice da dn dc] 39 := by
  subst hh
  have H1 := Lib.hid (box_new w #[.int .i64 base, wv, sv] 173)
  have H2 := Lib.hid (box_new (w.alloc (.cells #[.int .i64 base, wv, sv] 173 (0, 0))) #[.slice da dn dc] 39)
  have H3 := Lib.hid (box_new ((w.alloc (.cells #[.int .i64 base, wv, sv] 173 (0, 0))).alloc (.cells #[.slice da dn dc] 39 (0, 0))) #[.int .i64 n, .int .i64 f, cv, pv] 42)
  go_enter Tryz.func206, Tryz.ntmps206
  go_wp2
  go_ret
  refine ⟨rfl, grownN_trans (grownN_trans (World.grownBy_alloc _ _ _) (World.grownBy_alloc _ _ _)) (World.grownBy_alloc _ _ _), ?_, ?_, ?_⟩
  · have := H3.out; simp only [World.size_alloc] at this; exact this
  · exact (H1.out.grown (World.grownBy_alloc _ _ _)).grown (World.grownBy_alloc _ _ _)
  · have := H2.out.grown (World.grownBy_alloc _ (.cells #[.int .i64 n, .int .i64 f, cv, pv] 42 (0, 0)) none); simp only [World.size_alloc] at this; exact this

set_option maxRecDepth 100000 in
set_option maxHeartbeats 4000000 in
theorem left_any (w : World) (base n f : Int) (wv cv pv dv : Value) (S0 : List Bool) (L : List Mem) (D : List (Int × Int)) (ds : List (Int × Int))
    (hc : SeesG encM w cv L) (hd : SeesG encP w dv D) (hf : 0 ≤ f ∧ f ≤ 10000) (hpv : ∃ pa pn pc, pv = .slice pa pn pc) (hwv : ∃ wa wn wc, wv = .slice wa wn wc)
    (gn : Int) (hgn : gn = gain L D n f) (hI : IterOf w base n gn wv cv pv dv S0 ds) :
    Calls Tryz.prog 174 #[.agg #[.int .i64 base, wv, .string (text S0)], dv, .agg #[.int .i64 n, .int .i64 f, cv, pv]] w fun e w' =>
      e = .returned (.int .i64 (atBase base (endOf n gn ds))) ∧ w.grownBy w' none := by
  obtain ⟨ca, cn, cc, rfl, _⟩ := hc.shape
  obtain ⟨da, dn, dc, rfl, _⟩ := hd.shape
  obtain ⟨pa, pn, pc, rfl⟩ := hpv
  obtain ⟨wa, wn, wc, rfl⟩ := hwv
  have HC := Lib.hid hc
  have HD := Lib.hid hd
  have HI := Lib.hid hI
  have HF := Lib.hid hf
  have HGQ := Lib.hid hgn
  have B1 := Lib.hid (box_new w #[.int .i64 base, .slice wa wn wc, .string (text S0)] 173)
  have HG1 := Lib.hid (World.grownBy_alloc w (.cells #[.int .i64 base, .slice wa wn wc, .string (text S0)] 173 (0, 0)) (none : Option Nat))
  clear hc hd hI hf hgn
  refine (callsIn_wide (n := 2)).1 ?_
  refine callsIn_of_wp_marks Tryz.func174 rfl trivial ?_ rfl
  simp only [Tryz.ntmps174, List.size_toArray, List.length_cons, List.length_nil, Nat.reduceAdd, Nat.reduceSub, Array.replicate_succ, Array.replicate_zero, List.push_toArray, List.append_toArray, List.nil_append, List.cons_append]
  gi_wp2
  have B7 := Lib.hid (box_new ((w.alloc (.cells #[.int .i64 base, .slice wa wn wc, .string (text S0)] 173 (0, 0))).alloc (.cells #[.int .i64 n, .int .i64 f, .slice ca cn cc, .slice pa pn pc] 42 (0, 0))) #[.int .i64 n, .int .i64 f, .slice ca cn cc, .slice pa pn pc] 42)
  have HGA := Lib.hid (grownN_trans (World.grownBy_alloc (w.alloc (.cells #[.int .i64 base, .slice wa wn wc, .string (text S0)] 173 (0, 0))) (.cells #[.int .i64 n, .int .i64 f, .slice ca cn cc, .slice pa pn pc] 42 (0, 0)) none) (World.grownBy_alloc _ (.cells #[.int .i64 n, .int .i64 f, .slice ca cn cc, .slice pa pn pc] 42 (0, 0)) none))
  have HG3 := Lib.hid (grownN_trans HG1.out HGA.out)
  have B3 := Lib.hid (B1.out.grown HGA.out)
  have HB7 : Hid (Box (((w.alloc (.cells #[.int .i64 base, .slice wa wn wc, .string (text S0)] 173 (0, 0))).alloc (.cells #[.int .i64 n, .int .i64 f, .slice ca cn cc, .slice pa pn pc] 42 (0, 0))).alloc (.cells #[.int .i64 n, .int .i64 f, .slice ca cn cc, .slice pa pn pc] 42 (0, 0))) (w.heap.size + 1 + 1) #[.int .i64 n, .int .i64 f, .slice ca cn cc, .slice pa pn pc] 42) := by
    have := B7.out; simp only [World.size_alloc] at this; exact this
  clear B7 B1 HG1 HGA
  generalize ((w.alloc (.cells #[.int .i64 base, .slice wa wn wc, .string (text S0)] 173 (0, 0))).alloc (.cells #[.int .i64 n, .int .i64 f, .slice ca cn cc, .slice pa pn pc] 42 (0, 0))).alloc (.cells #[.int .i64 n, .int .i64 f, .slice ca cn cc, .slice pa pn pc] 42 (0, 0)) = v5 at *
  have HGD5 := Lib.hid (grown_drew (World.grownBy.refl v5 none))
  have HC5 := Lib.hid (HC.out.grown HG3.out)
  have HD5 := Lib.hid (HD.out.grown HG3.out)
  have HGW : Hid ((Lit.int .i64 f).wf = true) := i64_mk (by have := HF.out; omega)
  have HGN := Lib.hid (gain_bd L D n HF.out)
  have hfit : IntKind.i64.wrap (f + Mn.most 0 (Mn.least (Dep.foodAt D n) (Pa.roomOf L f))) = gn := by
    rw [HGQ.out]; exact IntWalk.i64_in _ (by have h1 := HF.out; have h2 := HGN.out; unfold gain Ph.pickF Ph.pickK at h2; omega)
  rw [← HGQ.out] at HGN
  refine wpIn_wide.2 ?_
  rename_i Qx Kx hKx
  refine Code.wp_mono (Q := Exit.then Kx (fun _ _ _ => False)) (fun e a w h => by cases e <;> first | exact h | exact h.elim) ?_
  refine Exc.region_E 10 (S := fun w' => (w'.cell? ⟨w.heap.size + 1 + 1, 0, none⟩ = some (.int .i64 n) ∧ w'.cell? ⟨w.heap.size + 1 + 1, 1, none⟩ = some (.int .i64 f) ∧ w'.cell? ⟨w.heap.size + 1 + 1, 2, none⟩ = some (.slice ca cn cc) ∧ w'.cell? ⟨w.heap.size + 1 + 1, 3, none⟩ = some (.slice pa pn pc))) (by kernel_rfl) (Four.four (HB7.out.grown HGD5.out)) (fun hHeld => ?_)
  refine Exc.take_W (i := 0) (v := ?_) rfl (by kernel_rfl) (by kernel_rfl) (by kernel_rfl) (by kernel_rfl) (fun _ _ _ h => h) (Or.inl ⟨by rfl, ?_⟩) (by first | exact (fun _ => by assumption) | exact (fun h => absurd h (by decide))) ?_; rotate_left; (focus (intro wS hSw; (try dsimp only at hSw); go_simp <;> with_reducible rfl)); (try simp only [Act.put, List.getElem_toArray, List.getElem_cons_succ, List.getElem_cons_zero, List.setIfInBounds_toArray, List.set_cons_zero, List.set_cons_succ])
  refine Exc.take_E (i := 1) (v := ?_) rfl (by kernel_rfl) (by kernel_rfl) (by kernel_rfl) (by kernel_rfl) (by kernel_rfl) (by kernel_rfl) (fun _ _ _ h => h) (Or.inl ⟨by rfl, ?_⟩) (by assumption) ?_; rotate_left; (focus (intro wS hSw; (try dsimp only at hSw); go_simp <;> with_reducible rfl)); (try simp only [Act.put, List.getElem_toArray, List.getElem_cons_succ, List.getElem_cons_zero, List.setIfInBounds_toArray, List.set_cons_zero, List.set_cons_succ])
  refine Exc.take_E (i := 2) (v := ?_) rfl (by kernel_rfl) (by kernel_rfl) (by kernel_rfl) (by kernel_rfl) (by kernel_rfl) (by kernel_rfl) (fun _ _ _ h => h) (Or.inl ⟨by rfl, ?_⟩) (by assumption) ?_; rotate_left; (focus (intro wS hSw; (try dsimp only at hSw); go_simp <;> with_reducible rfl)); (try simp only [Act.put, List.getElem_toArray, List.getElem_cons_succ, List.getElem_cons_zero, List.setIfInBounds_toArray, List.set_cons_zero, List.set_cons_succ])
  refine Exc.take_W (i := 3) (v := ?_) rfl (by kernel_rfl) (by kernel_rfl) (by kernel_rfl) (by kernel_rfl) (fun _ _ _ h => h) (Or.inl ⟨by rfl, ?_⟩) (by first | exact (fun _ => by assumption) | exact (fun h => absurd h (by decide))) ?_; rotate_left; (focus (intro wS hSw; (try dsimp only at hSw); go_simp <;> with_reducible rfl)); (try simp only [Act.put, List.getElem_toArray, List.getElem_cons_succ, List.getElem_cons_zero, List.setIfInBounds_toArray, List.set_cons_zero, List.set_cons_succ])
  refine Exc.take_W (i := 4) (v := ?_) rfl (by kernel_rfl) (by kernel_rfl) (by kernel_rfl) (by kernel_rfl) (fun _ _ _ h => h) (Or.inl ⟨by rfl, ?_⟩) (by first | exact (fun _ => by assumption) | exact (fun h => absurd h (by decide))) ?_; rotate_left; (focus (intro wS hSw; (try dsimp only at hSw); go_simp <;> with_reducible rfl)); (try simp only [Act.put, List.getElem_toArray, List.getElem_cons_succ, List.getElem_cons_zero, List.setIfInBounds_toArray, List.set_cons_zero, List.set_cons_succ])
  refine Exc.take_E (i := 5) (v := ?_) rfl (by kernel_rfl) (by kernel_rfl) (by kernel_rfl) (by kernel_rfl) (by kernel_rfl) (by kernel_rfl) (fun _ _ _ h => h) (Or.inl ⟨by rfl, ?_⟩) (by assumption) ?_; rotate_left; (focus (intro wS hSw; (try dsimp only at hSw); go_simp <;> with_reducible rfl)); (try simp only [Act.put, List.getElem_toArray, List.getElem_cons_succ, List.getElem_cons_zero, List.setIfInBounds_toArray, List.set_cons_zero, List.set_cons_succ])
  refine Exc.ready_E (i := 6) (by kernel_rfl) rfl (fun K hK => ?_); go_simp; (go_at_call 105; refine (DepI.iFoodAt_any _ _ D n (HD5.out.grown HGD5.out)).mono ?_; rintro e v6 ⟨rfl, hg⟩; have HG6 := Lib.hid (grownN_trans HGD5.out hg); clear hg)
  refine hK.out _ _ ?_ (fun hHeld => ?_)
  · exact Four.four (HB7.out.grown HG6.out)
  clear hK K
  (try simp only [Act.put, List.getElem_toArray, List.getElem_cons_succ, List.getElem_cons_zero, List.setIfInBounds_toArray, List.set_cons_zero, List.set_cons_succ])
  refine Exc.ready_E (i := 7) (by kernel_rfl) rfl (fun K hK => ?_); go_simp; (go_at_call 153; refine (Ph.takes_any _ n f (Dep.foodAt D n) _ _ L HGW.out (HC5.out.grown HG6.out)).mono ?_; rintro e v7 ⟨rfl, hg⟩; have HG7 := Lib.hid (grownN_trans HG6.out hg); obtain ⟨e0, e1, e2, e3⟩ := Four.four (HB7.out.grown HG7.out); have y1 := (HB7.out.grown HG7.out).free 1; clear hg)
  refine hK.out _ _ ?_ (fun hHeld => ?_)
  · exact Four.four (HB7.out.grown HG7.out)
  clear hK K
  (try simp only [Act.put, List.getElem_toArray, List.getElem_cons_succ, List.getElem_cons_zero, List.setIfInBounds_toArray, List.set_cons_zero, List.set_cons_succ])
  refine Exc.take_W (i := 8) (v := ?_) rfl (by kernel_rfl) (by kernel_rfl) (by kernel_rfl) (by kernel_rfl) (fun _ _ _ h => h) (Or.inl ⟨by rfl, ?_⟩) (by first | exact (fun _ => by assumption) | exact (fun h => absurd h (by decide))) ?_; rotate_left; (focus (intro wS hSw; (try dsimp only at hSw); go_simp <;> with_reducible rfl)); (try simp only [Act.put, List.getElem_toArray, List.getElem_cons_succ, List.getElem_cons_zero, List.setIfInBounds_toArray, List.set_cons_zero, List.set_cons_succ])
  refine Exc.take_W (i := 9) (v := ?_) rfl (by kernel_rfl) (by kernel_rfl) (by kernel_rfl) (by kernel_rfl) (fun _ _ _ h => h) (Or.inl ⟨by rfl, ?_⟩) (by first | exact (fun _ => by assumption) | exact (fun h => absurd h (by decide))) ?_; rotate_left; (focus (intro wS hSw; (try dsimp only at hSw); go_simp <;> with_reducible rfl)); (try simp only [Act.put, List.getElem_toArray, List.getElem_cons_succ, List.getElem_cons_zero, List.setIfInBounds_toArray, List.set_cons_zero, List.set_cons_succ])
  refine Exc.last_E (by kernel_rfl) rfl (by kernel_rfl) (fun K hK => ?_); go_simp
  refine hK.out _ _ ?_
  clear hK K
  (try simp only [Act.put, List.getElem_toArray, List.getElem_cons_succ, List.getElem_cons_zero, List.setIfInBounds_toArray, List.set_cons_zero, List.set_cons_succ])
  refine Exc.done_E (by kernel_rfl) ?_ _
  (try simp only [Act.put, List.getElem_toArray, List.getElem_cons_succ, List.getElem_cons_zero, List.setIfInBounds_toArray, List.set_cons_zero, List.set_cons_succ])
  have HB8 := Lib.hid (Four.four_set1 (v := .int .i64 gn) (HB7.out.grown HG7.out))
  have hset := grown_set v7 (w.heap.size + 1 + 1) 1 (.int .i64 gn)
  have HG8 := Lib.hid (grown_new (grownN_trans HG3.out HG7.out) hset (fun c e => by injection e with e; omega))
  have H38 := Lib.hid ((B3.out.grown HG7.out).kept hset (fun e => by injection e with e; omega))
  have HN8 := Lib.hid HB8.out.lt
  obtain ⟨x0, x1, x2, x3⟩ := Four.four HB8.out
  obtain ⟨z0, z1, z2⟩ := H38.out.three
  clear hset e0 e1 e2 e3 y1 hfit hHeld
  gi_wp2_with fail
  refine ⟨trivial, (callsIn_wide.2 (seq_any _ _ da dn dc base (.slice wa wn wc) (.string (text S0)) n gn (.slice ca cn cc) (.slice pa pn pc) rfl)).mono ?_⟩
  rintro e v9 ⟨rfl, hg, hPb, hHb, hDb⟩
  generalize v7.setCell ⟨w.heap.size + 1 + 1, 1, none⟩ (.int .i64 gn) = v8 at *
  have HG9 := Lib.hid (grownN_trans HG8.out hg)
  have HB9 := Lib.hid (HB8.out.grown hg)
  have H39 := Lib.hid (H38.out.grown hg)
  have HSZ := Lib.hid hg.size
  have HPb := Lib.hid hPb
  have HHb := Lib.hid hHb
  have HDb := Lib.hid hDb
  have HL1 := Lib.hid hPb.lt
  clear hg hPb hHb hDb x0 x1 x2 x3 z0 z1 z2 HB8 H38 HG8
  gi_wp2
  have HLA : Hid (w.heap.size + 1 + 1 < v9.heap.size ∧ v8.heap.size + 2 < v9.heap.size ∧ w.heap.size + 1 + 1 < v8.heap.size) := ⟨HB9.out.lt, HL1.out, HN8.out⟩
  refine range_own (P := Tryz.prog) (m := 0) (gf := 217) (lb := #[.pointer (some ⟨v8.heap.size + 2, 0, none⟩), .pointer (some ⟨v8.heap.size, 0, none⟩), .pointer (some ⟨v8.heap.size + 1, 0, none⟩)]) rfl (enters_of Tryz.func217 (by kernel_rfl) rfl)
    (fun x : Int × Int => #[.agg #[.int .i64 x.1, .int .i64 x.2, .slice ca cn cc, .slice pa pn pc]]) (fun _ => rfl) (w.heap.size + 1 + 1) HLA.out.1 ds
    (fun pre W => Box W (w.heap.size + 1 + 1) #[.int .i64 (endOf n gn pre).1, .int .i64 (endOf n gn pre).2, .slice ca cn cc, .slice pa pn pc] 42 ∧ Box W w.heap.size #[.int .i64 base, .slice wa wn wc, .string (text S0)] 173 ∧ w.grownBy W none)
    (fun s W W' row hs hg hr => ⟨hs.1.kept hg (fun e => by have := hr _ e; have := HLA.out; omega), hs.2.1.kept hg (fun e => by have := hr _ e; have := HLA.out; omega), grown_of hs.2.2 hg (fun c e => .inl (by have := hr _ e; have := HLA.out; omega))⟩)
    ⟨HB9.out, H39.out, HG9.out⟩ ?iter
    (fun x a' W => ∃ T, T ≠ v9.heap.size + 1 ∧ T ≠ w.heap.size + 1 + 1 ∧ a' = { tmps := #[.agg #[.int .i64 base, .slice wa wn wc, .string (text S0)], .slice da dn dc, .agg #[.int .i64 n, .int .i64 f, .slice ca cn cc, .slice pa pn pc], .pointer (some ⟨w.heap.size, 0, none⟩), undef, .pointer (some ⟨w.heap.size + 1, 0, none⟩), .int .i64 0, .pointer (some ⟨w.heap.size + 1 + 1, 0, none⟩), .pointer (some ⟨T, 0, none⟩), .agg #[.int .i64 n, .int .i64 f, .slice ca cn cc, .slice pa pn pc], .pointer (some ⟨w.heap.size + 1 + 1, 1, none⟩), .int .i64 f, .agg #[.int .i64 n, .int .i64 f, .slice ca cn cc, .slice pa pn pc], .slice da dn dc, .pointer (some ⟨w.heap.size + 1 + 1, 0, none⟩), .int .i64 n, .int .i64 (Dep.foodAt D n), .int .i64 (Mn.most 0 (Mn.least (Dep.foodAt D n) (Pa.roomOf L f))), .int .i64 gn, .pointer (some ⟨w.heap.size + 1 + 1, 1, none⟩), .agg #[.int .i64 base, .slice wa wn wc, .string (text S0)], .slice da dn dc, .agg #[.int .i64 n, .int .i64 gn, .slice ca cn cc, .slice pa pn pc], .func (.func 217) #[] #[.pointer (some ⟨v8.heap.size + 2, 0, none⟩), .pointer (some ⟨v8.heap.size, 0, none⟩), .pointer (some ⟨v8.heap.size + 1, 0, none⟩)], .agg #[.int .i64 x.1, .int .i64 x.2, .slice ca cn cc, .slice pa pn pc], undef, undef, undef, undef, undef, undef, undef, undef], defers := [] } ∧ Box W T #[.int .i64 x.1, .int .i64 x.2, .slice ca cn cc, .slice pa pn pc] 42)
    (fun x a' W W' hA hg => by obtain ⟨T, h1, h2, h3, h4⟩ := hA; exact ⟨T, h1, h2, h3, h4.kept hg (fun e => by injection e with e; omega)⟩) ?assign ?body ?done
  case iter =>
    intro W1 hg1 hs1 J' hJ' hY' h0'
    refine HI.out W1 (v9.heap.size + 1) (w.heap.size + 1 + 1) (v8.heap.size + 2) v8.heap.size (v8.heap.size + 1) (HPb.out.grown hg1) (HHb.out.grown hg1) (HDb.out.grown hg1) (grown_below (grownN_trans HG9.out hg1) _ (Nat.le_refl _)) ⟨by omega, by have := HLA.out; omega⟩ ⟨by have := HLA.out; omega, by omega⟩ ⟨by have := HLA.out; omega, by have := HLA.out; omega, by have := HLA.out; omega, by have := HLA.out; omega, by have := HLA.out; omega, by have := HLA.out; omega⟩ J' hJ' (fun pre a g' W h => hY' pre (a, g') W h) h0'
  case assign =>
    rintro l pre ⟨x1, x2⟩ W K ⟨hb, hh, hg⟩ hsz hK
    gi_wp2
    refine hK _ _ (World.grownBy_alloc _ _ _) ⟨W.heap.size, by omega, by have := hb.lt; omega, rfl, box_new W _ _⟩
  case body =>
    rintro l pre ⟨x1, x2⟩ a' W ⟨hb, hh, hg⟩ ⟨T, hT1, hT2, rfl, hT⟩
    have HBB := Lib.hid hb
    have HHH := Lib.hid hh
    have HGG := Lib.hid hg
    obtain ⟨t0, t1, t2, t3⟩ := Four.four hT
    obtain ⟨⟨s0, z0⟩, ⟨s1, z1⟩, ⟨s2, z2⟩, ⟨s3, z3⟩⟩ := put4_on hb (.int .i64 x1) (.int .i64 x2) (.slice ca cn cc) (.slice pa pn pc)
    clear hb hh hg hT
    gi_wp2
    have hp := put4_grown W (w.heap.size + 1 + 1) (.int .i64 x1) (.int .i64 x2) (.slice ca cn cc) (.slice pa pn pc)
    refine ⟨hp, by rw [endOf_snoc]; exact put4_box HBB.out, HHH.out.kept hp (fun e => by injection e with e; omega), grown_of HGG.out hp (fun c e => .inl (by injection e with e; omega))⟩
  case done =>
    rintro W ⟨hb, hh, hg⟩ hk
    obtain ⟨x0, x1, x2, x3⟩ := Four.four hb
    obtain ⟨z0, z1, z2⟩ := hh.three
    have HGG := Lib.hid hg
    have HKK := Lib.hid hk
    clear hb hh hg hk
    by_cases hbs : (endOf n gn ds).1 = base
    · have HANS : Hid (atBase base (endOf n gn ds) = (endOf n gn ds).2) := if_pos hbs
      gi_wp2
      refine ⟨by simp, .inl ⟨_, _, rfl, run_takeDeferred HKK.out, ?_⟩⟩
      exact ⟨.int .i64 (endOf n gn ds).2, by simp [results, Tryz.f174, go_sem], by rw [HANS.out], grown_of HGG.out (grownBy_putObj' _ _ _) (fun c e => .inl (by injection e with e; have := HLA.out; omega))⟩
    · have HANS : Hid (atBase base (endOf n gn ds) = -1) := if_neg hbs
      gi_wp2
      refine ⟨by simp, .inl ⟨_, _, rfl, run_takeDeferred HKK.out, ?_⟩⟩
      exact ⟨.int .i64 (-1), by simp [results, Tryz.f174, go_sem], by rw [HANS.out], grown_of HGG.out (grownBy_putObj' _ _ _) (fun c e => .inl (by injection e with e; have := HLA.out; omega))⟩
end Go.Proofs.YtonalkamfgpokaaGreat.Lft
