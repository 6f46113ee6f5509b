/- Contracts of the program's functions of chapter 6: its ring of days in memory, and what is asked of it. 'make([]E, n)' at a step of a region that draws its order. No condition. Contracts of the program's functions of chapter 6 over its ring: a ring behind a past; Keeps, MayStorm. -/
import Derived.Test.YtbpiojnehomljaaG2
import Derived.Test.YtbpiojnehomljaaG7
import Derived.Test.YtbpiojnehomljaaStormS
import Derived.IntWalk
import Derived.RegionTactic
import Derived.ChangeAlike
import Derived.BigRegion
import Derived.Deep.QuietTactic
import Derived.BigQuiet
import Derived.Deep.RegionHeld3
namespace Go.Proofs.Ytbpiojnehomljaa.StI
open Go.RowKit Kit Rw Rg Stm Md StormS

set_option maxHeartbeats 1000000 in
theorem iStorms_any (w : World) (v : Value) (L : List Bool) (hv : SeesG encB w v L) :
    Calls Try.prog 136 #[v] w fun e w' => e = .returned (.int .i64 (storms L)) ∧ w = w' := by
  have hl := hv.len
  have HV := Lib.hid hv
  obtain ⟨a, cap, rfl, _⟩ := hv
  go_enter Try.func136, Try.ntmps136
  go_wp2
  go_loop [3, 8] (fun s i => ∃ j : Nat, j ≤ L.length ∧ i = .int .i64 j ∧ s = .int .i64 (storms (L.take j))) (fun _ i => L.length - (intOf i).toNat)
  case atStart => exact ⟨0, Nat.zero_le _, rfl, by simp [storms]⟩
  case round =>
    obtain ⟨j, hj, rfl, rfl⟩ := hrel
    obtain ⟨y, hy⟩ : ∃ y, y = storms (L.take j) := ⟨_, rfl⟩
    have hyj : y ≤ j := by rw [hy]; exact Nat.le_trans (storms_le _) (by simp; omega)
    rw [← hy]
    have HY := Lib.hid hy
    clear hy
    by_cases hlt : j < L.length
    · obtain ⟨x, hx⟩ : ∃ x, x = L.getD j false := ⟨_, rfl⟩
      obtain ⟨b, o, rfl, hb, hcj⟩ := HV.out.at_rowB hlt
      have HN := Lib.hid (storms_next hlt)
      rw [← hx] at hcj
      have HX := Lib.hid hx
      clear hx hb
      cases x
      · go_wp2
        go_round
        case rel => exact ⟨j + 1, by omega, by go_num, by rw [HN.out, ← HY.out, ← HX.out]; go_num⟩
        case measure => simp [intOf]; omega
      · go_wp2
        go_round
        case rel => exact ⟨j + 1, by omega, by go_num, by rw [HN.out, ← HY.out, ← HX.out]; go_num⟩
        case measure => simp [intOf]; omega
    · have : j = L.length := by omega
      subst this
      go_wp2
      go_ret
      exact ⟨ret_i64 (by rw [HY.out, List.take_length]), rfl⟩

set_option maxHeartbeats 1000000 in
theorem iIsRule_any (w : World) (m n : Int) (hm : (Lit.int .i64 m).wf = true) (hn : (Lit.int .i64 n).wf = true) :
    Calls Try.prog 68 #[.agg #[.int .i64 m, .int .i64 n]] w fun e w' => e = .returned (.bool (isRule m n)) ∧ w.grownBy w' none := by
  have hgr := World.grownBy_alloc w (.cells #[.int .i64 m, .int .i64 n] 49 (0, 0)) none
  have HG := Lib.hid hgr
  obtain ⟨c0, c1⟩ := two (box_new w #[.int .i64 m, .int .i64 n] 49)
  clear hgr
  by_cases h : 1 ≤ n ∧ n ≤ 10
  · have HH := Lib.hid h
    have hd : decide (1 ≤ n ∧ n ≤ 10) = true := decide_eq_true h
    have hs := inRange_any n 1 10
    rw [hd] at hs
    have HS := Lib.hid hs
    have HI : Hid (isRule m n = decide (0 ≤ m ∧ m ≤ n - 1)) := by show _ = _; unfold isRule; rw [hd, Bool.true_and]
    clear hs hd
    have hw1 : IntKind.i64.wrap (n - 1) = n - 1 := IntWalk.i64_in _ (by omega)
    go_enter Try.func68, Try.ntmps68
    go_wp2_with fail
    refine (HS.out _).mono ?_
    rintro e w2 ⟨rfl, rfl⟩
    go_wp2_with fail
    refine (inRange_any _ _ _ _).mono ?_
    rintro e w2 ⟨rfl, rfl⟩
    go_wp2
    go_ret
    exact ⟨ret_bool (by rw [HI.out, Bool.decide_and]), HG.out⟩
  · have hd : decide (1 ≤ n ∧ n ≤ 10) = false := decide_eq_false h
    have hs := inRange_any n 1 10
    rw [hd] at hs
    have HS := Lib.hid hs
    have HI : Hid (isRule m n = false) := by show _ = _; unfold isRule; rw [hd, Bool.false_and]
    clear hs hd
    go_enter Try.func68, Try.ntmps68
    go_wp2_with fail
    refine (HS.out _).mono ?_
    rintro e w2 ⟨rfl, rfl⟩
    go_wp2
    go_ret
    exact ⟨ret_bool HI.out.symm, HG.out⟩

/-- A ring of n days at block b, behind the days L, under a rule of m storms. -/
def Wy (w : World) (base b g cap : Nat) (m : Int) (n : Nat) (L : List Bool) : Prop :=
  ∃ D t, Box w b #[.int .i64 m, .int .i64 (n : Nat), .slice (some ⟨g, 0, none⟩) n cap, .int .i64 (t : Nat)] 162 ∧
    OwnG encB 4 w base (.slice (some ⟨g, 0, none⟩) n cap) D ∧ Ring n D t L ∧ g ≠ b ∧ base ≤ b ∧ n ≤ 10 ∧ (Lit.int .i64 m).wf = true
def Wx (w : World) (base b : Nat) (m : Int) (n : Nat) (L : List Bool) : Prop :=
  ∃ D t g cap, Box w b #[.int .i64 m, .int .i64 (n : Nat), .slice (some ⟨g, 0, none⟩) n cap, .int .i64 (t : Nat)] 162 ∧
    OwnG encB 4 w base (.slice (some ⟨g, 0, none⟩) n cap) D ∧ Ring n D t L ∧ g ≠ b ∧ base ≤ b ∧ n ≤ 10 ∧ (Lit.int .i64 m).wf = true
theorem Wx.one {w : World} {base b : Nat} {m : Int} {n : Nat} {L : List Bool} (h : Wx w base b m n L) : ∃ g cap, Wy w base b g cap m n L := by
  obtain ⟨D, t, g, cap, h⟩ := h; exact ⟨g, cap, D, t, h⟩
theorem Wy.any {w : World} {base b g cap : Nat} {m : Int} {n : Nat} {L : List Bool} (h : Wy w base b g cap m n L) : Wx w base b m n L := by
  obtain ⟨D, t, h⟩ := h; exact ⟨D, t, g, cap, h⟩
theorem Wy.grown {w w' : World} {base b g cap : Nat} {m : Int} {n : Nat} {L : List Bool} (h : Wy w base b g cap m n L) (hg : w.grownBy w' none) : Wy w' base b g cap m n L := by
  obtain ⟨D, t, h1, h2, h3⟩ := h
  exact ⟨D, t, h1.grown hg, h2.grown hg, h3⟩
theorem Wx.grown {w w' : World} {base b : Nat} {m : Int} {n : Nat} {L : List Bool} (h : Wx w base b m n L) (hg : w.grownBy w' none) : Wx w' base b m n L := by
  obtain ⟨D, t, g, cap, h1, h2, h3⟩ := h
  exact ⟨D, t, g, cap, h1.grown hg, h2.grown hg, h3⟩
theorem four {w : World} {b : Nat} {x y z u : Value} {T : TypeId} (h : Box w b #[x, y, z, u] T) : w.cell? ⟨b, 0, none⟩ = some x ∧ w.cell? ⟨b, 1, none⟩ = some y ∧ w.cell? ⟨b, 2, none⟩ = some z ∧ w.cell? ⟨b, 3, none⟩ = some u := ⟨h.cell 0, h.cell 1, h.cell 2, h.cell 3⟩
theorem rem_nat {n t : Nat} (ht : t < n) (hn : n ≤ 10) : IntKind.i64.wrap (((t : Int) + 1).tmod (n : Int)) = (((t + 1) % n : Nat) : Int) := by
  rw [show (t : Int) + 1 = ((t + 1 : Nat) : Int) by omega, ← Int.ofNat_tmod (t + 1) n]
  have h := Nat.mod_lt (t + 1) (show 0 < n by omega)
  obtain ⟨q, hq⟩ : ∃ q, q = (t + 1) % n := ⟨_, rfl⟩
  rw [← hq] at h ⊢
  exact IntWalk.i64_in _ (by omega)

set_option maxHeartbeats 1000000 in
theorem may_any (w : World) (base b : Nat) (m : Int) (n : Nat) (L : List Bool) (h : Wx w base b m n L) :
    Calls Try.prog 123 #[.pointer (some ⟨b, 0, none⟩)] w fun e w' => e = .returned (.bool (decide ((lastN (n - 1) L : Int) < m))) ∧ w.grownBy w' none := by
  obtain ⟨D, t, g, cap, h1, h2, h3, h4, h5, h6, h7⟩ := h
  have HD := Lib.hid h2
  have HC := Lib.hid h3.count
  obtain ⟨c0, c1, c2, c3⟩ := four h1
  clear h1 h2 h3
  go_enter Try.func123, Try.ntmps123
  go_wp2_with fail
  go_quiet (first | (go_at_call 136; refine Calls.quiet_of_same ((iStorms_any _ _ D (HD.out.sees.grown (grown_drewN (World.grownBy.refl _ _) _))).mono (fun e w' h => ⟨h.1, h.2.symm⟩))))
  go_wp2
  go_ret
  exact ⟨ret_bool (by rw [HC.out]), grown_drewN (World.grownBy.refl _ _) _⟩

theorem info_bool : (Try.prog.info? 4).map (fun i => (i.zero, i.size, i.bytes)) = some (some (.bool false), 1, 1) := by kernel_rfl

set_option maxHeartbeats 1000000 in
theorem pass_one (w : World) (base b g cap : Nat) (m : Int) (n : Nat) (L : List Bool) (s : Bool) (h : Wy w base b g cap m n L) :
    Calls Try.prog 124 #[.pointer (some ⟨b, 0, none⟩), .bool s] w fun e w' => e = .returned (.bool (decide ((lastN n (L ++ [s]) : Int) ≤ m))) ∧ Wy w' base b g cap m n (L ++ [s]) ∧ Below base w w' ∧ ∀ k, k < w.heap.size → k ≠ b → k ≠ g → w'.heap[k]? = w.heap[k]? := by
  obtain ⟨D, t, h1, h2, h3, h4, h5, h6, h7⟩ := h
  have hlt := h3.lt
  have hlen := h3.len
  have hrem := rem_nat hlt h6
  obtain ⟨q, hq⟩ : ∃ q, q = (t + 1) % n := ⟨_, rfl⟩
  have hqn : q < n := by rw [hq]; exact Nat.mod_lt _ (by omega)
  rw [← hq] at hrem
  have HQ := Lib.hid hq
  clear hq
  have hn0 : (0 : Int) < n := by omega
  have hgb : base ≤ g ∧ g < w.heap.size := h2.lt g rfl
  have HB := Lib.hid h1
  have HD := Lib.hid h2
  have HR := Lib.hid h3
  have hf := h2.free t
  have hd : w.cell? ⟨g, t, none⟩ = some (.bool (D.getD t false)) := by
    have := h2.cellAt (j := t) (by omega) (i := 0) (by decide)
    simpa [encB] using this
  obtain ⟨z, hz⟩ : ∃ z, z = D.getD t false := ⟨_, rfl⟩
  rw [← hz] at hd
  clear hz
  obtain ⟨c0, c1, c2, c3⟩ := four h1
  clear h1 h2 h3
  go_enter Try.func124, Try.ntmps124
  go_wp2
  go_region
  have hp := HD.out.put hlen (j := t) (i := 0) (u := .bool s) (x := s) (by omega) (by decide) rfl trivial
  rw [show t * encB.size + 0 = t by simp [encB]] at hp
  have hg1 := grown_drew hp.2
  have HD1 := Lib.hid (hp.1.grown (grown_drew (World.grownBy.refl _ none)))
  have HB1 := Lib.hid (HB.out.kept hg1 (by simpa using h4))
  have HW1 : Hid (Below base w (w.setCell ⟨g, t, none⟩ (.bool s)).drew) := (Below.refl base w).grown hg1 (by omega) (fun k hk => by injection hk with hk; omega)
  have HQ1 := Lib.hid hg1.size
  have HF1 := Lib.hid hg1
  clear hp hg1
  generalize (w.setCell ⟨g, t, none⟩ (.bool s)).drew = W1 at *
  clear hf hd c0 c1 c2 c3
  obtain ⟨c0, c1, c2, c3⟩ := four HB1.out
  have HC := Lib.hid (HR.out.today s)
  go_wp2
  go_quiet (first | (go_at_call 136; refine Calls.quiet_of_same ((iStorms_any _ _ (D.set t s) (HD1.out.sees.grown (grown_drewN (World.grownBy.refl _ _) _))).mono (fun e w' h => ⟨h.1, h.2.symm⟩))))
  have HD2 := Lib.hid (HD1.out.grown (grown_drewN (World.grownBy.refl W1 none) nq))
  have HB2 := Lib.hid (HB1.out.grown (grown_drewN (World.grownBy.refl W1 none) nq))
  have HW2 := Lib.hid (HW1.out.grown (grown_drewN (World.grownBy.refl W1 none) nq) (Nat.le_trans (by omega) HQ1.out) (fun k hk => by cases hk))
  have HF2 := Lib.hid (grown_drewN (World.grownBy.refl W1 none) nq)
  have HQ2 := Lib.hid (Nat.le_trans HQ1.out (grown_drewN (World.grownBy.refl W1 none) nq).size)
  clear c0 c1 c2 c3
  generalize W1.drewN nq = W2 at *
  obtain ⟨c0, c1, c2, c3⟩ := four HB2.out
  have f3 := HB2.out.free 3
  go_wp2
  go_region
  have hmod : ((t : Int) + 1) % (n : Int) = (q : Int) := by
    rw [HQ.out, show (t : Int) + 1 = ((t + 1 : Nat) : Int) by omega]
    first | exact (Int.natCast_emod _ _).symm | exact (Int.natCast_mod _ _).symm | simp
  rw [hmod]
  have hb3 := box_set HB2.out 3 (.int .i64 (q : Int))
  have hg3 := grown_drew (grown_set W2 b 3 (.int .i64 (q : Int)))
  have HB3 := Lib.hid (hb3.grown (grown_drew (World.grownBy.refl _ none)))
  have HD3 := Lib.hid (HD2.out.kept hg3 (.inr (by simpa [Value.ownBlock] using h4)))
  have HW3 := Lib.hid (HW2.out.grown hg3 (Nat.le_trans (by omega) HQ2.out) (fun k hk => by injection hk with hk; omega))
  have HQ3 := Lib.hid (Nat.le_trans HQ2.out hg3.size)
  have HF3 := Lib.hid hg3
  clear hb3 hg3 c0 c1 c2 c3 f3
  generalize (W2.setCell ⟨b, 3, none⟩ (.int .i64 (q : Int))).drew = W3 at *
  obtain ⟨c0, c1, c2, c3⟩ := four HB3.out
  have f3 := HD3.out.free q
  have hd3 : W3.cell? ⟨g, q, none⟩ = some (.bool ((D.set t s).getD q false)) := by
    have := HD3.out.cellAt (j := q) (by simp; omega) (i := 0) (by decide)
    simpa [encB] using this
  obtain ⟨z3, hz3⟩ : ∃ z, z = (D.set t s).getD q false := ⟨_, rfl⟩
  rw [← hz3] at hd3
  clear hz3
  go_wp2
  go_region
  have hp := HD3.out.put (by simpa using hlen) (j := q) (i := 0) (u := .bool false) (x := false) (by simp; omega) (by decide) rfl trivial
  rw [show q * encB.size + 0 = q by simp [encB]] at hp
  have hg4 := grown_drew hp.2
  have HD4 := Lib.hid (hp.1.grown (grown_drew (World.grownBy.refl _ none)))
  have HB4 := Lib.hid (HB3.out.kept hg4 (by simpa using h4))
  have HF4 := Lib.hid hg4
  have HW4 := Lib.hid (HW3.out.grown hg4 (Nat.le_trans (by omega) HQ3.out) (fun k hk => by injection hk with hk; omega))
  go_wp2
  go_ret
  refine ⟨ret_bool (by rw [HC.out]), ⟨_, q, HB4.out, HD4.out, ?_, h4, h5, h6, h7⟩, HW4.out, fun k hk hb hg => ?_⟩
  · have := HR.out.next s
    rw [← HQ.out] at this
    exact this
  · have ng : ¬ some k = some g := fun e => hg (by injection e)
    have nb : ¬ some k = some b := fun e => hb (by injection e)
    have k1 := HQ1.out
    have k2 := HQ2.out
    have k3 := HQ3.out
    exact ((HF4.out.block k (by omega) ng).trans (HF3.out.block k (by omega) nb)).trans ((HF2.out.block k (by omega) (fun e => by cases e)).trans (HF1.out.block k hk ng))
theorem pass_any (w : World) (base b : Nat) (m : Int) (n : Nat) (L : List Bool) (s : Bool) (h : Wx w base b m n L) :
    Calls Try.prog 124 #[.pointer (some ⟨b, 0, none⟩), .bool s] w fun e w' => e = .returned (.bool (decide ((lastN n (L ++ [s]) : Int) ≤ m))) ∧ Wx w' base b m n (L ++ [s]) ∧ Below base w w' := by
  obtain ⟨g, cap, h⟩ := h.one
  exact (pass_one w base b g cap m n L s h).mono fun e w' h => ⟨h.1, h.2.1.any, h.2.2.1⟩
end Go.Proofs.Ytbpiojnehomljaa.StI

namespace Go.Proofs.Ytbpiojnehomljaa.Rg
open Go.RowKit Kit Rw
theorem step_makeG {α : Type} {e : Enc α} {P : Program} (w : World) {ops : Array Oper} {o : Oper} {a : Act} {K : Act → World → Prop} {Q : Exit → Act → World → Prop} {Z : Prop}
    (hg : o.guard = none) (l c : Operand) (t : TypeId) (hop : o.op = Op.makeSlice t l c)
    (base : Nat) (E : TypeId) (i : TypeInfo) (z : Value) (bytes : Nat) (h1 : P.underlying t = some (.slice E)) (h2 : P.info? E = some i) (h3 : i.zero = some z) (h4 : i.size = e.size) (h5 : i.bytes = bytes)
    (hz : z.cells.toList = e.cells e.dflt) (hok : e.ok e.dflt)
    (kl kc : IntKind) (L C : Int) (n : Nat) (hl : a.eval l = .int kl L) (hc : a.eval c = .int kc C) (hL : L = (n : Int)) (hC : C = (n : Int)) (b2 : bytes * n ≤ 281474976710656) (b3 : n ≤ maxLen) (b4 : base ≤ w.heap.size)
    (hK : ∀ w', OwnG e E w' base (.slice (some ⟨w.heap.size, 0, none⟩) n n) (List.replicate n e.dflt) → w.grownBy w' none → K (a.put o.dst (.slice (some ⟨w.heap.size, 0, none⟩) n n)) w') :
    if Region.wanted o (yielded ops a.tmps) = true then Oper.wp P o a w K Q else Z := by
  have hw : Region.wanted o (yielded ops a.tmps) = true := by simp [Region.wanted, hg]
  rw [if_pos hw]
  obtain ⟨w', hrun, r1, r2⟩ := run_make_full (P := P) w base t E i z e.size h1 h2 h3 h4 kl kc n (by rw [h5]; exact b2) b3 b4
  subst hL
  subst hC
  unfold Oper.wp
  simp [execOp, hop, hl, hc, hrun, Result.andThen]
  refine hK w' ⟨?_, ?_⟩ r2
  · rw [List.length_replicate, ← flat_replicate e z.cells hz]; exact r1
  · intro x hx
    rw [List.eq_of_mem_replicate hx]; exact hok
end Go.Proofs.Ytbpiojnehomljaa.Rg

namespace Go.Proofs.Ytbpiojnehomljaa.StI
open Go.RowKit Kit Rw Rg Stm Md StormS

set_option maxRecDepth 20000 in
set_option maxHeartbeats 1000000 in
theorem after_any (w : World) (m : Int) (n : Nat) (v : Value) (L : List Bool) (hm : (Lit.int .i64 m).wf = true) (h1 : 1 ≤ n) (h10 : n ≤ 10) (hv : SeesG encB w v L) :
    Calls Try.prog 121 #[.agg #[.int .i64 m, .int .i64 (n : Nat)], v] w fun e w' => ∃ b, e = .returned (.pointer (some ⟨b, 0, none⟩)) ∧ Wx w' w.heap.size b m n L ∧ w.grownBy w' none := by
  have hl := hv.len
  have hgr := World.grownBy_alloc w (.cells #[.int .i64 m, .int .i64 (n : Nat)] 49 (0, 0)) none
  have HV := Lib.hid hv
  have HB := Lib.hid (box_new w #[.int .i64 m, .int .i64 (n : Nat)] 49)
  have hmb := i64_of hm
  have HM := Lib.hid hmb
  have HG0 := Lib.hid hgr
  have HK := Lib.hid (two HB.out)
  obtain ⟨a, cap, rfl, _⟩ := hv
  obtain ⟨i0, hi, hz0, hz1, hz2⟩ := info_parts info_bool
  clear hgr hm hmb
  go_enter Try.func121, Try.ntmps121
  go_wp2_with fail
  generalize w.alloc (.cells #[.int .i64 m, .int .i64 (n : Nat)] 49 (0, 0)) = W0 at *
  refine wp_region_held_drew (S := fun w' => w'.cell? ⟨w.heap.size, 0, none⟩ = some (.int .i64 m) ∧ w'.cell? ⟨w.heap.size, 1, none⟩ = some (.int .i64 (n : Nat))) (by kernel_rfl) HK.out (fun hHeld => ?_)
  refine wpAnyH_take (i := 0) (v := ?_) rfl (by kernel_rfl) (by kernel_rfl) (by kernel_rfl) (fun _ _ _ h => h) (Or.inl ⟨by rfl, ?_⟩) (by assumption) ?_; rotate_left; (focus (intro wS hSw; (try dsimp only at hSw); go_simp <;> with_reducible rfl)); (try simp only [Act.put, List.getElem_toArray, List.getElem_cons_succ, List.getElem_cons_zero, List.setIfInBounds_toArray, List.set_cons_zero, List.set_cons_succ])
  refine wpAnyH_take (i := 1) (v := ?_) rfl (by kernel_rfl) (by kernel_rfl) (by kernel_rfl) (fun _ _ _ h => h) (Or.inl ⟨by rfl, ?_⟩) (by assumption) ?_; rotate_left; (focus (intro wS hSw; (try dsimp only at hSw); go_simp <;> with_reducible rfl)); (try simp only [Act.put, List.getElem_toArray, List.getElem_cons_succ, List.getElem_cons_zero, List.setIfInBounds_toArray, List.set_cons_zero, List.set_cons_succ])
  refine wpAnyH_take (i := 2) (v := ?_) rfl (by kernel_rfl) (by kernel_rfl) (by kernel_rfl) (fun _ _ _ h => h) (Or.inl ⟨by rfl, ?_⟩) (by assumption) ?_; rotate_left; (focus (intro wS hSw; (try dsimp only at hSw); go_simp <;> with_reducible rfl)); (try simp only [Act.put, List.getElem_toArray, List.getElem_cons_succ, List.getElem_cons_zero, List.setIfInBounds_toArray, List.set_cons_zero, List.set_cons_succ])
  have HG1 := Lib.hid (grown_drew HG0.out)
  have HK1 := Lib.hid (two (HB.out.grown (grown_drew (World.grownBy.refl W0 none))))
  refine wpAnyH_ready (rs := [3]) (by kernel_rfl) (by simp) ?_
  refine AllReadyH.cons rfl (fun K hK => ?_) AllReadyH.nil
  refine step_makeG (e := encB) _ rfl _ _ 44 rfl w.heap.size 4 i0 (.bool false) 1 Try.underlying44 hi hz0 hz1 hz2 rfl trivial .i64 .i64 _ _ n rfl rfl rfl rfl (by omega) (by unfold maxLen; omega) HG1.out.size ?_
  intro w2 hown hgrow
  have HD := Lib.hid hown
  have HG2 := Lib.hid (grownN_trans HG1.out hgrow)
  have HK2 := Lib.hid (And.intro (hgrow.cell HK1.out.1 (by simp)) (hgrow.cell HK1.out.2 (by simp)))
  have HGQ := Lib.hid hgrow
  have hg9 : W0.drew.heap.size < w2.heap.size := (hown.lt _ rfl).2
  have hg8 : w.heap.size ≤ W0.drew.heap.size := HG1.out.size
  have HG9 := Lib.hid (And.intro hg8 hg9)
  clear hown hgrow hg8 hg9
  (try simp only [Act.put, List.getElem_toArray, List.getElem_cons_succ, List.getElem_cons_zero, List.setIfInBounds_toArray, List.set_cons_zero, List.set_cons_succ])
  refine hK.out _ _ ?_ (fun hHeld => ?_)
  · exact HK2.out
  clear hK K
  generalize W0.drew.heap.size = g at *
  refine wpAnyH_take (i := 4) (v := ?_) rfl (by kernel_rfl) (by kernel_rfl) (by kernel_rfl) (fun _ _ _ h => h) (Or.inl ⟨by rfl, ?_⟩) (by assumption) ?_; rotate_left; (focus (intro wS hSw; (try dsimp only at hSw); go_simp <;> with_reducible rfl)); (try simp only [Act.put, List.getElem_toArray, List.getElem_cons_succ, List.getElem_cons_zero, List.setIfInBounds_toArray, List.set_cons_zero, List.set_cons_succ])
  have hg3 := World.grownBy_alloc w2 (.cells #[.int .i64 m, .int .i64 (n : Nat), .slice (some ⟨g, 0, none⟩) n n, .int .i64 0] 162 (0, 0)) none
  have HB3 := Lib.hid (box_new w2 #[.int .i64 m, .int .i64 (n : Nat), .slice (some ⟨g, 0, none⟩) n n, .int .i64 0] 162)
  have HG3 := Lib.hid (grownN_trans HG2.out hg3)
  have HD3 := Lib.hid (HD.out.grown hg3)
  have HK3 := Lib.hid (And.intro (hg3.cell HK2.out.1 (by simp)) (hg3.cell HK2.out.2 (by simp)))
  clear hg3
  refine wpAnyH_ready (rs := [5]) (by kernel_rfl) (by simp) ?_
  refine AllReadyH.cons rfl (fun K hK => ?_) AllReadyH.nil
  go_simp
  refine hK.out _ _ ?_ (fun hHeld => ?_)
  · exact HK3.out
  clear hK K
  (try simp only [Act.put, List.getElem_toArray, List.getElem_cons_succ, List.getElem_cons_zero, List.setIfInBounds_toArray, List.set_cons_zero, List.set_cons_succ])
  refine wpAnyH_take (i := 6) (v := ?_) rfl (by kernel_rfl) (by kernel_rfl) (by kernel_rfl) (fun _ _ _ h => h) (Or.inl ⟨by rfl, ?_⟩) (by assumption) ?_; rotate_left; (focus (intro wS hSw; (try dsimp only at hSw); go_simp <;> with_reducible rfl)); (try simp only [Act.put, List.getElem_toArray, List.getElem_cons_succ, List.getElem_cons_zero, List.setIfInBounds_toArray, List.set_cons_zero, List.set_cons_succ])
  refine wpAnyH_done (by kernel_rfl) ?_ _
  (try simp only [Act.put, List.getElem_toArray, List.getElem_cons_succ, List.getElem_cons_zero, List.setIfInBounds_toArray, List.set_cons_zero, List.set_cons_succ])
  have hws : w.heap.size ≤ w2.heap.size := HG2.out.size
  have HW3 : Hid (Wx (w2.alloc (.cells #[.int .i64 m, .int .i64 (n : Nat), .slice (some ⟨g, 0, none⟩) n n, .int .i64 0] 162 (0, 0))) w.heap.size w2.heap.size m n (L.take 0)) :=
    ⟨List.replicate n encB.dflt, 0, g, n, HB3.out, HD3.out, by rw [List.take_zero]; exact Ring.start h1, by have := HG9.out.2; omega, hws, h10, i64_mk HM.out⟩
  clear HD HD3 HB3 HG2 HK HK1 HK2 HK3 HG0 HG1 HB
  generalize w2.alloc (.cells #[.int .i64 m, .int .i64 (n : Nat), .slice (some ⟨g, 0, none⟩) n n, .int .i64 0] 162 (0, 0)) = W3 at *
  obtain ⟨b, hb⟩ : ∃ b, b = w2.heap.size := ⟨_, rfl⟩
  rw [← hb] at HW3 ⊢
  clear hb
  go_wp2
  go_loopw [16] (fun i wr => ∃ j : Nat, j ≤ L.length ∧ i = .int .i64 j ∧ Hid (Wx wr w.heap.size b m n (L.take j)) ∧ Hid (w.grownBy wr none)) (fun i _ => L.length - (intOf i).toNat)
  case atStart => exact ⟨0, Nat.zero_le _, rfl, HW3, HG3⟩
  case round =>
    obtain ⟨j, hj, rfl, HWj, HGj⟩ := hrel
    by_cases hlt : j < L.length
    · obtain ⟨x, hx⟩ : ∃ x, x = L.getD j false := ⟨_, rfl⟩
      obtain ⟨ab, ao, rfl, hab, hc0⟩ := HV.out.at_rowB hlt
      have hcj : wr.cell? ⟨ab, ao + j, none⟩ = some (.bool (L.getD j false)) := HGj.out.cell hc0 (by simp)
      have hT : L.take (j + 1) = L.take j ++ [x] := by rw [List.take_add_one, hx]; congr 1; simp [hlt]
      rw [← hx] at hcj
      have HT := Lib.hid hT
      clear hx hc0 hab hT
      go_wp2_with (go_at_call 124; refine (pass_any _ w.heap.size b m n (L.take j) x HWj.out).mono ?_; rintro e w5 ⟨rfl, hw5, hb5⟩; have HW5 := Lib.hid hw5; have HB5 := Lib.hid hb5; clear hw5 hb5)
      go_roundw
      case rel => exact ⟨j + 1, by omega, by go_num, by rw [HT.out]; exact HW5, below_grown ((grown_below HGj.out _ (Nat.le_refl _)).trans HB5.out)⟩
      case measure => simp [intOf]; omega
    · have : j = L.length := by omega
      subst this
      go_wp2
      go_ret
      exact ⟨b, rfl, by have := HWj.out; rw [List.take_length] at this; exact this, HGj.out⟩
end Go.Proofs.Ytbpiojnehomljaa.StI
