/- Contracts of the program's functions of chapter 6: its ring of days in memory, and what is asked of it. 'make([]E, n)' at a step of a region that draws its order. No condition. Contracts of the program's functions of chapter 6 over its ring: a ring behind a past; Keeps, MayStorm. Contract of the model's Keeps. Contract of the model's AddDay. Contracts of the program's Keeps, MayStorm, copies with room and AddDay. Contracts of AddDay, of the worst weather's closure and of WorstDays. Contracts of the model's WorstDays and of the program's AddDay. Contracts of the program's Min and Max, for every two arguments. -/
import Derived.Test.YtonalkamfgpokaaGreatG1
import Derived.Test.YtonalkamfgpokaaGreatG7
import Derived.IntWalk
import Derived.RegionTactic
import Derived.ChangeAlike
import Derived.BigRegion
import Derived.Deep.QuietTactic
import Derived.BigQuiet
import Derived.Deep.RegionHeld3
import Derived.Test.YtonalkamfgpokaaGreatMBase
import Derived.WalkKit
namespace Go.Proofs.YtonalkamfgpokaaGreat.StI
open Go.RowKit Kit Rw Rg Stm Md StormS

set_option maxHeartbeats 1000000 in
theorem iStorms_any (w : World) (v : Value) (L : List Bool) (hv : SeesG encB w v L) :
    Calls Tryz.prog 189 #[v] w fun e w' => e = .returned (.int .i64 (storms L)) ∧ w = w' := by
  have hl := hv.len
  have HV := Lib.hid hv
  obtain ⟨a, cap, rfl, _⟩ := hv
  go_enter Tryz.func189, Tryz.ntmps189
  go_wp2
  go_loop [3, 8] (fun s i => ∃ j : Nat, j ≤ L.length ∧ i = .int .i64 j ∧ s = .int .i64 (storms (L.take j))) (fun _ i => L.length - (intOf i).toNat)
  case atStart => exact ⟨0, Nat.zero_le _, rfl, by simp [storms]⟩
  case round =>
    obtain ⟨j, hj, rfl, rfl⟩ := hrel
    obtain ⟨y, hy⟩ : ∃ y, y = storms (L.take j) := ⟨_, rfl⟩
    have hyj : y ≤ j := by rw [hy]; exact Nat.le_trans (storms_le _) (by simp; omega)
    rw [← hy]
    have HY := Lib.hid hy
    clear hy
    by_cases hlt : j < L.length
    · obtain ⟨x, hx⟩ : ∃ x, x = L.getD j false := ⟨_, rfl⟩
      obtain ⟨b, o, rfl, hb, hcj⟩ := HV.out.at_rowB hlt
      have HN := Lib.hid (storms_next hlt)
      rw [← hx] at hcj
      have HX := Lib.hid hx
      clear hx hb
      cases x
      · go_wp2
        go_round
        case rel => exact ⟨j + 1, by omega, by go_num, by rw [HN.out, ← HY.out, ← HX.out]; go_num⟩
        case measure => simp [intOf]; omega
      · go_wp2
        go_round
        case rel => exact ⟨j + 1, by omega, by go_num, by rw [HN.out, ← HY.out, ← HX.out]; go_num⟩
        case measure => simp [intOf]; omega
    · have : j = L.length := by omega
      subst this
      go_wp2
      go_ret
      exact ⟨ret_i64 (by rw [HY.out, List.take_length]), rfl⟩

set_option maxHeartbeats 1000000 in
theorem iIsRule_any (w : World) (m n : Int) (hm : (Lit.int .i64 m).wf = true) (hn : (Lit.int .i64 n).wf = true) :
    Calls Tryz.prog 148 #[.agg #[.int .i64 m, .int .i64 n]] w fun e w' => e = .returned (.bool (isRule m n)) ∧ w.grownBy w' none := by
  have hgr := World.grownBy_alloc w (.cells #[.int .i64 m, .int .i64 n] 38 (0, 0)) none
  have HG := Lib.hid hgr
  obtain ⟨c0, c1⟩ := two (box_new w #[.int .i64 m, .int .i64 n] 38)
  clear hgr
  by_cases h : 1 ≤ n ∧ n ≤ 10
  · have HH := Lib.hid h
    have hd : decide (1 ≤ n ∧ n ≤ 10) = true := decide_eq_true h
    have hs := inRange_any n 1 10
    rw [hd] at hs
    have HS := Lib.hid hs
    have HI : Hid (isRule m n = decide (0 ≤ m ∧ m ≤ n - 1)) := by show _ = _; unfold isRule; rw [hd, Bool.true_and]
    clear hs hd
    have hw1 : IntKind.i64.wrap (n - 1) = n - 1 := IntWalk.i64_in _ (by omega)
    go_enter Tryz.func148, Tryz.ntmps148
    go_wp2_with fail
    refine (HS.out _).mono ?_
    rintro e w2 ⟨rfl, rfl⟩
    go_wp2_with fail
    refine (inRange_any _ _ _ _).mono ?_
    rintro e w2 ⟨rfl, rfl⟩
    go_wp2
    go_ret
    exact ⟨ret_bool (by rw [HI.out, Bool.decide_and]), HG.out⟩
  · have hd : decide (1 ≤ n ∧ n ≤ 10) = false := decide_eq_false h
    have hs := inRange_any n 1 10
    rw [hd] at hs
    have HS := Lib.hid hs
    have HI : Hid (isRule m n = false) := by show _ = _; unfold isRule; rw [hd, Bool.false_and]
    clear hs hd
    go_enter Tryz.func148, Tryz.ntmps148
    go_wp2_with fail
    refine (HS.out _).mono ?_
    rintro e w2 ⟨rfl, rfl⟩
    go_wp2
    go_ret
    exact ⟨ret_bool HI.out.symm, HG.out⟩

/-- A ring of n days at block b, behind the days L, under a rule of m storms. -/
def Wy (w : World) (base b g cap : Nat) (m : Int) (n : Nat) (L : List Bool) : Prop :=
  ∃ D t, Box w b #[.int .i64 m, .int .i64 (n : Nat), .slice (some ⟨g, 0, none⟩) n cap, .int .i64 (t : Nat)] 194 ∧
    OwnG encB 4 w base (.slice (some ⟨g, 0, none⟩) n cap) D ∧ Ring n D t L ∧ g ≠ b ∧ base ≤ b ∧ n ≤ 10 ∧ (Lit.int .i64 m).wf = true
def Wx (w : World) (base b : Nat) (m : Int) (n : Nat) (L : List Bool) : Prop :=
  ∃ D t g cap, Box w b #[.int .i64 m, .int .i64 (n : Nat), .slice (some ⟨g, 0, none⟩) n cap, .int .i64 (t : Nat)] 194 ∧
    OwnG encB 4 w base (.slice (some ⟨g, 0, none⟩) n cap) D ∧ Ring n D t L ∧ g ≠ b ∧ base ≤ b ∧ n ≤ 10 ∧ (Lit.int .i64 m).wf = true
theorem Wx.one {w : World} {base b : Nat} {m : Int} {n : Nat} {L : List Bool} (h : Wx w base b m n L) : ∃ g cap, Wy w base b g cap m n L := by
  obtain ⟨D, t, g, cap, h⟩ := h; exact ⟨g, cap, D, t, h⟩
theorem Wy.any {w : World} {base b g cap : Nat} {m : Int} {n : Nat} {L : List Bool} (h : Wy w base b g cap m n L) : Wx w base b m n L := by
  obtain ⟨D, t, h⟩ := h; exact ⟨D, t, g, cap, h⟩
theorem Wy.grown {w w' : World} {base b g cap : Nat} {m : Int} {n : Nat} {L : List Bool} (h : Wy w base b g cap m n L) (hg : w.grownBy w' none) : Wy w' base b g cap m n L := by
  obtain ⟨D, t, h1, h2, h3⟩ := h
  exact ⟨D, t, h1.grown hg, h2.grown hg, h3⟩
theorem Wx.grown {w w' : World} {base b : Nat} {m : Int} {n : Nat} {L : List Bool} (h : Wx w base b m n L) (hg : w.grownBy w' none) : Wx w' base b m n L := by
  obtain ⟨D, t, g, cap, h1, h2, h3⟩ := h
  exact ⟨D, t, g, cap, h1.grown hg, h2.grown hg, h3⟩
theorem four {w : World} {b : Nat} {x y z u : Value} {T : TypeId} (h : Box w b #[x, y, z, u] T) : w.cell? ⟨b, 0, none⟩ = some x ∧ w.cell? ⟨b, 1, none⟩ = some y ∧ w.cell? ⟨b, 2, none⟩ = some z ∧ w.cell? ⟨b, 3, none⟩ = some u := ⟨h.cell 0, h.cell 1, h.cell 2, h.cell 3⟩
theorem rem_nat {n t : Nat} (ht : t < n) (hn : n ≤ 10) : IntKind.i64.wrap (((t : Int) + 1).tmod (n : Int)) = (((t + 1) % n : Nat) : Int) := by
  rw [show (t : Int) + 1 = ((t + 1 : Nat) : Int) by omega, ← Int.ofNat_tmod (t + 1) n]
  have h := Nat.mod_lt (t + 1) (show 0 < n by omega)
  obtain ⟨q, hq⟩ : ∃ q, q = (t + 1) % n := ⟨_, rfl⟩
  rw [← hq] at h ⊢
  exact IntWalk.i64_in _ (by omega)

set_option maxHeartbeats 1000000 in
theorem may_any (w : World) (base b : Nat) (m : Int) (n : Nat) (L : List Bool) (h : Wx w base b m n L) :
    Calls Tryz.prog 150 #[.pointer (some ⟨b, 0, none⟩)] w fun e w' => e = .returned (.bool (decide ((lastN (n - 1) L : Int) < m))) ∧ w.grownBy w' none := by
  obtain ⟨D, t, g, cap, h1, h2, h3, h4, h5, h6, h7⟩ := h
  have HD := Lib.hid h2
  have HC := Lib.hid h3.count
  obtain ⟨c0, c1, c2, c3⟩ := four h1
  clear h1 h2 h3
  go_enter Tryz.func150, Tryz.ntmps150
  go_wp2_with fail
  go_quiet (first | (go_at_call 189; refine Calls.quiet_of_same ((iStorms_any _ _ D (HD.out.sees.grown (grown_drewN (World.grownBy.refl _ _) _))).mono (fun e w' h => ⟨h.1, h.2.symm⟩))))
  go_wp2
  go_ret
  exact ⟨ret_bool (by rw [HC.out]), grown_drewN (World.grownBy.refl _ _) _⟩

theorem info_bool : (Tryz.prog.info? 4).map (fun i => (i.zero, i.size, i.bytes)) = some (some (.bool false), 1, 1) := by kernel_rfl

set_option maxHeartbeats 1000000 in
theorem pass_one (w : World) (base b g cap : Nat) (m : Int) (n : Nat) (L : List Bool) (s : Bool) (h : Wy w base b g cap m n L) :
    Calls Tryz.prog 188 #[.pointer (some ⟨b, 0, none⟩), .bool s] w fun e w' => e = .returned (.bool (decide ((lastN n (L ++ [s]) : Int) ≤ m))) ∧ Wy w' base b g cap m n (L ++ [s]) ∧ Below base w w' ∧ ∀ k, k < w.heap.size → k ≠ b → k ≠ g → w'.heap[k]? = w.heap[k]? := by
  obtain ⟨D, t, h1, h2, h3, h4, h5, h6, h7⟩ := h
  have hlt := h3.lt
  have hlen := h3.len
  have hrem := rem_nat hlt h6
  obtain ⟨q, hq⟩ : ∃ q, q = (t + 1) % n := ⟨_, rfl⟩
  have hqn : q < n := by rw [hq]; exact Nat.mod_lt _ (by omega)
  rw [← hq] at hrem
  have HQ := Lib.hid hq
  clear hq
  have hn0 : (0 : Int) < n := by omega
  have hgb : base ≤ g ∧ g < w.heap.size := h2.lt g rfl
  have HB := Lib.hid h1
  have HD := Lib.hid h2
  have HR := Lib.hid h3
  have hf := h2.free t
  have hd : w.cell? ⟨g, t, none⟩ = some (.bool (D.getD t false)) := by
    have := h2.cellAt (j := t) (by omega) (i := 0) (by decide)
    simpa [encB] using this
  obtain ⟨z, hz⟩ : ∃ z, z = D.getD t false := ⟨_, rfl⟩
  rw [← hz] at hd
  clear hz
  obtain ⟨c0, c1, c2, c3⟩ := four h1
  clear h1 h2 h3
  go_enter Tryz.func188, Tryz.ntmps188
  go_wp2
  go_region
  have hp := HD.out.put hlen (j := t) (i := 0) (u := .bool s) (x := s) (by omega) (by decide) rfl trivial
  rw [show t * encB.size + 0 = t by simp [encB]] at hp
  have hg1 := grown_drew hp.2
  have HD1 := Lib.hid (hp.1.grown (grown_drew (World.grownBy.refl _ none)))
  have HB1 := Lib.hid (HB.out.kept hg1 (by simpa using h4))
  have HW1 : Hid (Below base w (w.setCell ⟨g, t, none⟩ (.bool s)).drew) := (Below.refl base w).grown hg1 (by omega) (fun k hk => by injection hk with hk; omega)
  have HQ1 := Lib.hid hg1.size
  have HF1 := Lib.hid hg1
  clear hp hg1
  generalize (w.setCell ⟨g, t, none⟩ (.bool s)).drew = W1 at *
  clear hf hd c0 c1 c2 c3
  obtain ⟨c0, c1, c2, c3⟩ := four HB1.out
  have HC := Lib.hid (HR.out.today s)
  go_wp2
  go_quiet (first | (go_at_call 189; refine Calls.quiet_of_same ((iStorms_any _ _ (D.set t s) (HD1.out.sees.grown (grown_drewN (World.grownBy.refl _ _) _))).mono (fun e w' h => ⟨h.1, h.2.symm⟩))))
  have HD2 := Lib.hid (HD1.out.grown (grown_drewN (World.grownBy.refl W1 none) nq))
  have HB2 := Lib.hid (HB1.out.grown (grown_drewN (World.grownBy.refl W1 none) nq))
  have HW2 := Lib.hid (HW1.out.grown (grown_drewN (World.grownBy.refl W1 none) nq) (Nat.le_trans (by omega) HQ1.out) (fun k hk => by cases hk))
  have HF2 := Lib.hid (grown_drewN (World.grownBy.refl W1 none) nq)
  have HQ2 := Lib.hid (Nat.le_trans HQ1.out (grown_drewN (World.grownBy.refl W1 none) nq).size)
  clear c0 c1 c2 c3
  generalize W1.drewN nq = W2 at *
  obtain ⟨c0, c1, c2, c3⟩ := four HB2.out
  have f3 := HB2.out.free 3
  go_wp2
  go_region
  have hmod : ((t : Int) + 1) % (n : Int) = (q : Int) := by
    rw [HQ.out, show (t : Int) + 1 = ((t + 1 : Nat) : Int) by omega]
    first | exact (Int.natCast_emod _ _).symm | exact (Int.natCast_mod _ _).symm | simp
  rw [hmod]
  have hb3 := box_set HB2.out 3 (.int .i64 (q : Int))
  have hg3 := grown_drew (grown_set W2 b 3 (.int .i64 (q : Int)))
  have HB3 := Lib.hid (hb3.grown (grown_drew (World.grownBy.refl _ none)))
  have HD3 := Lib.hid (HD2.out.kept hg3 (.inr (by simpa [Value.ownBlock] using h4)))
  have HW3 := Lib.hid (HW2.out.grown hg3 (Nat.le_trans (by omega) HQ2.out) (fun k hk => by injection hk with hk; omega))
  have HQ3 := Lib.hid (Nat.le_trans HQ2.out hg3.size)
  have HF3 := Lib.hid hg3
  clear hb3 hg3 c0 c1 c2 c3 f3
  generalize (W2.setCell ⟨b, 3, none⟩ (.int .i64 (q : Int))).drew = W3 at *
  obtain ⟨c0, c1, c2, c3⟩ := four HB3.out
  have f3 := HD3.out.free q
  have hd3 : W3.cell? ⟨g, q, none⟩ = some (.bool ((D.set t s).getD q false)) := by
    have := HD3.out.cellAt (j := q) (by simp; omega) (i := 0) (by decide)
    simpa [encB] using this
  obtain ⟨z3, hz3⟩ : ∃ z, z = (D.set t s).getD q false := ⟨_, rfl⟩
  rw [← hz3] at hd3
  clear hz3
  go_wp2
  go_region
  have hp := HD3.out.put (by simpa using hlen) (j := q) (i := 0) (u := .bool false) (x := false) (by simp; omega) (by decide) rfl trivial
  rw [show q * encB.size + 0 = q by simp [encB]] at hp
  have hg4 := grown_drew hp.2
  have HD4 := Lib.hid (hp.1.grown (grown_drew (World.grownBy.refl _ none)))
  have HB4 := Lib.hid (HB3.out.kept hg4 (by simpa using h4))
  have HF4 := Lib.hid hg4
  have HW4 := Lib.hid (HW3.out.grown hg4 (Nat.le_trans (by omega) HQ3.out) (fun k hk => by injection hk with hk; omega))
  go_wp2
  go_ret
  refine ⟨ret_bool (by rw [HC.out]), ⟨_, q, HB4.out, HD4.out, ?_, h4, h5, h6, h7⟩, HW4.out, fun k hk hb hg => ?_⟩
  · have := HR.out.next s
    rw [← HQ.out] at this
    exact this
  · have ng : ¬ some k = some g := fun e => hg (by injection e)
    have nb : ¬ some k = some b := fun e => hb (by injection e)
    have k1 := HQ1.out
    have k2 := HQ2.out
    have k3 := HQ3.out
    exact ((HF4.out.block k (by omega) ng).trans (HF3.out.block k (by omega) nb)).trans ((HF2.out.block k (by omega) (fun e => by cases e)).trans (HF1.out.block k hk ng))
theorem pass_any (w : World) (base b : Nat) (m : Int) (n : Nat) (L : List Bool) (s : Bool) (h : Wx w base b m n L) :
    Calls Tryz.prog 188 #[.pointer (some ⟨b, 0, none⟩), .bool s] w fun e w' => e = .returned (.bool (decide ((lastN n (L ++ [s]) : Int) ≤ m))) ∧ Wx w' base b m n (L ++ [s]) ∧ Below base w w' := by
  obtain ⟨g, cap, h⟩ := h.one
  exact (pass_one w base b g cap m n L s h).mono fun e w' h => ⟨h.1, h.2.1.any, h.2.2.1⟩
end Go.Proofs.YtonalkamfgpokaaGreat.StI

namespace Go.Proofs.YtonalkamfgpokaaGreat.Rg
open Go.RowKit Kit Rw
theorem step_makeG {α : Type} {e : Enc α} {P : Program} (w : World) {ops : Array Oper} {o : Oper} {a : Act} {K : Act → World → Prop} {Q : Exit → Act → World → Prop} {Z : Prop}
    (hg : o.guard = none) (l c : Operand) (t : TypeId) (hop : o.op = Op.makeSlice t l c)
    (base : Nat) (E : TypeId) (i : TypeInfo) (z : Value) (bytes : Nat) (h1 : P.underlying t = some (.slice E)) (h2 : P.info? E = some i) (h3 : i.zero = some z) (h4 : i.size = e.size) (h5 : i.bytes = bytes)
    (hz : z.cells.toList = e.cells e.dflt) (hok : e.ok e.dflt)
    (kl kc : IntKind) (L C : Int) (n : Nat) (hl : a.eval l = .int kl L) (hc : a.eval c = .int kc C) (hL : L = (n : Int)) (hC : C = (n : Int)) (b2 : bytes * n ≤ 281474976710656) (b3 : n ≤ maxLen) (b4 : base ≤ w.heap.size)
    (hK : ∀ w', OwnG e E w' base (.slice (some ⟨w.heap.size, 0, none⟩) n n) (List.replicate n e.dflt) → w.grownBy w' none → K (a.put o.dst (.slice (some ⟨w.heap.size, 0, none⟩) n n)) w') :
    if Region.wanted o (yielded ops a.tmps) = true then Oper.wp P o a w K Q else Z := by
  have hw : Region.wanted o (yielded ops a.tmps) = true := by simp [Region.wanted, hg]
  rw [if_pos hw]
  obtain ⟨w', hrun, r1, r2⟩ := run_make_full (P := P) w base t E i z e.size h1 h2 h3 h4 kl kc n (by rw [h5]; exact b2) b3 b4
  subst hL
  subst hC
  unfold Oper.wp
  simp [execOp, hop, hl, hc, hrun, Result.andThen]
  refine hK w' ⟨?_, ?_⟩ r2
  · rw [List.length_replicate, ← flat_replicate e z.cells hz]; exact r1
  · intro x hx
    rw [List.eq_of_mem_replicate hx]; exact hok
end Go.Proofs.YtonalkamfgpokaaGreat.Rg

namespace Go.Proofs.YtonalkamfgpokaaGreat.StI
open Go.RowKit Kit Rw Rg Stm Md StormS

set_option maxRecDepth 20000 in
set_option maxHeartbeats 1000000 in
theorem after_any (w : World) (m : Int) (n : Nat) (v : Value) (L : List Bool) (hm : (Lit.int .i64 m).wf = true) (h1 : 1 ≤ n) (h10 : n ≤ 10) (hv : SeesG encB w v L) :
    Calls Tryz.prog 149 #[.agg #[.int .i64 m, .int .i64 (n : Nat)], v] w fun e w' => ∃ b, e = .returned (.pointer (some ⟨b, 0, none⟩)) ∧ Wx w' w.heap.size b m n L ∧ w.grownBy w' none := by
  have hl := hv.len
  have hgr := World.grownBy_alloc w (.cells #[.int .i64 m, .int .i64 (n : Nat)] 38 (0, 0)) none
  have HV := Lib.hid hv
  have HB := Lib.hid (box_new w #[.int .i64 m, .int .i64 (n : Nat)] 38)
  have hmb := i64_of hm
  have HM := Lib.hid hmb
  have HG0 := Lib.hid hgr
  have HK := Lib.hid (two HB.out)
  obtain ⟨a, cap, rfl, _⟩ := hv
  obtain ⟨i0, hi, hz0, hz1, hz2⟩ := info_parts info_bool
  clear hgr hm hmb
  go_enter Tryz.func149, Tryz.ntmps149
  go_wp2_with fail
  generalize w.alloc (.cells #[.int .i64 m, .int .i64 (n : Nat)] 38 (0, 0)) = W0 at *
  refine wp_region_held_drew (S := fun w' => w'.cell? ⟨w.heap.size, 0, none⟩ = some (.int .i64 m) ∧ w'.cell? ⟨w.heap.size, 1, none⟩ = some (.int .i64 (n : Nat))) (by kernel_rfl) HK.out (fun hHeld => ?_)
  refine wpAnyH_take (i := 0) (v := ?_) rfl (by kernel_rfl) (by kernel_rfl) (by kernel_rfl) (fun _ _ _ h => h) (Or.inl ⟨by rfl, ?_⟩) (by assumption) ?_; rotate_left; (focus (intro wS hSw; (try dsimp only at hSw); go_simp <;> with_reducible rfl)); (try simp only [Act.put, List.getElem_toArray, List.getElem_cons_succ, List.getElem_cons_zero, List.setIfInBounds_toArray, List.set_cons_zero, List.set_cons_succ])
  refine wpAnyH_take (i := 1) (v := ?_) rfl (by kernel_rfl) (by kernel_rfl) (by kernel_rfl) (fun _ _ _ h => h) (Or.inl ⟨by rfl, ?_⟩) (by assumption) ?_; rotate_left; (focus (intro wS hSw; (try dsimp only at hSw); go_simp <;> with_reducible rfl)); (try simp only [Act.put, List.getElem_toArray, List.getElem_cons_succ, List.getElem_cons_zero, List.setIfInBounds_toArray, List.set_cons_zero, List.set_cons_succ])
  refine wpAnyH_take (i := 2) (v := ?_) rfl (by kernel_rfl) (by kernel_rfl) (by kernel_rfl) (fun _ _ _ h => h) (Or.inl ⟨by rfl, ?_⟩) (by assumption) ?_; rotate_left; (focus (intro wS hSw; (try dsimp only at hSw); go_simp <;> with_reducible rfl)); (try simp only [Act.put, List.getElem_toArray, List.getElem_cons_succ, List.getElem_cons_zero, List.setIfInBounds_toArray, List.set_cons_zero, List.set_cons_succ])
  have HG1 := Lib.hid (grown_drew HG0.out)
  have HK1 := Lib.hid (two (HB.out.grown (grown_drew (World.grownBy.refl W0 none))))
  refine wpAnyH_ready (rs := [3]) (by kernel_rfl) (by simp) ?_
  refine AllReadyH.cons rfl (fun K hK => ?_) AllReadyH.nil
  refine step_makeG (e := encB) _ rfl _ _ 29 rfl w.heap.size 4 i0 (.bool false) 1 Tryz.underlying29 hi hz0 hz1 hz2 rfl trivial .i64 .i64 _ _ n rfl rfl rfl rfl (by omega) (by unfold maxLen; omega) HG1.out.size ?_
  intro w2 hown hgrow
  have HD := Lib.hid hown
  have HG2 := Lib.hid (grownN_trans HG1.out hgrow)
  have HK2 := Lib.hid (And.intro (hgrow.cell HK1.out.1 (by simp)) (hgrow.cell HK1.out.2 (by simp)))
  have HGQ := Lib.hid hgrow
  have hg9 : W0.drew.heap.size < w2.heap.size := (hown.lt _ rfl).2
  have hg8 : w.heap.size ≤ W0.drew.heap.size := HG1.out.size
  have HG9 := Lib.hid (And.intro hg8 hg9)
  clear hown hgrow hg8 hg9
  (try simp only [Act.put, List.getElem_toArray, List.getElem_cons_succ, List.getElem_cons_zero, List.setIfInBounds_toArray, List.set_cons_zero, List.set_cons_succ])
  refine hK.out _ _ ?_ (fun hHeld => ?_)
  · exact HK2.out
  clear hK K
  generalize W0.drew.heap.size = g at *
  refine wpAnyH_take (i := 4) (v := ?_) rfl (by kernel_rfl) (by kernel_rfl) (by kernel_rfl) (fun _ _ _ h => h) (Or.inl ⟨by rfl, ?_⟩) (by assumption) ?_; rotate_left; (focus (intro wS hSw; (try dsimp only at hSw); go_simp <;> with_reducible rfl)); (try simp only [Act.put, List.getElem_toArray, List.getElem_cons_succ, List.getElem_cons_zero, List.setIfInBounds_toArray, List.set_cons_zero, List.set_cons_succ])
  have hg3 := World.grownBy_alloc w2 (.cells #[.int .i64 m, .int .i64 (n : Nat), .slice (some ⟨g, 0, none⟩) n n, .int .i64 0] 194 (0, 0)) none
  have HB3 := Lib.hid (box_new w2 #[.int .i64 m, .int .i64 (n : Nat), .slice (some ⟨g, 0, none⟩) n n, .int .i64 0] 194)
  have HG3 := Lib.hid (grownN_trans HG2.out hg3)
  have HD3 := Lib.hid (HD.out.grown hg3)
  have HK3 := Lib.hid (And.intro (hg3.cell HK2.out.1 (by simp)) (hg3.cell HK2.out.2 (by simp)))
  clear hg3
  refine wpAnyH_ready (rs := [5]) (by kernel_rfl) (by simp) ?_
  refine AllReadyH.cons rfl (fun K hK => ?_) AllReadyH.nil
  go_simp
  refine hK.out _ _ ?_ (fun hHeld => ?_)
  · exact HK3.out
  clear hK K
  (try simp only [Act.put, List.getElem_toArray, List.getElem_cons_succ, List.getElem_cons_zero, List.setIfInBounds_toArray, List.set_cons_zero, List.set_cons_succ])
  refine wpAnyH_take (i := 6) (v := ?_) rfl (by kernel_rfl) (by kernel_rfl) (by kernel_rfl) (fun _ _ _ h => h) (Or.inl ⟨by rfl, ?_⟩) (by assumption) ?_; rotate_left; (focus (intro wS hSw; (try dsimp only at hSw); go_simp <;> with_reducible rfl)); (try simp only [Act.put, List.getElem_toArray, List.getElem_cons_succ, List.getElem_cons_zero, List.setIfInBounds_toArray, List.set_cons_zero, List.set_cons_succ])
  refine wpAnyH_done (by kernel_rfl) ?_ _
  (try simp only [Act.put, List.getElem_toArray, List.getElem_cons_succ, List.getElem_cons_zero, List.setIfInBounds_toArray, List.set_cons_zero, List.set_cons_succ])
  have hws : w.heap.size ≤ w2.heap.size := HG2.out.size
  have HW3 : Hid (Wx (w2.alloc (.cells #[.int .i64 m, .int .i64 (n : Nat), .slice (some ⟨g, 0, none⟩) n n, .int .i64 0] 194 (0, 0))) w.heap.size w2.heap.size m n (L.take 0)) :=
    ⟨List.replicate n encB.dflt, 0, g, n, HB3.out, HD3.out, by rw [List.take_zero]; exact Ring.start h1, by have := HG9.out.2; omega, hws, h10, i64_mk HM.out⟩
  clear HD HD3 HB3 HG2 HK HK1 HK2 HK3 HG0 HG1 HB
  generalize w2.alloc (.cells #[.int .i64 m, .int .i64 (n : Nat), .slice (some ⟨g, 0, none⟩) n n, .int .i64 0] 194 (0, 0)) = W3 at *
  obtain ⟨b, hb⟩ : ∃ b, b = w2.heap.size := ⟨_, rfl⟩
  rw [← hb] at HW3 ⊢
  clear hb
  go_wp2
  go_loopw [16] (fun i wr => ∃ j : Nat, j ≤ L.length ∧ i = .int .i64 j ∧ Hid (Wx wr w.heap.size b m n (L.take j)) ∧ Hid (w.grownBy wr none)) (fun i _ => L.length - (intOf i).toNat)
  case atStart => exact ⟨0, Nat.zero_le _, rfl, HW3, HG3⟩
  case round =>
    obtain ⟨j, hj, rfl, HWj, HGj⟩ := hrel
    by_cases hlt : j < L.length
    · obtain ⟨x, hx⟩ : ∃ x, x = L.getD j false := ⟨_, rfl⟩
      obtain ⟨ab, ao, rfl, hab, hc0⟩ := HV.out.at_rowB hlt
      have hcj : wr.cell? ⟨ab, ao + j, none⟩ = some (.bool (L.getD j false)) := HGj.out.cell hc0 (by simp)
      have hT : L.take (j + 1) = L.take j ++ [x] := by rw [List.take_add_one, hx]; congr 1; simp [hlt]
      rw [← hx] at hcj
      have HT := Lib.hid hT
      clear hx hc0 hab hT
      go_wp2_with (go_at_call 188; refine (pass_any _ w.heap.size b m n (L.take j) x HWj.out).mono ?_; rintro e w5 ⟨rfl, hw5, hb5⟩; have HW5 := Lib.hid hw5; have HB5 := Lib.hid hb5; clear hw5 hb5)
      go_roundw
      case rel => exact ⟨j + 1, by omega, by go_num, by rw [HT.out]; exact HW5, below_grown ((grown_below HGj.out _ (Nat.le_refl _)).trans HB5.out)⟩
      case measure => simp [intOf]; omega
    · have : j = L.length := by omega
      subst this
      go_wp2
      go_ret
      exact ⟨b, rfl, by have := HWj.out; rw [List.take_length] at this; exact this, HGj.out⟩
end Go.Proofs.YtonalkamfgpokaaGreat.StI

namespace Go.Proofs.YtonalkamfgpokaaGreat.StormS
open Go.RowKit Kit Rw Rg Stm Md

end Go.Proofs.YtonalkamfgpokaaGreat.StormS

namespace Go.Proofs.YtonalkamfgpokaaGreat.StormS
open Go.RowKit Kit Rw Rg Stm Md

theorem info_bool : (Tryz.prog.info? 4).map (fun i => (i.zero, i.size, i.bytes)) = some (some (.bool false), 1, 1) := by kernel_rfl
theorem from_block {a : Option Addr} {n cap i k m m' : Nat} {c : Nat} (h : (Value.slice (if cap = i then a else a.map (fun x => x.add k)) m m').ownBlock = some c) : (Value.slice a n cap).ownBlock = some c := by
  split at h
  · cases a with
    | none => simp [Value.ownBlock] at h
    | some x => simpa [Value.ownBlock] using h
  · cases a with
    | none => simp [Value.ownBlock] at h
    | some x =>
      simp only [Value.ownBlock, Option.map_some] at h ⊢
      rw [← h]
      simp only [Addr.add]
      split <;> rfl
set_option maxHeartbeats 1000000 in
theorem sAddDay_any (w : World) (v : Value) (L : List Bool) (b : Bool) (hv : SeesG encB w v L) (hL : L.length ≤ 100000000) :
    Calls Tryz.prog 99 #[v, .bool b] w fun e w' => ∃ u, e = .returned u ∧ SeesG encB w' u (addDay L b) ∧ (∀ c, u.ownBlock = some c → w.heap.size ≤ c ∧ c < w'.heap.size) ∧ w.grownBy w' none := by
  have hg0 := World.grownBy_alloc w (.cells #[] 4 (0, 0)) none
  have HV := Lib.hid (hv.grown hg0)
  have HW : Hid (OwnG encB 4 (w.alloc (.cells #[] 4 (0, 0))) w.heap.size (.slice (some ⟨w.heap.size, 0, none⟩) 0 0) []) := ownG_empty w
  have HG := Lib.hid hg0
  clear hv hg0
  obtain ⟨i0, hi, hz0, hz1, hz2⟩ := info_parts info_bool
  obtain ⟨i, hii⟩ : ∃ i, i = L.length + 1 - 10 := ⟨_, rfl⟩
  have hmx : mx 0 ((L.length : Int) + 1 - 10) = i := by unfold mx; split <;> omega
  have hM := fun w => sMax_any 0 ((L.length : Int) + 1 - 10) w
  rw [hmx] at hM
  have HM := Lib.hid hM
  have HI := Lib.hid hii
  have hil : i ≤ L.length + 1 := by omega
  clear hM hmx hii
  go_enter Tryz.func99, Tryz.ntmps99
  go_wp2_with (first
    | (at_builtin; refine wpListG_append_sees _ rfl _ _ 29 rfl w.heap.size 4 i0 (.bool false) 1 Tryz.underlying29 hi hz0 hz1 hz2 rfl _ [] rfl HW.out v L rfl HV.out (by unfold maxLen; simp; omega) (by simp; omega) HG.out.size ?_; intro v3 w3 hown3 hgrow3; rw [List.nil_append] at hown3; have HO3 := Lib.hid hown3; have HG3 := Lib.hid (grown_new HG.out hgrow3 (fun c hc => (HW.out.lt c hc).1)); clear hown3 hgrow3)
    | (at_builtin; go_loud (refine wpListG_append_one _ rfl _ _ 29 rfl w.heap.size 4 i0 (.bool false) 1 Tryz.underlying29 hi hz0 hz1 hz2 rfl _ L rfl HO3.out b #[.bool b] rfl rfl trivial (by omega) (by decide) HG3.out.size ?_); intro v4 w4 hown4 hgrow4 hnew4; have HO4 := Lib.hid hown4; have HG4 := Lib.hid (grown_new HG3.out hgrow4 (fun c hc => (HO3.out.lt c hc).1)); obtain ⟨a4, n4, c4, hv4, HN4⟩ := hown4.sees.shape; subst hv4; clear hown4 hgrow4 hnew4))
  have hn4 : n4 = L.length + 1 := by have := HN4.out; simp at this; omega
  have hw4 : wrap64 ((n4 : Int) - 10) = (L.length : Int) + 1 - 10 := by
    unfold wrap64; omega
  have hin : i ≤ n4 := by omega
  have hcap := HO4.out.sees.caps
  have hi2 : i ≤ c4 := by omega
  have hci : ¬ c4 = i := by have := HI.out; omega
  clear hn4 hil
  go_at_call 141
  rw [hw4]
  refine (HM.out _).mono ?_
  rintro e w5 ⟨rfl, rfl⟩
  go_wp2
  go_ret
  have hs := seesG_from HO4.out.sees (i := i) (k := i) (by rw [HN4.out]; exact hin) (by simp [encB])
  rw [if_neg hci] at hs
  refine ⟨_, rfl, by rw [addDay, ← HI.out]; exact hs, fun c hc => HO4.out.lt c ?_, HG4.out⟩
  exact from_block (i := i) (k := i) (by rw [if_neg hci]; exact hc)
end Go.Proofs.YtonalkamfgpokaaGreat.StormS

namespace Go.Proofs.YtonalkamfgpokaaGreat.StI
open Go.RowKit Kit Rw Rg Stm Md StormS

set_option maxRecDepth 20000 in
set_option maxHeartbeats 1000000 in
theorem iMayStorm_any (w : World) (m n : Int) (hm : (Lit.int .i64 m).wf = true) (hn : (Lit.int .i64 n).wf = true) (v : Value) (L : List Bool) (hv : SeesG encB w v L) :
    Calls Tryz.prog 101 #[.agg #[.int .i64 m, .int .i64 n], v] w fun e w' => e = .returned (.bool (mayStorm m n L)) ∧ w.grownBy w' none := by
  have hl := hv.len
  have hgr := World.grownBy_alloc w (.cells #[.int .i64 m, .int .i64 n] 38 (0, 0)) none
  have HV := Lib.hid hv
  have HG := Lib.hid hgr
  have HB := Lib.hid (box_new w #[.int .i64 m, .int .i64 n] 38)
  obtain ⟨c0, c1⟩ := two HB.out
  clear hgr
  have hs := fun w => iIsRule_any w m n hm hn
  cases h : isRule m n
  · rw [h] at hs
    have HS := Lib.hid hs
    have HF : Hid (mayStorm m n L = false) := by show _ = _; unfold mayStorm; rw [h, Bool.false_and]
    clear hs h hm hn
    go_enter Tryz.func101, Tryz.ntmps101
    go_wp2_with fail
    refine (HS.out _).mono ?_
    rintro e w2 ⟨rfl, hg⟩
    have HG2 := Lib.hid (grownN_trans HG.out hg)
    clear hg
    go_wp2
    go_ret
    exact ⟨ret_bool HF.out.symm, HG2.out⟩
  · rw [h] at hs
    obtain ⟨M, N, rfl, rfl, hMN, hN⟩ := rule_nat h
    have HS := Lib.hid hs
    have HF : Hid (mayStorm (M : Int) (N : Int) L = decide (lastN (N - 1) L < M)) := mayStorm_may h
    have ha := fun w hv => after_any w (M : Int) N v L hm (by omega) hN hv
    have HA := Lib.hid ha
    clear hs h ha hm hn hv
    go_enter Tryz.func101, Tryz.ntmps101
    go_wp2_with fail
    refine (HS.out _).mono ?_
    rintro e w2 ⟨rfl, hg⟩
    have HG2 := Lib.hid (grownN_trans HG.out hg)
    obtain ⟨d0, d1⟩ := two (HB.out.grown hg)
    clear hg c0 c1
    go_wp2_with fail
    refine (HA.out _ (HV.out.grown HG2.out)).mono ?_
    rintro e w3 ⟨b, rfl, hW, hg⟩
    have HG3 := Lib.hid (grownN_trans HG2.out hg)
    have HW := Lib.hid hW
    clear hg hW d0 d1
    go_wp2_with fail
    refine (may_any _ _ b M N L HW.out).mono ?_
    rintro e w4 ⟨rfl, hg⟩
    have HG4 := Lib.hid (grownN_trans HG3.out hg)
    clear hg
    go_wp2
    go_ret
    exact ⟨ret_bool HF.out.symm, HG4.out⟩

set_option maxHeartbeats 1000000 in
theorem copyB_any (w : World) (v : Value) (X : List Bool) (r : Int) (hv : SeesG encB w v X) (h0 : 0 ≤ r) (hn : X.length + r ≤ 1000000000000) :
    Calls Tryz.prog 213 #[v, .int .i64 r] w fun e w' => ∃ u, e = .returned u ∧ OwnG encB 4 w' w.heap.size u X ∧ w.grownBy w' none := by
  have HV := Lib.hid hv
  obtain ⟨a, cap, rfl, _⟩ := hv
  obtain ⟨r, rfl⟩ : ∃ c : Nat, r = c := ⟨r.toNat, by omega⟩
  obtain ⟨i0, hi, hz0, hz1, hz2⟩ := info_parts StI.info_bool
  go_enter Tryz.func213, Tryz.ntmps213
  go_wp2_with (first
    | (at_make; refine wpList_make_own _ rfl _ _ 29 rfl w.heap.size 4 i0 (.bool false) 1 Tryz.underlying29 hi hz0 hz1 .i64 .i64 _ (X.length + r) rfl rfl (by simp) (by rw [hz2]; omega) (by unfold maxLen; omega) (Nat.le_refl _) ?_; intro w1 hown hgrow; have HS := Lib.hid (HV.out.grown hgrow); have HO : Hid (OwnG encB 4 w1 w.heap.size _ []) := ⟨hown, fun _ h => by cases h⟩; have HG := Lib.hid hgrow; clear hown hgrow)
    | (at_builtin; go_loud (refine wpListG_append_sees _ rfl _ _ 29 rfl w.heap.size 4 i0 (.bool false) 1 Tryz.underlying29 hi hz0 hz1 hz2 rfl _ [] rfl HO.out _ X rfl HS.out (by unfold maxLen; simp; omega) (by simp; omega) (by exact HG.out.size) ?_); intro v2 w2 hown2 hgrow2; rw [List.nil_append] at hown2; have HO2 := Lib.hid hown2; have HG2 := Lib.hid hgrow2; clear hown2 hgrow2))
  go_ret
  exact ⟨_, rfl, HO2.out, grown_new HG.out HG2.out (fun c hc => (HO.out.lt c hc).1)⟩
end Go.Proofs.YtonalkamfgpokaaGreat.StI

namespace Go.Proofs.YtonalkamfgpokaaGreat.StI
open Go.RowKit Kit Rw Rg Stm Md StormS

set_option maxHeartbeats 1000000 in
theorem worstW_any (w : World) (m : Int) (n : Nat) (v : Value) (L : List Bool) (hm : (Lit.int .i64 m).wf = true) (h1 : 1 ≤ n) (h10 : n ≤ 10) (hv : SeesG encB w v L) :
    Calls Tryz.prog 214 #[.agg #[.int .i64 m, .int .i64 (n : Nat)], v] w fun e w' => ∃ b g cap p, e = .returned (.func (.func 225) #[] #[.pointer (some ⟨p, 0, none⟩)]) ∧
      Wy w' w.heap.size b g cap m n L ∧ Box w' p #[.pointer (some ⟨b, 0, none⟩)] 158 ∧ p ≠ b ∧ p ≠ g ∧ w.grownBy w' none := by
  have hgr := World.grownBy_alloc w (.cells #[.int .i64 m, .int .i64 (n : Nat)] 38 (0, 0)) none
  have HV := Lib.hid (hv.grown hgr)
  have HG := Lib.hid hgr
  obtain ⟨c0, c1⟩ := two (box_new w #[.int .i64 m, .int .i64 (n : Nat)] 38)
  have ha := fun w hv => after_any w m n v L hm h1 h10 hv
  have HA := Lib.hid ha
  clear hgr ha hm hv
  have hmf : ∀ (fn : Fn) (first cap : Array Value) (w : World), (Instr.makeFunc fn first cap).run Tryz.prog w = .ok (.func fn first cap) w := fun _ _ _ _ => rfl
  go_enter Tryz.func214, Tryz.ntmps214
  go_wp2_with fail
  refine (HA.out _ HV.out).mono ?_
  rintro e w2 ⟨b, rfl, hW, hg⟩
  obtain ⟨gg, cap, hW⟩ := hW.one
  have HG2 := Lib.hid (grownN_trans HG.out hg)
  have hga := World.grownBy_alloc w2 (.cells #[.pointer (some ⟨b, 0, none⟩)] 158 (0, 0)) none
  have HG3 := Lib.hid (grownN_trans HG2.out hga)
  have HW3 := Lib.hid (hW.grown hga)
  have HB3 := Lib.hid (box_new w2 #[.pointer (some ⟨b, 0, none⟩)] 158)
  have hbg : b < w2.heap.size ∧ gg < w2.heap.size := by
    obtain ⟨D, t, h1, h2, _⟩ := hW
    exact ⟨h1.lt, (h2.lt gg rfl).2⟩
  have HN := Lib.hid hbg
  have HZ := Lib.hid (World.size_alloc w (.cells #[.int .i64 m, .int .i64 (n : Nat)] 38 (0, 0)))
  clear hg hW hga c0 c1 hbg
  go_wp2
  go_ret
  have hN := HN.out
  refine ⟨b, gg, cap, w2.heap.size, rfl, ?_, HB3.out, by omega, by omega, HG3.out⟩
  obtain ⟨D, t, q1, q2, q3, q4, q5, q6⟩ := HW3.out
  have hz := HZ.out
  exact ⟨D, t, q1, q2.lower (by omega), q3, q4, by omega, q6⟩

end Go.Proofs.YtonalkamfgpokaaGreat.StI

namespace Go.Proofs.YtonalkamfgpokaaGreat.StI
open Go.RowKit Kit Rw Rg Stm Md StormS

def slen : Value → Nat
  | .slice _ n _ => n
  | _ => 0
end Go.Proofs.YtonalkamfgpokaaGreat.StI

namespace Go.Proofs.YtonalkamfgpokaaGreat.Mn
open Go.RowKit Kit Rw
def least (a b : Int) : Int := if b < a then b else a
theorem least_lt {a b : Int} (h : b < a) : least a b = b := by unfold least; rw [if_pos h]
theorem least_ge {a b : Int} (h : a ≤ b) : least a b = a := by unfold least; rw [if_neg (by omega)]

set_option maxHeartbeats 400000 in
theorem foremost_min (a b : Int) (w : World) (p : Addr) (hc : w.cell? p = some (.int .i64 b)) :
    Calls Tryz.prog 200 #[.func (.func 208) #[] #[], .int .i64 a, .slice (some p) 1 1] w fun e w' => e = .returned (.int .i64 (least a b)) ∧ w = w' := by
  go_enter Tryz.func200, Tryz.ntmps200
  go_wp2
  go_loop [7, 13] (fun v i => (i = .int .i64 0 ∧ v = .int .i64 a) ∨ (i = .int .i64 1 ∧ v = .int .i64 (least a b))) (fun _ i => 1 - (intOf i).toNat)
  case atStart => exact Or.inl ⟨rfl, rfl⟩
  case round =>
    rcases hrel with ⟨rfl, rfl⟩ | ⟨rfl, rfl⟩
    · by_cases h : b < a
      · go_wp2
        go_round
        case rel => exact Or.inr ⟨rfl, by rw [least_lt (by omega)]⟩
        case measure => simp [intOf]
      · go_wp2
        go_round
        case rel => exact Or.inr ⟨rfl, by rw [least_ge (by omega)]⟩
        case measure => simp [intOf]
    · go_wp2
      go_ret
      exact ⟨rfl, rfl⟩

theorem min_any (a b : Int) (w : World) :
    Calls Tryz.prog 190 #[.int .i64 a, .int .i64 b] w fun e w' => e = .returned (.int .i64 (least a b)) ∧ w.grownBy w' none := by
  have hc : (w.alloc (.cells #[.int .i64 b] 3)).cell? ⟨w.heap.size, 0, none⟩ = some (.int .i64 b) := by go_simp
  go_enter Tryz.func190, Tryz.ntmps190
  go_wp2_with (go_at_call 200; refine (foremost_min _ _ _ _ hc).mono ?_; rintro e w' ⟨rfl, rfl⟩)
  go_ret
  exact ⟨rfl, World.grownBy_alloc _ _ _⟩
def most (a b : Int) : Int := if a < b then b else a
theorem most_gt {a b : Int} (h : a < b) : most a b = b := by unfold most; rw [if_pos h]
theorem most_le {a b : Int} (h : b ≤ a) : most a b = a := by unfold most; rw [if_neg (by omega)]
set_option maxHeartbeats 400000 in
theorem foremost_max (a b : Int) (w : World) (p : Addr) (hc : w.cell? p = some (.int .i64 b)) :
    Calls Tryz.prog 200 #[.func (.func 201) #[] #[], .int .i64 a, .slice (some p) 1 1] w fun e w' => e = .returned (.int .i64 (most a b)) ∧ w = w' := by
  go_enter Tryz.func200, Tryz.ntmps200
  go_wp2
  go_loop [7, 13] (fun v i => (i = .int .i64 0 ∧ v = .int .i64 a) ∨ (i = .int .i64 1 ∧ v = .int .i64 (most a b))) (fun _ i => 1 - (intOf i).toNat)
  case atStart => exact Or.inl ⟨rfl, rfl⟩
  case round =>
    rcases hrel with ⟨rfl, rfl⟩ | ⟨rfl, rfl⟩
    · by_cases h : a < b
      · go_wp2
        go_round
        case rel => exact Or.inr ⟨rfl, by rw [most_gt (by omega)]⟩
        case measure => simp [intOf]
      · go_wp2
        go_round
        case rel => exact Or.inr ⟨rfl, by rw [most_le (by omega)]⟩
        case measure => simp [intOf]
    · go_wp2
      go_ret
      exact ⟨rfl, rfl⟩

theorem max_any (a b : Int) (w : World) :
    Calls Tryz.prog 163 #[.int .i64 a, .int .i64 b] w fun e w' => e = .returned (.int .i64 (most a b)) ∧ w.grownBy w' none := by
  have hc : (w.alloc (.cells #[.int .i64 b] 3)).cell? ⟨w.heap.size, 0, none⟩ = some (.int .i64 b) := by go_simp
  go_enter Tryz.func163, Tryz.ntmps163
  go_wp2_with (go_at_call 200; refine (foremost_max _ _ _ _ hc).mono ?_; rintro e w' ⟨rfl, rfl⟩)
  go_ret
  exact ⟨rfl, World.grownBy_alloc _ _ _⟩
end Go.Proofs.YtonalkamfgpokaaGreat.Mn
