/- Plain facts on depots: no program. Plain facts on valid depots: no program. 'append(v, u...)' at a step of a region that draws its order: v a row of the call's own, u whatever reads so. No condition. Contracts of the library's slices.Clone at bools and at depots. Contract of the library's slices.Clone at members. Contract of the model's copy of a party. -/
import Derived.Test.YtonalkamfgpokaaGreatG1
import Derived.Test.YtonalkamfgpokaaGreatMBase
import Derived.Laws.AppendOwn
import Derived.Maps.AppendAt
import Derived.Laws.AppendOwnNone
import Derived.Deep.AppendLies
import Derived.Test.YtonalkamfgpokaaGreatRowM
import Derived.Lib.SliceRun
import Derived.Test.YtonalkamfgpokaaGreatG5
import Derived.Test.YtonalkamfgpokaaGreatG6
import Derived.Deep.RegionHeld3
namespace Go.Proofs.YtonalkamfgpokaaGreat.Dep
def dP : Int × Int := (0, 0)
def foodAt : List (Int × Int) → Int → Int
  | [], _ => 0
  | d :: L, c => if d.1 = c then d.2 else foodAt L c
theorem foodAt_at : ∀ {L : List (Int × Int)} {c : Int} {j : Nat}, j < L.length → (∀ k, k < j → (L.getD k dP).1 ≠ c) → (L.getD j dP).1 = c → foodAt L c = (L.getD j dP).2
  | [], _, _, h, _, _ => by simp at h
  | d :: L, c, 0, _, _, h => by
    have h : d.1 = c := h
    show (if d.1 = c then d.2 else foodAt L c) = d.2
    rw [if_pos h]
  | d :: L, c, j + 1, hj, hn, h => by
    have h0 : d.1 ≠ c := hn 0 (by omega)
    show (if d.1 = c then d.2 else foodAt L c) = _
    rw [if_neg h0]
    exact foodAt_at (L := L) (by simpa using hj) (fun k hk => hn (k + 1) (by omega)) h
theorem foodAt_none : ∀ {L : List (Int × Int)} {c : Int}, (∀ k, k < L.length → (L.getD k dP).1 ≠ c) → foodAt L c = 0
  | [], _, _ => rfl
  | d :: L, c, hn => by
    have h0 : d.1 ≠ c := hn 0 (by simp)
    show (if d.1 = c then d.2 else foodAt L c) = 0
    rw [if_neg h0]
    exact foodAt_none (L := L) (fun k hk => hn (k + 1) (by simpa using hk))
/-- What a depot counts for. -/
def cl (x : Int) : Int := if x < 0 then 0 else if 10000 < x then 10000 else x
def tot (L : List (Int × Int)) (j : Nat) : Int := ((L.take j).map (fun d => cl d.2)).sum
end Go.Proofs.YtonalkamfgpokaaGreat.Dep

namespace Go.Proofs.YtonalkamfgpokaaGreat.Dep
open Ld

def okDep (W H : Int) (X : List Int) (d : Int × Int) : Bool := isOpen W H X d.1 && decide (1 ≤ d.2 ∧ d.2 ≤ 10000)
/-- The first j depots are valid, and ascend. -/
def upD (W H : Int) (X : List Int) (L : List (Int × Int)) (j : Nat) : Prop := ∀ i, i < j → okDep W H X (L.getD i dP) = true ∧ (0 < i → (L.getD (i - 1) dP).1 < (L.getD i dP).1)
instance (W H : Int) (X : List Int) (L : List (Int × Int)) (j : Nat) : Decidable (upD W H X L j) := by unfold upD; infer_instance
def areDep (W H : Int) (X : List Int) (L : List (Int × Int)) : Bool := isLand W H X && (decide (L.length ≤ 20) && decide (upD W H X L L.length))
section
variable {W H : Int} {X : List Int} {L : List (Int × Int)}
theorem upD_zero : upD W H X L 0 := fun i h => absurd h (Nat.not_lt_zero _)
theorem upD_next {j : Nat} (h : upD W H X L j) (h1 : okDep W H X (L.getD j dP) = true) (h2 : 0 < j → (L.getD (j - 1) dP).1 < (L.getD j dP).1) : upD W H X L (j + 1) := fun i hi => by
  by_cases h' : i < j
  · exact h i h'
  · obtain rfl : i = j := by omega
    exact ⟨h1, h2⟩
theorem dep_yes (h0 : isLand W H X = true) (h1 : L.length ≤ 20) (h2 : upD W H X L L.length) : areDep W H X L = true := by
  unfold areDep; rw [h0, decide_eq_true h1, decide_eq_true h2]; rfl
theorem dep_land (h0 : isLand W H X = false) : areDep W H X L = false := by unfold areDep; rw [h0]; rfl
theorem dep_long (h1 : ¬ L.length ≤ 20) : areDep W H X L = false := by unfold areDep; rw [decide_eq_false h1]; simp
theorem dep_bad {j : Nat} (hj : j < L.length) (h : okDep W H X (L.getD j dP) = false ∨ (0 < j ∧ ¬ (L.getD (j - 1) dP).1 < (L.getD j dP).1)) : areDep W H X L = false := by
  unfold areDep
  have : ¬ upD W H X L L.length := fun hu => by
    have := hu j hj
    rcases h with h | ⟨h0, h⟩
    · rw [this.1] at h; cases h
    · exact h (this.2 h0)
  rw [decide_eq_false this, Bool.and_false, Bool.and_false]
theorem open_pos {n : Int} (h : isOpen W H X n = true) : 0 ≤ n := (isCell_of (isOpen_of h).1).2.1
/-- The cell before the jth depot; -1: none. -/
def beforeD (L : List (Int × Int)) : Nat → Int
  | 0 => -1
  | j + 1 => (L.getD j dP).1
end
end Go.Proofs.YtonalkamfgpokaaGreat.Dep

namespace Go.Proofs.YtonalkamfgpokaaGreat.Rg
open Go.RowKit Kit Rw

/-- The same, and where the new value lies: where the old one did, or in a block that is made now. -/
theorem stepG_append_at {α : Type} {e : Enc α} {P : Program} (w : World) {ops : Array Oper} {o : Oper} {a : Act} {K : Act → World → Prop} {Q : Exit → Act → World → Prop} {Z : Prop} (hgd : o.guard = none) (s x : Operand) (t : TypeId)
    (ho : o.op = .call { callee := .builtin .append, args := #[s, x], argTypes := #[t, t] })
    (base : Nat) (E : TypeId) (i : TypeInfo) (z : Value) (bytes : Nat) (ht : P.underlying t = some (.slice E)) (hi : P.info? E = some i) (hz : i.zero = some z)
    (hsize : i.size = e.size) (hby : i.bytes = bytes) (hzs : z.cells.size = e.size)
    (v : Value) (L : List α) (hs : a.eval s = v) (hown : OwnG e E w base v L) (u : Value) (M : List α) (hx : a.eval x = u) (hu : SeesG e w u M)
    (h63 : L.length + M.length ≤ maxLen) (hbytes : (L.length + M.length) * bytes ≤ 140737488355328) (hbase : base ≤ w.heap.size)
    (h : ∀ v' w', OwnG e E w' base v' (L ++ M) → w.grownBy w' v.ownBlock → (v'.ownBlock = v.ownBlock ∨ v'.ownBlock = some w.heap.size) → K (a.put o.dst v') w') :
    if Region.wanted o (yielded ops a.tmps) = true then Oper.wp P o a w K Q else Z := by
  have hw : Region.wanted o (yielded ops a.tmps) = true := by simp [Region.wanted, hgd]
  rw [if_pos hw]
  obtain ⟨ho1, hw1⟩ := hown
  have hok := hu.ok
  obtain ⟨ad, cap, rfl, hlc, hcm, hnil, _, hcell⟩ := hu
  have hall : ∀ x ∈ L ++ M, e.ok x := fun x hx => by
    rcases List.mem_append.1 hx with h | h
    · exact hw1 x h
    · exact hok x h
  cases ad with
  | none =>
    have hc := hnil rfl
    subst hc
    have hM : M = [] := List.eq_nil_of_length_eq_zero (by omega)
    subst hM
    have hrun := run_append_owned_none (P := P) (w := w) base t o.type E i e.size ht hi v L.length _ ho1
    have hx' : a.eval x = .slice none 0 0 := by simpa using hx
    unfold Oper.wp
    simp [execOp, ho, resolve, invoke, builtin, hs, hx', hrun, Result.andThen]
    exact h v w ⟨by simpa using ho1, hall⟩ (World.grownBy.refl w _) (.inl rfl)
  | some ad =>
    obtain ⟨v', w', hrun, r1, r2, _, r3⟩ := run_append_own_at (P := P) w base t o.type E i z e.size bytes ht hi hz hsize hby hzs e.pos v L.length _ ho1 ad M.length cap (flat e M) (flat_len M) (fun j y hy => by
      have hj : j < M.length * e.size := by rw [← flat_len]; exact (List.getElem?_eq_some_iff.1 hy).1
      rcases hcell with h0 | ⟨b, of, e', hc⟩
      · rw [h0] at hj; simp at hj
      · injection e' with e'
        subst e'
        rw [add_plain, hc j hj, hy]) flat_one h63 hbytes hbase
    unfold Oper.wp
    simp [execOp, ho, resolve, invoke, builtin, hs, hx, hrun, Result.andThen]
    exact h v' w' ⟨by rw [List.length_append, flat_app]; exact r1, hall⟩ r2 r3

/-- Two rows in different blocks. -/
def ApartU (t u : Value) : Prop := (t.ownBlock = none ∨ t.ownBlock ≠ u.ownBlock) ∧ (u.ownBlock = none ∨ u.ownBlock ≠ t.ownBlock)
theorem ApartU.symm {t u : Value} (h : ApartU t u) : ApartU u t := ⟨h.2, h.1⟩
theorem apartU_new {α : Type} {e : Enc α} {E : TypeId} {w : World} {base : Nat} {v u : Value} {L : List α} (h : OwnG e E w base v L) (hu : u.ownBlock = some w.heap.size) : ApartU v u := by
  have hn : v.ownBlock ≠ some w.heap.size := fun e => by have := (h.lt _ e).2; omega
  exact ⟨.inr (by rw [hu]; exact hn), .inr (by rw [hu]; exact hn.symm)⟩
theorem apartU_step {α : Type} {e : Enc α} {E : TypeId} {w : World} {base : Nat} {v v' u : Value} {L : List α} (h : OwnG e E w base u L) (ha : ApartU v u) (hv : v'.ownBlock = v.ownBlock ∨ v'.ownBlock = some w.heap.size) : ApartU v' u := by
  rcases hv with hv | hv
  · exact ⟨by rw [hv]; exact ha.1, by rw [hv]; exact ha.2⟩
  · exact (apartU_new h hv).symm
end Go.Proofs.YtonalkamfgpokaaGreat.Rg

namespace Go.Proofs.YtonalkamfgpokaaGreat.Cln
open Go.RowKit Kit Rw Rg

theorem info_boolC : (Tryz.prog.info? 4).map (fun i => (i.zero, i.size, i.bytes)) = some (some (.bool false), 1, 1) := by kernel_rfl
set_option maxRecDepth 20000 in
set_option maxHeartbeats 1000000 in
theorem cloneB_any (w : World) (v : Value) (L : List Bool) (hv : SeesG encB w v L) (hn : L.length ≤ 1000000000) :
    Calls Tryz.prog 152 #[v] w fun e w' => ∃ u, e = .returned u ∧ OwnG encB 4 w' w.heap.size u L ∧ w.grownBy w' none := by
  have hg0 := World.grownBy_alloc w (.cells #[] 4 (0, 0)) none
  have HV := Lib.hid (hv.grown hg0)
  have HW : Hid (OwnG encB 4 (w.alloc (.cells #[] 4 (0, 0))) w.heap.size (.slice (some ⟨w.heap.size, 0, none⟩) 0 0) []) := ownG_empty w
  have HG := Lib.hid hg0
  clear hg0
  obtain ⟨a, cap, rfl, h1, h2, h3, _, _⟩ := hv
  obtain ⟨i0, hi, hz0, hz1, hz2⟩ := info_parts info_boolC
  have q : ∀ (w : World) (a : Option Addr) (n c n' c' : Nat), (binOp .eql 29 (.slice a n c) (.slice none n' c')).run Tryz.prog w = .ok (.bool a.isNone) w := fun w a n c n' c' => Lib.run_eql_slice_nil w _ _ a n c n' c' Tryz.underlying29
  cases a with
  | none =>
    have hc := h3 rfl
    have hL : L = [] := List.eq_nil_of_length_eq_zero (by omega)
    subst hL
    subst hc
    go_enter Tryz.func152, Tryz.ntmps152
    go_wp2
    go_ret
    exact ⟨_, rfl, ownG_nil, World.grownBy.refl _ _⟩
  | some ad =>
    clear h1 h2 h3
    go_enter Tryz.func152, Tryz.ntmps152
    go_wp2_with (at_builtin; go_loud (refine wpListG_append_sees _ rfl _ _ 29 rfl w.heap.size 4 i0 (.bool false) 1 Tryz.underlying29 hi hz0 hz1 hz2 rfl _ [] rfl HW.out _ L rfl HV.out (by unfold maxLen; simp; omega) (by simp; omega) HG.out.size ?_); intro v3 w3 hown3 hgrow3; rw [List.nil_append] at hown3; have HO3 := Lib.hid hown3; have HG3 := Lib.hid (grown_new HG.out hgrow3 (fun c hc => (HW.out.lt c hc).1)); clear hown3 hgrow3)
    go_ret
    exact ⟨_, rfl, HO3.out, HG3.out⟩
end Go.Proofs.YtonalkamfgpokaaGreat.Cln

namespace Go.Proofs.YtonalkamfgpokaaGreat.Cln
open Go.RowKit Kit Rw Rg

theorem info_mem : (Tryz.prog.info? 143).map (fun i => (i.zero, i.size, i.bytes)) = some (some (.agg #[.int .i64 0, .int .i64 0, .int .i64 0, .bool false]), 4, 32) := by kernel_rfl
set_option maxRecDepth 20000 in
set_option maxHeartbeats 1000000 in
theorem cloneM_any (w : World) (v : Value) (L : List Mem) (hv : SeesG encM w v L) (hn : L.length ≤ 1000000000) :
    Calls Tryz.prog 151 #[v] w fun e w' => ∃ u, e = .returned u ∧ OwnG encM 143 w' w.heap.size u L ∧ w.grownBy w' none := by
  have hg0 := World.grownBy_alloc w (.cells #[] 143 (0, 0)) none
  have HV := Lib.hid (hv.grown hg0)
  have HW : Hid (OwnG encM 143 (w.alloc (.cells #[] 143 (0, 0))) w.heap.size (.slice (some ⟨w.heap.size, 0, none⟩) 0 0) []) := ownG_empty w
  have HG := Lib.hid hg0
  clear hg0
  obtain ⟨a, cap, rfl, h1, h2, h3, _, _⟩ := hv
  obtain ⟨i0, hi, hz0, hz1, hz2⟩ := info_parts info_mem
  have q : ∀ (w : World) (a : Option Addr) (n c n' c' : Nat), (binOp .eql 40 (.slice a n c) (.slice none n' c')).run Tryz.prog w = .ok (.bool a.isNone) w := fun w a n c n' c' => Lib.run_eql_slice_nil w _ _ a n c n' c' Tryz.underlying40
  cases a with
  | none =>
    have hc := h3 rfl
    have hL : L = [] := List.eq_nil_of_length_eq_zero (by omega)
    subst hL
    subst hc
    go_enter Tryz.func151, Tryz.ntmps151
    go_wp2
    go_ret
    exact ⟨_, rfl, ownG_nil, World.grownBy.refl _ _⟩
  | some ad =>
    clear h1 h2 h3
    go_enter Tryz.func151, Tryz.ntmps151
    go_wp2_with (at_builtin; go_loud (refine wpListG_append_sees _ rfl _ _ 40 rfl w.heap.size 143 i0 (.agg #[.int .i64 0, .int .i64 0, .int .i64 0, .bool false]) 32 Tryz.underlying40 hi hz0 hz1 hz2 rfl _ [] rfl HW.out _ L rfl HV.out (by unfold maxLen; simp; omega) (by simp; omega) HG.out.size ?_); intro v3 w3 hown3 hgrow3; rw [List.nil_append] at hown3; have HO3 := Lib.hid hown3; have HG3 := Lib.hid (grown_new HG.out hgrow3 (fun c hc => (HW.out.lt c hc).1)); clear hown3 hgrow3)
    go_ret
    exact ⟨_, rfl, HO3.out, HG3.out⟩
end Go.Proofs.YtonalkamfgpokaaGreat.Cln

namespace Go.Proofs.YtonalkamfgpokaaGreat.Pc
open Go.RowKit Kit Rw Rg Four PartyL Cln

/-- How a call ends that hands out a party of its own. -/
def PartyOut (w w' : World) (u t : Value) (L : List Mem) (P : List Bool) : Prop := OwnG encM 143 w' w.heap.size u L ∧ OwnG encB 4 w' w.heap.size t P ∧ ApartU u t ∧ w.grownBy w' none

set_option maxRecDepth 20000 in
set_option maxHeartbeats 4000000 in
theorem copy_any (w : World) (n f : Int) (cv pv : Value) (L : List Mem) (P : List Bool) (hc : SeesG encM w cv L) (hp : SeesG encB w pv P) (hL : L.length ≤ 1000000000) (hP : P.length ≤ 1000000000) :
    Calls Tryz.prog 89 #[.agg #[.int .i64 n, .int .i64 f, cv, pv]] w fun e w' => ∃ u t, e = .returned (.agg #[.int .i64 n, .int .i64 f, u, t]) ∧ PartyOut w w' u t L P := by
  have g0 := World.grownBy_alloc w (.cells #[.int .i64 n, .int .i64 f, cv, pv] 42 (0, 0)) (none : Option Nat)
  have g1 := World.grownBy_alloc (w.alloc (.cells #[.int .i64 n, .int .i64 f, cv, pv] 42 (0, 0))) (.cells #[.int .i64 0, .int .i64 0, .slice none 0 0, .slice none 0 0] 42 (0, 0)) (none : Option Nat)
  have b0 := (box_new w #[.int .i64 n, .int .i64 f, cv, pv] 42).grown g1
  have b1 := box_new (w.alloc (.cells #[.int .i64 n, .int .i64 f, cv, pv] 42 (0, 0))) #[.int .i64 0, .int .i64 0, .slice none 0 0, .slice none 0 0] 42
  simp only [World.size_alloc] at b1
  have HG := Lib.hid (grownN_trans g0 g1)
  have HC := Lib.hid (hc.grown HG.out)
  have HP := Lib.hid (hp.grown HG.out)
  have B0 := Lib.hid b0
  have B1 := Lib.hid b1
  obtain ⟨c0, c1, c2, c3⟩ := four b0
  clear hc hp g0 g1 b0 b1
  obtain ⟨i0, hi, hz0, hz1, hz2⟩ := info_parts info_mem
  obtain ⟨j0, hj, hy0, hy1, hy2⟩ := info_parts info_boolC
  go_enter Tryz.func89, Tryz.ntmps89
  go_wp2_with fail
  generalize (w.alloc (.cells #[.int .i64 n, .int .i64 f, cv, pv] 42 (0, 0))).alloc (.cells #[.int .i64 0, .int .i64 0, .slice none 0 0, .slice none 0 0] 42 (0, 0)) = W at *
  have hkeep : ∀ w', W.grownBy w' none → (w'.cell? ⟨w.heap.size, 0, none⟩ = some (.int .i64 n) ∧ w'.cell? ⟨w.heap.size, 1, none⟩ = some (.int .i64 f) ∧ w'.cell? ⟨w.heap.size, 2, none⟩ = some cv ∧ w'.cell? ⟨w.heap.size, 3, none⟩ = some pv) := fun w' g => four (B0.out.grown g)
  have hd := grown_drew (World.grownBy.refl W none)
  refine wp_region_held_drew (S := fun w' => w'.cell? ⟨w.heap.size, 0, none⟩ = some (.int .i64 n) ∧ w'.cell? ⟨w.heap.size, 1, none⟩ = some (.int .i64 f) ∧ w'.cell? ⟨w.heap.size, 2, none⟩ = some cv ∧ w'.cell? ⟨w.heap.size, 3, none⟩ = some pv) (by kernel_rfl) (hkeep _ hd) (fun hHeld => ?_)
  have HWX0 := Lib.hid hd
  clear hd
  generalize W.drew = X0 at *
  refine wpAnyH_take (i := 0) (v := ?_) rfl (by kernel_rfl) (by kernel_rfl) (by kernel_rfl) (fun _ _ _ h => h) (Or.inl ⟨by rfl, ?_⟩) (by assumption) ?_; rotate_left; (focus (intro wS hSw; (try dsimp only at hSw); go_simp <;> with_reducible rfl)); (try simp only [Act.put, List.getElem_toArray, List.getElem_cons_succ, List.getElem_cons_zero, List.setIfInBounds_toArray, List.set_cons_zero, List.set_cons_succ])
  refine wpAnyH_take (i := 1) (v := ?_) rfl (by kernel_rfl) (by kernel_rfl) (by kernel_rfl) (fun _ _ _ h => h) (Or.inl ⟨by rfl, ?_⟩) (by assumption) ?_; rotate_left; (focus (intro wS hSw; (try dsimp only at hSw); go_simp <;> with_reducible rfl)); (try simp only [Act.put, List.getElem_toArray, List.getElem_cons_succ, List.getElem_cons_zero, List.setIfInBounds_toArray, List.set_cons_zero, List.set_cons_succ])
  refine wpAnyH_take (i := 2) (v := ?_) rfl (by kernel_rfl) (by kernel_rfl) (by kernel_rfl) (fun _ _ _ h => h) (Or.inl ⟨by rfl, ?_⟩) (by assumption) ?_; rotate_left; (focus (intro wS hSw; (try dsimp only at hSw); go_simp <;> with_reducible rfl)); (try simp only [Act.put, List.getElem_toArray, List.getElem_cons_succ, List.getElem_cons_zero, List.setIfInBounds_toArray, List.set_cons_zero, List.set_cons_succ])
  refine wpAnyH_take (i := 3) (v := ?_) rfl (by kernel_rfl) (by kernel_rfl) (by kernel_rfl) (fun _ _ _ h => h) (Or.inl ⟨by rfl, ?_⟩) (by assumption) ?_; rotate_left; (focus (intro wS hSw; (try dsimp only at hSw); go_simp <;> with_reducible rfl)); (try simp only [Act.put, List.getElem_toArray, List.getElem_cons_succ, List.getElem_cons_zero, List.setIfInBounds_toArray, List.set_cons_zero, List.set_cons_succ])
  refine wpAnyH_take (i := 5) (v := ?_) rfl (by kernel_rfl) (by kernel_rfl) (by kernel_rfl) (fun _ _ _ h => h) (Or.inl ⟨by rfl, ?_⟩) (by assumption) ?_; rotate_left; (focus (intro wS hSw; (try dsimp only at hSw); go_simp <;> with_reducible rfl)); (try simp only [Act.put, List.getElem_toArray, List.getElem_cons_succ, List.getElem_cons_zero, List.setIfInBounds_toArray, List.set_cons_zero, List.set_cons_succ])
  refine wpAnyH_take (i := 6) (v := ?_) rfl (by kernel_rfl) (by kernel_rfl) (by kernel_rfl) (fun _ _ _ h => h) (Or.inl ⟨by rfl, ?_⟩) (by assumption) ?_; rotate_left; (focus (intro wS hSw; (try dsimp only at hSw); go_simp <;> with_reducible rfl)); (try simp only [Act.put, List.getElem_toArray, List.getElem_cons_succ, List.getElem_cons_zero, List.setIfInBounds_toArray, List.set_cons_zero, List.set_cons_succ])
  refine wpAnyH_take (i := 9) (v := ?_) rfl (by kernel_rfl) (by kernel_rfl) (by kernel_rfl) (fun _ _ _ h => h) (Or.inl ⟨by rfl, ?_⟩) (by assumption) ?_; rotate_left; (focus (intro wS hSw; (try dsimp only at hSw); go_simp <;> with_reducible rfl)); (try simp only [Act.put, List.getElem_toArray, List.getElem_cons_succ, List.getElem_cons_zero, List.setIfInBounds_toArray, List.set_cons_zero, List.set_cons_succ])
  refine wpAnyH_take (i := 10) (v := ?_) rfl (by kernel_rfl) (by kernel_rfl) (by kernel_rfl) (fun _ _ _ h => h) (Or.inl ⟨by rfl, ?_⟩) (by assumption) ?_; rotate_left; (focus (intro wS hSw; (try dsimp only at hSw); go_simp <;> with_reducible rfl)); (try simp only [Act.put, List.getElem_toArray, List.getElem_cons_succ, List.getElem_cons_zero, List.setIfInBounds_toArray, List.set_cons_zero, List.set_cons_succ])
  refine wpAnyH_ready (rs := [4, 8]) (by kernel_rfl) (by simp) ?_
  refine AllReadyH.cons rfl (fun K hK => ?_) (AllReadyH.cons rfl (fun K hK => ?_) AllReadyH.nil)
  · go_simp
    have gn := World.grownBy_alloc X0 (.cells #[] 143 (0, 0)) (none : Option Nat)
    have hn := ownG_empty (e := encM) (E := 143) X0
    generalize hv : Value.slice (some ⟨X0.heap.size, 0, none⟩) 0 0 = vA at *
    have hvb : vA.ownBlock = some X0.heap.size := by rw [← hv]; rfl
    generalize X0.alloc (.cells #[] 143 (0, 0)) = x1 at *
    clear hv
    have HWx1 := Lib.hid (grownN_trans HWX0.out gn)
    have HOvAx1 := Lib.hid (hn.lower HWX0.out.size)
    clear gn hn hvb
    refine hK.out _ _ ?_ (fun hHeld => ?_)
    · exact hkeep _ HWx1.out
    clear hK K
    (try simp only [Act.put, List.getElem_toArray, List.getElem_cons_succ, List.getElem_cons_zero, List.setIfInBounds_toArray, List.set_cons_zero, List.set_cons_succ])
    refine wpAnyH_ready (rs := [7, 8]) (by kernel_rfl) (by simp) ?_
    refine AllReadyH.cons rfl (fun K hK => ?_) (AllReadyH.cons rfl (fun K hK => ?_) AllReadyH.nil)
    · refine stepG_append_at x1 (by rfl) _ _ 40 (by rfl) W.heap.size 143 i0 (.agg #[.int .i64 0, .int .i64 0, .int .i64 0, .bool false]) 32 Tryz.underlying40 hi hz0 hz1 hz2 rfl vA [] (by rfl) HOvAx1.out cv L (by rfl) (HC.out.grown HWx1.out) (by unfold maxLen; simp; omega) (by simp; omega) HWx1.out.size ?_
      intro u x2 ho hg hat
      rw [List.nil_append] at ho
      have HOux2 := Lib.hid ho
      have HWx2 := Lib.hid (grown_new HWx1.out hg (fun c hc => (HOvAx1.out.lt c hc).1))
      clear ho hg hat
      refine hK.out _ _ ?_ (fun hHeld => ?_)
      · exact hkeep _ HWx2.out
      clear hK K
      (try simp only [Act.put, List.getElem_toArray, List.getElem_cons_succ, List.getElem_cons_zero, List.setIfInBounds_toArray, List.set_cons_zero, List.set_cons_succ])
      refine wpAnyH_ready (rs := [8]) (by kernel_rfl) (by simp) ?_
      refine AllReadyH.cons rfl (fun K hK => ?_) AllReadyH.nil
      · go_simp
        have gn := World.grownBy_alloc x2 (.cells #[] 4 (0, 0)) (none : Option Nat)
        have hn := ownG_empty (e := encB) (E := 4) x2
        generalize hv : Value.slice (some ⟨x2.heap.size, 0, none⟩) 0 0 = vB at *
        have hvb : vB.ownBlock = some x2.heap.size := by rw [← hv]; rfl
        generalize x2.alloc (.cells #[] 4 (0, 0)) = x3 at *
        clear hv
        have HWx3 := Lib.hid (grownN_trans HWx2.out gn)
        have HOvBx3 := Lib.hid (hn.lower HWx2.out.size)
        have HOux3 := Lib.hid (HOux2.out.grown gn)
        have HAPx3 := Lib.hid (apartU_new HOux2.out hvb)
        clear gn hn hvb
        refine hK.out _ _ ?_ (fun hHeld => ?_)
        · exact hkeep _ HWx3.out
        clear hK K
        (try simp only [Act.put, List.getElem_toArray, List.getElem_cons_succ, List.getElem_cons_zero, List.setIfInBounds_toArray, List.set_cons_zero, List.set_cons_succ])
        refine wpAnyH_ready (rs := [11]) (by kernel_rfl) (by simp) ?_
        refine AllReadyH.cons rfl (fun K hK => ?_) AllReadyH.nil
        · refine stepG_append_at x3 (by rfl) _ _ 29 (by rfl) W.heap.size 4 j0 (.bool false) 1 Tryz.underlying29 hj hy0 hy1 hy2 rfl vB [] (by rfl) HOvBx3.out pv P (by rfl) (HP.out.grown HWx3.out) (by unfold maxLen; simp; omega) (by simp; omega) HWx3.out.size ?_
          intro t x4 ho hg hat
          rw [List.nil_append] at ho
          have HOtx4 := Lib.hid ho
          have HWx4 := Lib.hid (grown_new HWx3.out hg (fun c hc => (HOvBx3.out.lt c hc).1))
          have HOux4 := Lib.hid (HOux3.out.kept hg HAPx3.out.1)
          have HAPx4 := Lib.hid ((apartU_step HOux3.out (HAPx3.out).symm hat).symm)
          clear ho hg hat
          refine hK.out _ _ ?_ (fun hHeld => ?_)
          · exact hkeep _ HWx4.out
          clear hK K
          (try simp only [Act.put, List.getElem_toArray, List.getElem_cons_succ, List.getElem_cons_zero, List.setIfInBounds_toArray, List.set_cons_zero, List.set_cons_succ])
          have hU := HOux4.out.sees.shape
          have hT := HOtx4.out.sees.shape
          obtain ⟨ua, un, uc, hu, HUN⟩ := hU
          obtain ⟨ta, tn, tc, ht, HTN⟩ := hT
          subst hu
          subst ht
          refine wpAnyH_take (i := 12) (v := ?_) rfl (by kernel_rfl) (by kernel_rfl) (by kernel_rfl) (fun _ _ _ h => h) (Or.inl ⟨by rfl, ?_⟩) (by assumption) ?_; rotate_left; (focus (intro wS hSw; (try dsimp only at hSw); go_simp <;> with_reducible rfl)); (try simp only [Act.put, List.getElem_toArray, List.getElem_cons_succ, List.getElem_cons_zero, List.setIfInBounds_toArray, List.set_cons_zero, List.set_cons_succ])
          have hB := B1.out.grown HWx4.out
          obtain ⟨⟨p0, r0⟩, ⟨p1, r1⟩, ⟨p2, r2⟩, ⟨p3, r3⟩⟩ := put4_on hB (.int .i64 n) (.int .i64 f) (.slice ua un uc) (.slice ta tn tc)
          have HB := Lib.hid hB
          clear hB
          refine wpAnyH_ready (rs := [13]) (by kernel_rfl) (by simp) ?_
          refine AllReadyH.cons rfl (fun K hK => ?_) AllReadyH.nil
          go_simp
          refine hK.out _ _ ?_ (fun hHeld => ?_)
          · exact four ((B0.out.grown HWx4.out).kept (put4_grown _ _ _ _ _ _) (by intro e; injection e with e; omega))
          clear hK K
          refine wpAnyH_done (by kernel_rfl) ?_ _
          (try simp only [Act.put, List.getElem_toArray, List.getElem_cons_succ, List.getElem_cons_zero, List.setIfInBounds_toArray, List.set_cons_zero, List.set_cons_succ])
          go_wp2
          try simp only [Exit.inBlock, Exit.then]
          refine ret_box rfl rfl (put4_box (x' := .int .i64 n) (y' := .int .i64 f) (z' := (.slice ua un uc)) (u' := (.slice ta tn tc)) HB.out) Tryz.underlying42 rfl (by kernel_rfl) rfl ?_
          have hP4 := put4_grown x4 (w.heap.size + 1) (.int .i64 n) (.int .i64 f) (.slice ua un uc) (.slice ta tn tc)
          have hlt := B1.out.lt
          exact ⟨(.slice ua un uc), (.slice ta tn tc), rfl, (HOux4.out.kept hP4 (.inr (HOux4.out.off (by omega)))).lower (by omega), (HOtx4.out.kept hP4 (.inr (HOtx4.out.off (by omega)))).lower (by omega), HAPx4.out, grown_new (grownN_trans HG.out HWx4.out) hP4 (fun c h => by injection h with h; omega)⟩
    · go_simp
      have gn := World.grownBy_alloc x1 (.cells #[] 4 (0, 0)) (none : Option Nat)
      have hn := ownG_empty (e := encB) (E := 4) x1
      generalize hv : Value.slice (some ⟨x1.heap.size, 0, none⟩) 0 0 = vB at *
      have hvb : vB.ownBlock = some x1.heap.size := by rw [← hv]; rfl
      generalize x1.alloc (.cells #[] 4 (0, 0)) = x2 at *
      clear hv
      have HWx2 := Lib.hid (grownN_trans HWx1.out gn)
      have HOvBx2 := Lib.hid (hn.lower HWx1.out.size)
      have HOvAx2 := Lib.hid (HOvAx1.out.grown gn)
      have HAPx2 := Lib.hid (apartU_new HOvAx1.out hvb)
      clear gn hn hvb
      refine hK.out _ _ ?_ (fun hHeld => ?_)
      · exact hkeep _ HWx2.out
      clear hK K
      (try simp only [Act.put, List.getElem_toArray, List.getElem_cons_succ, List.getElem_cons_zero, List.setIfInBounds_toArray, List.set_cons_zero, List.set_cons_succ])
      refine wpAnyH_ready (rs := [7]) (by kernel_rfl) (by simp) ?_
      refine AllReadyH.cons rfl (fun K hK => ?_) AllReadyH.nil
      · refine stepG_append_at x2 (by rfl) _ _ 40 (by rfl) W.heap.size 143 i0 (.agg #[.int .i64 0, .int .i64 0, .int .i64 0, .bool false]) 32 Tryz.underlying40 hi hz0 hz1 hz2 rfl vA [] (by rfl) HOvAx2.out cv L (by rfl) (HC.out.grown HWx2.out) (by unfold maxLen; simp; omega) (by simp; omega) HWx2.out.size ?_
        intro u x3 ho hg hat
        rw [List.nil_append] at ho
        have HOux3 := Lib.hid ho
        have HWx3 := Lib.hid (grown_new HWx2.out hg (fun c hc => (HOvAx2.out.lt c hc).1))
        have HOvBx3 := Lib.hid (HOvBx2.out.kept hg HAPx2.out.2)
        have HAPx3 := Lib.hid (apartU_step HOvBx2.out HAPx2.out hat)
        clear ho hg hat
        refine hK.out _ _ ?_ (fun hHeld => ?_)
        · exact hkeep _ HWx3.out
        clear hK K
        (try simp only [Act.put, List.getElem_toArray, List.getElem_cons_succ, List.getElem_cons_zero, List.setIfInBounds_toArray, List.set_cons_zero, List.set_cons_succ])
        refine wpAnyH_ready (rs := [11]) (by kernel_rfl) (by simp) ?_
        refine AllReadyH.cons rfl (fun K hK => ?_) AllReadyH.nil
        · refine stepG_append_at x3 (by rfl) _ _ 29 (by rfl) W.heap.size 4 j0 (.bool false) 1 Tryz.underlying29 hj hy0 hy1 hy2 rfl vB [] (by rfl) HOvBx3.out pv P (by rfl) (HP.out.grown HWx3.out) (by unfold maxLen; simp; omega) (by simp; omega) HWx3.out.size ?_
          intro t x4 ho hg hat
          rw [List.nil_append] at ho
          have HOtx4 := Lib.hid ho
          have HWx4 := Lib.hid (grown_new HWx3.out hg (fun c hc => (HOvBx3.out.lt c hc).1))
          have HOux4 := Lib.hid (HOux3.out.kept hg HAPx3.out.1)
          have HAPx4 := Lib.hid ((apartU_step HOux3.out (HAPx3.out).symm hat).symm)
          clear ho hg hat
          refine hK.out _ _ ?_ (fun hHeld => ?_)
          · exact hkeep _ HWx4.out
          clear hK K
          (try simp only [Act.put, List.getElem_toArray, List.getElem_cons_succ, List.getElem_cons_zero, List.setIfInBounds_toArray, List.set_cons_zero, List.set_cons_succ])
          have hU := HOux4.out.sees.shape
          have hT := HOtx4.out.sees.shape
          obtain ⟨ua, un, uc, hu, HUN⟩ := hU
          obtain ⟨ta, tn, tc, ht, HTN⟩ := hT
          subst hu
          subst ht
          refine wpAnyH_take (i := 12) (v := ?_) rfl (by kernel_rfl) (by kernel_rfl) (by kernel_rfl) (fun _ _ _ h => h) (Or.inl ⟨by rfl, ?_⟩) (by assumption) ?_; rotate_left; (focus (intro wS hSw; (try dsimp only at hSw); go_simp <;> with_reducible rfl)); (try simp only [Act.put, List.getElem_toArray, List.getElem_cons_succ, List.getElem_cons_zero, List.setIfInBounds_toArray, List.set_cons_zero, List.set_cons_succ])
          have hB := B1.out.grown HWx4.out
          obtain ⟨⟨p0, r0⟩, ⟨p1, r1⟩, ⟨p2, r2⟩, ⟨p3, r3⟩⟩ := put4_on hB (.int .i64 n) (.int .i64 f) (.slice ua un uc) (.slice ta tn tc)
          have HB := Lib.hid hB
          clear hB
          refine wpAnyH_ready (rs := [13]) (by kernel_rfl) (by simp) ?_
          refine AllReadyH.cons rfl (fun K hK => ?_) AllReadyH.nil
          go_simp
          refine hK.out _ _ ?_ (fun hHeld => ?_)
          · exact four ((B0.out.grown HWx4.out).kept (put4_grown _ _ _ _ _ _) (by intro e; injection e with e; omega))
          clear hK K
          refine wpAnyH_done (by kernel_rfl) ?_ _
          (try simp only [Act.put, List.getElem_toArray, List.getElem_cons_succ, List.getElem_cons_zero, List.setIfInBounds_toArray, List.set_cons_zero, List.set_cons_succ])
          go_wp2
          try simp only [Exit.inBlock, Exit.then]
          refine ret_box rfl rfl (put4_box (x' := .int .i64 n) (y' := .int .i64 f) (z' := (.slice ua un uc)) (u' := (.slice ta tn tc)) HB.out) Tryz.underlying42 rfl (by kernel_rfl) rfl ?_
          have hP4 := put4_grown x4 (w.heap.size + 1) (.int .i64 n) (.int .i64 f) (.slice ua un uc) (.slice ta tn tc)
          have hlt := B1.out.lt
          exact ⟨(.slice ua un uc), (.slice ta tn tc), rfl, (HOux4.out.kept hP4 (.inr (HOux4.out.off (by omega)))).lower (by omega), (HOtx4.out.kept hP4 (.inr (HOtx4.out.off (by omega)))).lower (by omega), HAPx4.out, grown_new (grownN_trans HG.out HWx4.out) hP4 (fun c h => by injection h with h; omega)⟩
  · go_simp
    have gn := World.grownBy_alloc X0 (.cells #[] 4 (0, 0)) (none : Option Nat)
    have hn := ownG_empty (e := encB) (E := 4) X0
    generalize hv : Value.slice (some ⟨X0.heap.size, 0, none⟩) 0 0 = vB at *
    have hvb : vB.ownBlock = some X0.heap.size := by rw [← hv]; rfl
    generalize X0.alloc (.cells #[] 4 (0, 0)) = x1 at *
    clear hv
    have HWx1 := Lib.hid (grownN_trans HWX0.out gn)
    have HOvBx1 := Lib.hid (hn.lower HWX0.out.size)
    clear gn hn hvb
    refine hK.out _ _ ?_ (fun hHeld => ?_)
    · exact hkeep _ HWx1.out
    clear hK K
    (try simp only [Act.put, List.getElem_toArray, List.getElem_cons_succ, List.getElem_cons_zero, List.setIfInBounds_toArray, List.set_cons_zero, List.set_cons_succ])
    refine wpAnyH_ready (rs := [4]) (by kernel_rfl) (by simp) ?_
    refine AllReadyH.cons rfl (fun K hK => ?_) AllReadyH.nil
    · go_simp
      have gn := World.grownBy_alloc x1 (.cells #[] 143 (0, 0)) (none : Option Nat)
      have hn := ownG_empty (e := encM) (E := 143) x1
      generalize hv : Value.slice (some ⟨x1.heap.size, 0, none⟩) 0 0 = vA at *
      have hvb : vA.ownBlock = some x1.heap.size := by rw [← hv]; rfl
      generalize x1.alloc (.cells #[] 143 (0, 0)) = x2 at *
      clear hv
      have HWx2 := Lib.hid (grownN_trans HWx1.out gn)
      have HOvAx2 := Lib.hid (hn.lower HWx1.out.size)
      have HOvBx2 := Lib.hid (HOvBx1.out.grown gn)
      have HAPx2 := Lib.hid ((apartU_new HOvBx1.out hvb).symm)
      clear gn hn hvb
      refine hK.out _ _ ?_ (fun hHeld => ?_)
      · exact hkeep _ HWx2.out
      clear hK K
      (try simp only [Act.put, List.getElem_toArray, List.getElem_cons_succ, List.getElem_cons_zero, List.setIfInBounds_toArray, List.set_cons_zero, List.set_cons_succ])
      refine wpAnyH_ready (rs := [7]) (by kernel_rfl) (by simp) ?_
      refine AllReadyH.cons rfl (fun K hK => ?_) AllReadyH.nil
      · refine stepG_append_at x2 (by rfl) _ _ 40 (by rfl) W.heap.size 143 i0 (.agg #[.int .i64 0, .int .i64 0, .int .i64 0, .bool false]) 32 Tryz.underlying40 hi hz0 hz1 hz2 rfl vA [] (by rfl) HOvAx2.out cv L (by rfl) (HC.out.grown HWx2.out) (by unfold maxLen; simp; omega) (by simp; omega) HWx2.out.size ?_
        intro u x3 ho hg hat
        rw [List.nil_append] at ho
        have HOux3 := Lib.hid ho
        have HWx3 := Lib.hid (grown_new HWx2.out hg (fun c hc => (HOvAx2.out.lt c hc).1))
        have HOvBx3 := Lib.hid (HOvBx2.out.kept hg HAPx2.out.2)
        have HAPx3 := Lib.hid (apartU_step HOvBx2.out HAPx2.out hat)
        clear ho hg hat
        refine hK.out _ _ ?_ (fun hHeld => ?_)
        · exact hkeep _ HWx3.out
        clear hK K
        (try simp only [Act.put, List.getElem_toArray, List.getElem_cons_succ, List.getElem_cons_zero, List.setIfInBounds_toArray, List.set_cons_zero, List.set_cons_succ])
        refine wpAnyH_ready (rs := [11]) (by kernel_rfl) (by simp) ?_
        refine AllReadyH.cons rfl (fun K hK => ?_) AllReadyH.nil
        · refine stepG_append_at x3 (by rfl) _ _ 29 (by rfl) W.heap.size 4 j0 (.bool false) 1 Tryz.underlying29 hj hy0 hy1 hy2 rfl vB [] (by rfl) HOvBx3.out pv P (by rfl) (HP.out.grown HWx3.out) (by unfold maxLen; simp; omega) (by simp; omega) HWx3.out.size ?_
          intro t x4 ho hg hat
          rw [List.nil_append] at ho
          have HOtx4 := Lib.hid ho
          have HWx4 := Lib.hid (grown_new HWx3.out hg (fun c hc => (HOvBx3.out.lt c hc).1))
          have HOux4 := Lib.hid (HOux3.out.kept hg HAPx3.out.1)
          have HAPx4 := Lib.hid ((apartU_step HOux3.out (HAPx3.out).symm hat).symm)
          clear ho hg hat
          refine hK.out _ _ ?_ (fun hHeld => ?_)
          · exact hkeep _ HWx4.out
          clear hK K
          (try simp only [Act.put, List.getElem_toArray, List.getElem_cons_succ, List.getElem_cons_zero, List.setIfInBounds_toArray, List.set_cons_zero, List.set_cons_succ])
          have hU := HOux4.out.sees.shape
          have hT := HOtx4.out.sees.shape
          obtain ⟨ua, un, uc, hu, HUN⟩ := hU
          obtain ⟨ta, tn, tc, ht, HTN⟩ := hT
          subst hu
          subst ht
          refine wpAnyH_take (i := 12) (v := ?_) rfl (by kernel_rfl) (by kernel_rfl) (by kernel_rfl) (fun _ _ _ h => h) (Or.inl ⟨by rfl, ?_⟩) (by assumption) ?_; rotate_left; (focus (intro wS hSw; (try dsimp only at hSw); go_simp <;> with_reducible rfl)); (try simp only [Act.put, List.getElem_toArray, List.getElem_cons_succ, List.getElem_cons_zero, List.setIfInBounds_toArray, List.set_cons_zero, List.set_cons_succ])
          have hB := B1.out.grown HWx4.out
          obtain ⟨⟨p0, r0⟩, ⟨p1, r1⟩, ⟨p2, r2⟩, ⟨p3, r3⟩⟩ := put4_on hB (.int .i64 n) (.int .i64 f) (.slice ua un uc) (.slice ta tn tc)
          have HB := Lib.hid hB
          clear hB
          refine wpAnyH_ready (rs := [13]) (by kernel_rfl) (by simp) ?_
          refine AllReadyH.cons rfl (fun K hK => ?_) AllReadyH.nil
          go_simp
          refine hK.out _ _ ?_ (fun hHeld => ?_)
          · exact four ((B0.out.grown HWx4.out).kept (put4_grown _ _ _ _ _ _) (by intro e; injection e with e; omega))
          clear hK K
          refine wpAnyH_done (by kernel_rfl) ?_ _
          (try simp only [Act.put, List.getElem_toArray, List.getElem_cons_succ, List.getElem_cons_zero, List.setIfInBounds_toArray, List.set_cons_zero, List.set_cons_succ])
          go_wp2
          try simp only [Exit.inBlock, Exit.then]
          refine ret_box rfl rfl (put4_box (x' := .int .i64 n) (y' := .int .i64 f) (z' := (.slice ua un uc)) (u' := (.slice ta tn tc)) HB.out) Tryz.underlying42 rfl (by kernel_rfl) rfl ?_
          have hP4 := put4_grown x4 (w.heap.size + 1) (.int .i64 n) (.int .i64 f) (.slice ua un uc) (.slice ta tn tc)
          have hlt := B1.out.lt
          exact ⟨(.slice ua un uc), (.slice ta tn tc), rfl, (HOux4.out.kept hP4 (.inr (HOux4.out.off (by omega)))).lower (by omega), (HOtx4.out.kept hP4 (.inr (HOtx4.out.off (by omega)))).lower (by omega), HAPx4.out, grown_new (grownN_trans HG.out HWx4.out) hP4 (fun c h => by injection h with h; omega)⟩
end Go.Proofs.YtonalkamfgpokaaGreat.Pc
