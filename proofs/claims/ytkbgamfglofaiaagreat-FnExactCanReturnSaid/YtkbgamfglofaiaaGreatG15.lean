/- A land in its box; an open cell as a number. Plain facts. Plain facts on depots: no program. Plain facts on valid depots: no program. 'append(v, u...)' at a step of a region that draws its order: v a row of the call's own, u whatever reads so. No condition. Contracts of the library's slices.Clone at bools and at depots. Contract of the library's slices.Clone at members. -/
import Derived.Test.YtkbgamfglofaiaaGreatG14
import Derived.Test.YtkbgamfglofaiaaGreatMBase
import Derived.Test.YtkbgamfglofaiaaGreatG2
import Derived.Laws.AppendOwn
import Derived.Maps.AppendAt
import Derived.Laws.AppendOwnNone
import Derived.Deep.AppendLies
import Derived.Test.YtkbgamfglofaiaaGreatRowM
import Derived.Lib.SliceRun
namespace Go.Proofs.YtkbgamfglofaiaaGreat.Wf
open Go.RowKit Kit Rw Ld Bfs

theorem wb_new {w : World} {W H : Int} {v : Value} {X : List Int} (hv : Sees .i64 w v X) : Box (w.alloc (.cells #[.int .i64 W, .int .i64 H, v] 36 (0, 0))) w.heap.size #[.int .i64 W, .int .i64 H, v] 36 ∧ Sees .i64 (w.alloc (.cells #[.int .i64 W, .int .i64 H, v] 36 (0, 0))) v X ∧ w.grownBy (w.alloc (.cells #[.int .i64 W, .int .i64 H, v] 36 (0, 0))) none :=
  ⟨box_new _ _ _, hv.grown (World.grownBy_alloc _ _ none), World.grownBy_alloc _ _ none⟩
theorem open_nat {W H a : Int} {X : List Int} (h : isOpen W H X a = true) : ∃ p h' n : Nat, W = p ∧ H = h' ∧ a = n ∧ n < X.length ∧ isLand p h' X = true ∧ X.length ≤ 64 ∧ 1 ≤ X.length := by
  obtain ⟨hc, _⟩ := isOpen_of h
  obtain ⟨hL, h0, h1⟩ := isCell_of hc
  obtain ⟨hW, hH, hLen, _⟩ := isLand_of hL
  have := area hW hH
  exact ⟨W.toNat, H.toNat, a.toNat, by omega, by omega, by omega, by omega, by rw [show ((W.toNat : Nat) : Int) = W by omega, show ((H.toNat : Nat) : Int) = H by omega]; exact hL, by omega, by omega⟩
theorem reachOf_len (W H : Int) (X : List Int) (a D : Int) : (reachOf W H X a D).length ≤ X.length := by
  unfold reachOf
  split
  · exact reachTo_len _ _ _
  · simp
theorem wayOf_len (W H : Int) (X : List Int) (a b : Int) : (wayOf W H X a b).length ≤ 65 := by
  unfold wayOf
  split
  · rename_i h
    rw [wayFrom_len]
    obtain ⟨p, q, n, rfl, rfl, rfl, hn, hL, h64, _⟩ := open_nat h.1
    obtain ⟨p', q', m, e1, e2, rfl, hm, _, _, _⟩ := open_nat h.2
    have := dist_lt hL (a := (m : Int)) (by omega) (by omega) (n := (n : Int)) (by omega) (by omega)
    omega
  · simp
theorem near_self {W a : Int} {X : List Int} (hW : 1 ≤ W) : a ∉ near W a X := fun h => by
  obtain ⟨_, h⟩ := near_ways h
  omega
end Go.Proofs.YtkbgamfglofaiaaGreat.Wf

namespace Go.Proofs.YtkbgamfglofaiaaGreat.Dep
def dP : Int × Int := (0, 0)
def foodAt : List (Int × Int) → Int → Int
  | [], _ => 0
  | d :: L, c => if d.1 = c then d.2 else foodAt L c
theorem foodAt_at : ∀ {L : List (Int × Int)} {c : Int} {j : Nat}, j < L.length → (∀ k, k < j → (L.getD k dP).1 ≠ c) → (L.getD j dP).1 = c → foodAt L c = (L.getD j dP).2
  | [], _, _, h, _, _ => by simp at h
  | d :: L, c, 0, _, _, h => by
    have h : d.1 = c := h
    show (if d.1 = c then d.2 else foodAt L c) = d.2
    rw [if_pos h]
  | d :: L, c, j + 1, hj, hn, h => by
    have h0 : d.1 ≠ c := hn 0 (by omega)
    show (if d.1 = c then d.2 else foodAt L c) = _
    rw [if_neg h0]
    exact foodAt_at (L := L) (by simpa using hj) (fun k hk => hn (k + 1) (by omega)) h
theorem foodAt_none : ∀ {L : List (Int × Int)} {c : Int}, (∀ k, k < L.length → (L.getD k dP).1 ≠ c) → foodAt L c = 0
  | [], _, _ => rfl
  | d :: L, c, hn => by
    have h0 : d.1 ≠ c := hn 0 (by simp)
    show (if d.1 = c then d.2 else foodAt L c) = 0
    rw [if_neg h0]
    exact foodAt_none (L := L) (fun k hk => hn (k + 1) (by simpa using hk))
/-- What a depot counts for. -/
def cl (x : Int) : Int := if x < 0 then 0 else if 10000 < x then 10000 else x
theorem cl_b (x : Int) : 0 ≤ cl x ∧ cl x ≤ 10000 := by unfold cl; split <;> (try split) <;> omega
def tot (L : List (Int × Int)) (j : Nat) : Int := ((L.take j).map (fun d => cl d.2)).sum
theorem tot_zero (L : List (Int × Int)) : tot L 0 = 0 := by simp [tot]
theorem tot_next {L : List (Int × Int)} {j : Nat} (hj : j < L.length) : tot L (j + 1) = tot L j + cl (L.getD j dP).2 := by
  unfold tot
  rw [List.take_add_one, List.map_append, List.sum_append]
  congr 1
  simp [hj]
theorem tot_b {L : List (Int × Int)} : ∀ j, j ≤ L.length → 0 ≤ tot L j ∧ tot L j ≤ j * 10000
  | 0, _ => by rw [tot_zero]; simp
  | j + 1, hj => by
    have h1 := tot_b (L := L) j (by omega)
    have h2 := cl_b (L.getD j dP).2
    rw [tot_next (by omega)]
    omega
end Go.Proofs.YtkbgamfglofaiaaGreat.Dep

namespace Go.Proofs.YtkbgamfglofaiaaGreat.Dep
open Ld

def okDep (W H : Int) (X : List Int) (d : Int × Int) : Bool := isOpen W H X d.1 && decide (1 ≤ d.2 ∧ d.2 ≤ 10000)
/-- The first j depots are valid, and ascend. -/
def upD (W H : Int) (X : List Int) (L : List (Int × Int)) (j : Nat) : Prop := ∀ i, i < j → okDep W H X (L.getD i dP) = true ∧ (0 < i → (L.getD (i - 1) dP).1 < (L.getD i dP).1)
instance (W H : Int) (X : List Int) (L : List (Int × Int)) (j : Nat) : Decidable (upD W H X L j) := by unfold upD; infer_instance
def areDep (W H : Int) (X : List Int) (L : List (Int × Int)) : Bool := isLand W H X && (decide (L.length ≤ 20) && decide (upD W H X L L.length))
section
variable {W H : Int} {X : List Int} {L : List (Int × Int)}
theorem upD_zero : upD W H X L 0 := fun i h => absurd h (Nat.not_lt_zero _)
theorem upD_next {j : Nat} (h : upD W H X L j) (h1 : okDep W H X (L.getD j dP) = true) (h2 : 0 < j → (L.getD (j - 1) dP).1 < (L.getD j dP).1) : upD W H X L (j + 1) := fun i hi => by
  by_cases h' : i < j
  · exact h i h'
  · obtain rfl : i = j := by omega
    exact ⟨h1, h2⟩
theorem dep_yes (h0 : isLand W H X = true) (h1 : L.length ≤ 20) (h2 : upD W H X L L.length) : areDep W H X L = true := by
  unfold areDep; rw [h0, decide_eq_true h1, decide_eq_true h2]; rfl
theorem dep_land (h0 : isLand W H X = false) : areDep W H X L = false := by unfold areDep; rw [h0]; rfl
theorem dep_long (h1 : ¬ L.length ≤ 20) : areDep W H X L = false := by unfold areDep; rw [decide_eq_false h1]; simp
theorem dep_bad {j : Nat} (hj : j < L.length) (h : okDep W H X (L.getD j dP) = false ∨ (0 < j ∧ ¬ (L.getD (j - 1) dP).1 < (L.getD j dP).1)) : areDep W H X L = false := by
  unfold areDep
  have : ¬ upD W H X L L.length := fun hu => by
    have := hu j hj
    rcases h with h | ⟨h0, h⟩
    · rw [this.1] at h; cases h
    · exact h (this.2 h0)
  rw [decide_eq_false this, Bool.and_false, Bool.and_false]
theorem dep_of (h : areDep W H X L = true) : isLand W H X = true ∧ L.length ≤ 20 ∧ upD W H X L L.length := by
  unfold areDep at h; simp only [Bool.and_eq_true, decide_eq_true_eq] at h; exact h
theorem dep_at (h : areDep W H X L = true) {j : Nat} (hj : j < L.length) : isOpen W H X (L.getD j dP).1 = true ∧ 1 ≤ (L.getD j dP).2 ∧ (L.getD j dP).2 ≤ 10000 := by
  have := (dep_of h).2.2 j hj
  have h1 := this.1
  unfold okDep at h1; simp only [Bool.and_eq_true, decide_eq_true_eq] at h1; exact h1
theorem open_pos {n : Int} (h : isOpen W H X n = true) : 0 ≤ n := (isCell_of (isOpen_of h).1).2.1
/-- The cell before the jth depot; -1: none. -/
def beforeD (L : List (Int × Int)) : Nat → Int
  | 0 => -1
  | j + 1 => (L.getD j dP).1
end
end Go.Proofs.YtkbgamfglofaiaaGreat.Dep

namespace Go.Proofs.YtkbgamfglofaiaaGreat.Rg
open Go.RowKit Kit Rw

theorem stepG_append_sees {α : Type} {e : Enc α} {P : Program} (w : World) {ops : Array Oper} {o : Oper} {a : Act} {K : Act → World → Prop} {Q : Exit → Act → World → Prop} {Z : Prop} (hgd : o.guard = none) (s x : Operand) (t : TypeId)
    (ho : o.op = .call { callee := .builtin .append, args := #[s, x], argTypes := #[t, t] })
    (base : Nat) (E : TypeId) (i : TypeInfo) (z : Value) (bytes : Nat) (ht : P.underlying t = some (.slice E)) (hi : P.info? E = some i) (hz : i.zero = some z)
    (hsize : i.size = e.size) (hby : i.bytes = bytes) (hzs : z.cells.size = e.size)
    (v : Value) (L : List α) (hs : a.eval s = v) (hown : OwnG e E w base v L) (u : Value) (M : List α) (hx : a.eval x = u) (hu : SeesG e w u M)
    (h63 : L.length + M.length ≤ maxLen) (hbytes : (L.length + M.length) * bytes ≤ 140737488355328) (hbase : base ≤ w.heap.size)
    (h : ∀ v' w', OwnG e E w' base v' (L ++ M) → w.grownBy w' v.ownBlock → K (a.put o.dst v') w') :
    if Region.wanted o (yielded ops a.tmps) = true then Oper.wp P o a w K Q else Z := by
  have hw : Region.wanted o (yielded ops a.tmps) = true := by simp [Region.wanted, hgd]
  rw [if_pos hw]
  obtain ⟨ho1, hw1⟩ := hown
  have hok := hu.ok
  obtain ⟨ad, cap, rfl, hlc, hcm, hnil, _, hcell⟩ := hu
  have hall : ∀ x ∈ L ++ M, e.ok x := fun x hx => by
    rcases List.mem_append.1 hx with h | h
    · exact hw1 x h
    · exact hok x h
  cases ad with
  | none =>
    have hc := hnil rfl
    subst hc
    have hM : M = [] := List.eq_nil_of_length_eq_zero (by omega)
    subst hM
    have hrun := run_append_owned_none (P := P) (w := w) base t o.type E i e.size ht hi v L.length _ ho1
    have hx' : a.eval x = .slice none 0 0 := by simpa using hx
    unfold Oper.wp
    simp [execOp, ho, resolve, invoke, builtin, hs, hx', hrun, Result.andThen]
    exact h v w ⟨by simpa using ho1, hall⟩ (World.grownBy.refl w _)
  | some ad =>
    obtain ⟨v', w', hrun, r1, r2, _⟩ := run_append_own (P := P) w base t o.type E i z e.size bytes ht hi hz hsize hby hzs e.pos v L.length _ ho1 ad M.length cap (flat e M) (flat_len M) (fun j y hy => by
      have hj : j < M.length * e.size := by rw [← flat_len]; exact (List.getElem?_eq_some_iff.1 hy).1
      rcases hcell with h0 | ⟨b, of, e', hc⟩
      · rw [h0] at hj; simp at hj
      · injection e' with e'
        subst e'
        rw [add_plain, hc j hj, hy]) flat_one h63 hbytes hbase
    unfold Oper.wp
    simp [execOp, ho, resolve, invoke, builtin, hs, hx, hrun, Result.andThen]
    exact h v' w' ⟨by rw [List.length_append, flat_app]; exact r1, hall⟩ r2
/-- The same, and where the new value lies: where the old one did, or in a block that is made now. -/
theorem stepG_append_at {α : Type} {e : Enc α} {P : Program} (w : World) {ops : Array Oper} {o : Oper} {a : Act} {K : Act → World → Prop} {Q : Exit → Act → World → Prop} {Z : Prop} (hgd : o.guard = none) (s x : Operand) (t : TypeId)
    (ho : o.op = .call { callee := .builtin .append, args := #[s, x], argTypes := #[t, t] })
    (base : Nat) (E : TypeId) (i : TypeInfo) (z : Value) (bytes : Nat) (ht : P.underlying t = some (.slice E)) (hi : P.info? E = some i) (hz : i.zero = some z)
    (hsize : i.size = e.size) (hby : i.bytes = bytes) (hzs : z.cells.size = e.size)
    (v : Value) (L : List α) (hs : a.eval s = v) (hown : OwnG e E w base v L) (u : Value) (M : List α) (hx : a.eval x = u) (hu : SeesG e w u M)
    (h63 : L.length + M.length ≤ maxLen) (hbytes : (L.length + M.length) * bytes ≤ 140737488355328) (hbase : base ≤ w.heap.size)
    (h : ∀ v' w', OwnG e E w' base v' (L ++ M) → w.grownBy w' v.ownBlock → (v'.ownBlock = v.ownBlock ∨ v'.ownBlock = some w.heap.size) → K (a.put o.dst v') w') :
    if Region.wanted o (yielded ops a.tmps) = true then Oper.wp P o a w K Q else Z := by
  have hw : Region.wanted o (yielded ops a.tmps) = true := by simp [Region.wanted, hgd]
  rw [if_pos hw]
  obtain ⟨ho1, hw1⟩ := hown
  have hok := hu.ok
  obtain ⟨ad, cap, rfl, hlc, hcm, hnil, _, hcell⟩ := hu
  have hall : ∀ x ∈ L ++ M, e.ok x := fun x hx => by
    rcases List.mem_append.1 hx with h | h
    · exact hw1 x h
    · exact hok x h
  cases ad with
  | none =>
    have hc := hnil rfl
    subst hc
    have hM : M = [] := List.eq_nil_of_length_eq_zero (by omega)
    subst hM
    have hrun := run_append_owned_none (P := P) (w := w) base t o.type E i e.size ht hi v L.length _ ho1
    have hx' : a.eval x = .slice none 0 0 := by simpa using hx
    unfold Oper.wp
    simp [execOp, ho, resolve, invoke, builtin, hs, hx', hrun, Result.andThen]
    exact h v w ⟨by simpa using ho1, hall⟩ (World.grownBy.refl w _) (.inl rfl)
  | some ad =>
    obtain ⟨v', w', hrun, r1, r2, _, r3⟩ := run_append_own_at (P := P) w base t o.type E i z e.size bytes ht hi hz hsize hby hzs e.pos v L.length _ ho1 ad M.length cap (flat e M) (flat_len M) (fun j y hy => by
      have hj : j < M.length * e.size := by rw [← flat_len]; exact (List.getElem?_eq_some_iff.1 hy).1
      rcases hcell with h0 | ⟨b, of, e', hc⟩
      · rw [h0] at hj; simp at hj
      · injection e' with e'
        subst e'
        rw [add_plain, hc j hj, hy]) flat_one h63 hbytes hbase
    unfold Oper.wp
    simp [execOp, ho, resolve, invoke, builtin, hs, hx, hrun, Result.andThen]
    exact h v' w' ⟨by rw [List.length_append, flat_app]; exact r1, hall⟩ r2 r3

/-- Two rows in different blocks. -/
def ApartU (t u : Value) : Prop := (t.ownBlock = none ∨ t.ownBlock ≠ u.ownBlock) ∧ (u.ownBlock = none ∨ u.ownBlock ≠ t.ownBlock)
theorem ApartU.symm {t u : Value} (h : ApartU t u) : ApartU u t := ⟨h.2, h.1⟩
theorem apartU_new {α : Type} {e : Enc α} {E : TypeId} {w : World} {base : Nat} {v u : Value} {L : List α} (h : OwnG e E w base v L) (hu : u.ownBlock = some w.heap.size) : ApartU v u := by
  have hn : v.ownBlock ≠ some w.heap.size := fun e => by have := (h.lt _ e).2; omega
  exact ⟨.inr (by rw [hu]; exact hn), .inr (by rw [hu]; exact hn.symm)⟩
theorem apartU_step {α : Type} {e : Enc α} {E : TypeId} {w : World} {base : Nat} {v v' u : Value} {L : List α} (h : OwnG e E w base u L) (ha : ApartU v u) (hv : v'.ownBlock = v.ownBlock ∨ v'.ownBlock = some w.heap.size) : ApartU v' u := by
  rcases hv with hv | hv
  · exact ⟨by rw [hv]; exact ha.1, by rw [hv]; exact ha.2⟩
  · exact (apartU_new h hv).symm
end Go.Proofs.YtkbgamfglofaiaaGreat.Rg

namespace Go.Proofs.YtkbgamfglofaiaaGreat.Cln
open Go.RowKit Kit Rw Rg

theorem info_boolC : (Tryz.prog.info? 4).map (fun i => (i.zero, i.size, i.bytes)) = some (some (.bool false), 1, 1) := by kernel_rfl
set_option maxRecDepth 20000 in
set_option maxHeartbeats 1000000 in
theorem cloneB_any (w : World) (v : Value) (L : List Bool) (hv : SeesG encB w v L) (hn : L.length ≤ 1000000000) :
    Calls Tryz.prog 130 #[v] w fun e w' => ∃ u, e = .returned u ∧ OwnG encB 4 w' w.heap.size u L ∧ w.grownBy w' none := by
  have hg0 := World.grownBy_alloc w (.cells #[] 4 (0, 0)) none
  have HV := Lib.hid (hv.grown hg0)
  have HW : Hid (OwnG encB 4 (w.alloc (.cells #[] 4 (0, 0))) w.heap.size (.slice (some ⟨w.heap.size, 0, none⟩) 0 0) []) := ownG_empty w
  have HG := Lib.hid hg0
  clear hg0
  obtain ⟨a, cap, rfl, h1, h2, h3, _, _⟩ := hv
  obtain ⟨i0, hi, hz0, hz1, hz2⟩ := info_parts info_boolC
  have q : ∀ (w : World) (a : Option Addr) (n c n' c' : Nat), (binOp .eql 29 (.slice a n c) (.slice none n' c')).run Tryz.prog w = .ok (.bool a.isNone) w := fun w a n c n' c' => Lib.run_eql_slice_nil w _ _ a n c n' c' Tryz.underlying29
  cases a with
  | none =>
    have hc := h3 rfl
    have hL : L = [] := List.eq_nil_of_length_eq_zero (by omega)
    subst hL
    subst hc
    go_enter Tryz.func130, Tryz.ntmps130
    go_wp2
    go_ret
    exact ⟨_, rfl, ownG_nil, World.grownBy.refl _ _⟩
  | some ad =>
    clear h1 h2 h3
    go_enter Tryz.func130, Tryz.ntmps130
    go_wp2_with (at_builtin; go_loud (refine wpListG_append_sees _ rfl _ _ 29 rfl w.heap.size 4 i0 (.bool false) 1 Tryz.underlying29 hi hz0 hz1 hz2 rfl _ [] rfl HW.out _ L rfl HV.out (by unfold maxLen; simp; omega) (by simp; omega) HG.out.size ?_); intro v3 w3 hown3 hgrow3; rw [List.nil_append] at hown3; have HO3 := Lib.hid hown3; have HG3 := Lib.hid (grown_new HG.out hgrow3 (fun c hc => (HW.out.lt c hc).1)); clear hown3 hgrow3)
    go_ret
    exact ⟨_, rfl, HO3.out, HG3.out⟩
end Go.Proofs.YtkbgamfglofaiaaGreat.Cln

namespace Go.Proofs.YtkbgamfglofaiaaGreat.Cln
open Go.RowKit Kit Rw Rg

theorem info_mem : (Tryz.prog.info? 117).map (fun i => (i.zero, i.size, i.bytes)) = some (some (.agg #[.int .i64 0, .int .i64 0, .int .i64 0, .bool false]), 4, 32) := by kernel_rfl
set_option maxRecDepth 20000 in
set_option maxHeartbeats 1000000 in
theorem cloneM_any (w : World) (v : Value) (L : List Mem) (hv : SeesG encM w v L) (hn : L.length ≤ 1000000000) :
    Calls Tryz.prog 129 #[v] w fun e w' => ∃ u, e = .returned u ∧ OwnG encM 117 w' w.heap.size u L ∧ w.grownBy w' none := by
  have hg0 := World.grownBy_alloc w (.cells #[] 117 (0, 0)) none
  have HV := Lib.hid (hv.grown hg0)
  have HW : Hid (OwnG encM 117 (w.alloc (.cells #[] 117 (0, 0))) w.heap.size (.slice (some ⟨w.heap.size, 0, none⟩) 0 0) []) := ownG_empty w
  have HG := Lib.hid hg0
  clear hg0
  obtain ⟨a, cap, rfl, h1, h2, h3, _, _⟩ := hv
  obtain ⟨i0, hi, hz0, hz1, hz2⟩ := info_parts info_mem
  have q : ∀ (w : World) (a : Option Addr) (n c n' c' : Nat), (binOp .eql 42 (.slice a n c) (.slice none n' c')).run Tryz.prog w = .ok (.bool a.isNone) w := fun w a n c n' c' => Lib.run_eql_slice_nil w _ _ a n c n' c' Tryz.underlying42
  cases a with
  | none =>
    have hc := h3 rfl
    have hL : L = [] := List.eq_nil_of_length_eq_zero (by omega)
    subst hL
    subst hc
    go_enter Tryz.func129, Tryz.ntmps129
    go_wp2
    go_ret
    exact ⟨_, rfl, ownG_nil, World.grownBy.refl _ _⟩
  | some ad =>
    clear h1 h2 h3
    go_enter Tryz.func129, Tryz.ntmps129
    go_wp2_with (at_builtin; go_loud (refine wpListG_append_sees _ rfl _ _ 42 rfl w.heap.size 117 i0 (.agg #[.int .i64 0, .int .i64 0, .int .i64 0, .bool false]) 32 Tryz.underlying42 hi hz0 hz1 hz2 rfl _ [] rfl HW.out _ L rfl HV.out (by unfold maxLen; simp; omega) (by simp; omega) HG.out.size ?_); intro v3 w3 hown3 hgrow3; rw [List.nil_append] at hown3; have HO3 := Lib.hid hown3; have HG3 := Lib.hid (grown_new HG.out hgrow3 (fun c hc => (HW.out.lt c hc).1)); clear hown3 hgrow3)
    go_ret
    exact ⟨_, rfl, HO3.out, HG3.out⟩
end Go.Proofs.YtkbgamfglofaiaaGreat.Cln
