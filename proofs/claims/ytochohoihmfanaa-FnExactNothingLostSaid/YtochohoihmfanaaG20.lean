/- Contracts of the program's and of the model's FoodAt and TotalFood. 'append(v, u...)' at a step of a region that draws its order: v a row of the call's own, u whatever reads so. No condition. Contracts of the library's slices.Clone at bools and at depots. Contract of the library's slices.Clone at members. Contract of the model's copy of a party. Contracts of the program's options of a party and of partyFrom. -/
import Derived.Test.YtochohoihmfanaaG19
import Derived.Test.YtochohoihmfanaaG3
import Derived.Test.YtochohoihmfanaaG14
import Derived.IntWalk
import Derived.Test.YtochohoihmfanaaG2
import Derived.Laws.AppendOwn
import Derived.Maps.AppendAt
import Derived.Laws.AppendOwnNone
import Derived.Deep.AppendLies
import Derived.Lib.SliceRun
import Derived.Test.YtochohoihmfanaaG4
import Derived.Test.YtochohoihmfanaaPartyL
import Derived.Deep.RegionHeld3
namespace Go.Proofs.Ytochohoihmfanaa.DepI
open Go.RowKit Kit Rw Rg Dep Mn

def smax (a b : Int) : Int := if a < b then b else a
theorem smax_any (a b : Int) (w : World) :
    Calls Try.prog 120 #[.int .i64 a, .int .i64 b] w fun e w' => e = .returned (.int .i64 (smax a b)) ∧ w = w' := by
  by_cases h : a < b
  · have hm : smax a b = b := if_pos h
    rw [hm]
    go_enter Try.func120, Try.ntmps120
    go_wp2
    go_ret
    exact ⟨rfl, rfl⟩
  · have hm : smax a b = a := if_neg h
    rw [hm]
    go_enter Try.func120, Try.ntmps120
    go_wp2
    go_ret
    exact ⟨rfl, rfl⟩
def smin (a b : Int) : Int := if b < a then b else a
theorem smin_any (a b : Int) (w : World) :
    Calls Try.prog 67 #[.int .i64 a, .int .i64 b] w fun e w' => e = .returned (.int .i64 (smin a b)) ∧ w = w' := by
  by_cases h : b < a
  · have hm : smin a b = b := if_pos h
    rw [hm]
    go_enter Try.func67, Try.ntmps67
    go_wp2
    go_ret
    exact ⟨rfl, rfl⟩
  · have hm : smin a b = a := if_neg h
    rw [hm]
    by_cases h2 : a < b
    · go_enter Try.func67, Try.ntmps67
      go_wp2
      go_ret
      exact ⟨rfl, rfl⟩
    · have h3 : a = b := by omega
      subst h3
      go_enter Try.func67, Try.ntmps67
      go_wp2
      go_ret
      exact ⟨rfl, rfl⟩
theorem s_cl (x : Int) : smax 0 (smin 10000 x) = cl x := by unfold smax smin cl; split <;> split <;> (try split) <;> (try split) <;> omega
theorem i_cl (x : Int) : most 0 (least x 10000) = cl x := by unfold most least cl; split <;> split <;> (try split) <;> (try split) <;> omega

set_option maxRecDepth 20000 in
set_option maxHeartbeats 1000000 in
theorem sTotal_any (w : World) (v : Value) (L : List (Int × Int)) (hv : SeesG encP w v L) (hn : L.length ≤ 1000000000) :
    Calls Try.prog 112 #[v] w fun e w' => e = .returned (.int .i64 (tot L L.length)) ∧ w.grownBy w' none := by
  have HV := Lib.hid hv
  obtain ⟨a, cap, rfl, _⟩ := hv
  go_enter Try.func112, Try.ntmps112
  go_wp2
  go_loopw [3, 4] (fun s i wr => ∃ j : Nat, j ≤ L.length ∧ i = .int .i64 j ∧ s = .int .i64 (tot L j) ∧ Hid (w.grownBy wr none)) (fun _ i _ => L.length - (intOf i).toNat)
  case atStart => exact ⟨0, Nat.zero_le _, rfl, by rw [tot_zero], World.grownBy.refl _ _⟩
  case round =>
    obtain ⟨j, hj, rfl, rfl, HG⟩ := hrel
    have hb := tot_b (L := L) j hj
    obtain ⟨y, hy⟩ : ∃ y, y = tot L j := ⟨_, rfl⟩
    rw [← hy] at hb ⊢
    have HY := Lib.hid hy
    clear hy
    by_cases hlt : j < L.length
    · obtain ⟨b, o, rfl, _, _⟩ := HV.out.at_row hlt
      obtain ⟨x, hx⟩ : ∃ x, L.getD j (0, 0) = x := ⟨_, rfl⟩
      obtain ⟨d0, d1⟩ := atP_in HV.out HG.out hlt hx
      have hn1 := tot_next hlt
      rw [show dP = (0, 0) from rfl, hx] at hn1
      obtain ⟨xc, xf⟩ := x
      dsimp only at d0 d1 hn1
      have hc := cl_b xf
      obtain ⟨q, hq⟩ : ∃ q, q = smin 10000 xf := ⟨_, rfl⟩
      have hm1 := fun w => smin_any 10000 xf w
      rw [← hq] at hm1
      obtain ⟨z, hz⟩ : ∃ z, z = cl xf := ⟨_, rfl⟩
      have hm2 := fun w => smax_any 0 q w
      rw [hq, s_cl, ← hz, ← hq] at hm2
      rw [← hz] at hc hn1
      have HN := Lib.hid hn1
      have HM1 := Lib.hid hm1
      have HM2 := Lib.hid hm2
      clear hx hn1 hm1 hm2 hq hz
      go_wp2_with fail
      refine (HM1.out _).mono ?_
      rintro e w2 ⟨rfl, rfl⟩
      go_wp2_with fail
      refine (HM2.out _).mono ?_
      rintro e w2 ⟨rfl, rfl⟩
      go_wp2
      go_roundw
      case rel => exact ⟨j + 1, by omega, by go_num, by rw [HN.out, ← HY.out], HG⟩
      case measure => simp [intOf]; omega
    · have : j = L.length := by omega
      subst this
      go_wp2
      go_ret
      exact ⟨ret_i64 HY.out, HG.out⟩

set_option maxHeartbeats 1000000 in
theorem counted_any (f : Int) (w : World) :
    Calls Try.prog 140 #[.int .i64 f] w fun e w' => e = .returned (.int .i64 (cl f)) ∧ w.grownBy w' none := by
  obtain ⟨q, hq⟩ : ∃ q, q = least f 10000 := ⟨_, rfl⟩
  have hm1 := fun w => min_any f 10000 w
  rw [← hq] at hm1
  obtain ⟨z, hz⟩ : ∃ z, z = cl f := ⟨_, rfl⟩
  have hm2 := fun w => max_any 0 q w
  rw [hq, i_cl, ← hz, ← hq] at hm2
  rw [← hz]
  have HM1 := Lib.hid hm1
  have HM2 := Lib.hid hm2
  clear hm1 hm2 hq hz
  go_enter Try.func140, Try.ntmps140
  go_wp2_with fail
  refine (HM1.out _).mono ?_
  rintro e w2 ⟨rfl, hg⟩
  have HG2 := Lib.hid hg
  clear hg
  go_wp2_with fail
  refine (HM2.out _).mono ?_
  rintro e w3 ⟨rfl, hg⟩
  have HG3 := Lib.hid (grownN_trans HG2.out hg)
  clear hg
  go_wp2
  go_ret
  exact ⟨rfl, HG3.out⟩

set_option maxRecDepth 20000 in
set_option maxHeartbeats 1000000 in
theorem iTotal_any (w : World) (v : Value) (L : List (Int × Int)) (hv : SeesG encP w v L) (hn : L.length ≤ 1000000000) :
    Calls Try.prog 139 #[v] w fun e w' => e = .returned (.int .i64 (tot L L.length)) ∧ w.grownBy w' none := by
  have HV := Lib.hid hv
  obtain ⟨a, cap, rfl, _⟩ := hv
  go_enter Try.func139, Try.ntmps139
  go_wp2
  go_loopw [3, 8] (fun s i wr => ∃ j : Nat, j ≤ L.length ∧ i = .int .i64 j ∧ s = .int .i64 (tot L j) ∧ Hid (w.grownBy wr none)) (fun _ i _ => L.length - (intOf i).toNat)
  case atStart => exact ⟨0, Nat.zero_le _, rfl, by rw [tot_zero], World.grownBy.refl _ _⟩
  case round =>
    rename_i wr
    obtain ⟨j, hj, rfl, rfl, HG⟩ := hrel
    have hb := tot_b (L := L) j hj
    obtain ⟨y, hy⟩ : ∃ y, y = tot L j := ⟨_, rfl⟩
    rw [← hy] at hb ⊢
    have HY := Lib.hid hy
    clear hy
    by_cases hlt : j < L.length
    · obtain ⟨b, o, rfl, _, _⟩ := HV.out.at_row hlt
      obtain ⟨x, hx⟩ : ∃ x, L.getD j (0, 0) = x := ⟨_, rfl⟩
      obtain ⟨d0, d1⟩ := atP_in HV.out HG.out hlt hx
      have hn1 := tot_next hlt
      rw [show dP = (0, 0) from rfl, hx] at hn1
      obtain ⟨xc, xf⟩ := x
      dsimp only at d0 d1 hn1
      have hc := cl_b xf
      obtain ⟨z, hz⟩ : ∃ z, z = cl xf := ⟨_, rfl⟩
      have hm2 := fun w => counted_any xf w
      rw [← hz] at hc hn1 hm2
      have HN := Lib.hid hn1
      have HM2 := Lib.hid hm2
      have HG1 := Lib.hid (grownN_trans HG.out (World.grownBy_alloc wr (.cells #[.int .i64 xc, .int .i64 xf] 115 (0, 0)) none))
      clear hx hn1 hm2 hz
      go_wp2_with fail
      refine (HM2.out _).mono ?_
      rintro e w3 ⟨rfl, hg⟩
      have HG3 := Lib.hid (grownN_trans HG1.out hg)
      clear hg
      go_wp2
      go_roundw
      case rel => exact ⟨j + 1, by omega, by go_num, by rw [HN.out, ← HY.out], HG3⟩
      case measure => simp [intOf]; omega
    · have : j = L.length := by omega
      subst this
      go_wp2
      go_ret
      exact ⟨ret_i64 HY.out, HG.out⟩
end Go.Proofs.Ytochohoihmfanaa.DepI

namespace Go.Proofs.Ytochohoihmfanaa.Rg
open Go.RowKit Kit Rw

theorem stepG_append_sees {α : Type} {e : Enc α} {P : Program} (w : World) {ops : Array Oper} {o : Oper} {a : Act} {K : Act → World → Prop} {Q : Exit → Act → World → Prop} {Z : Prop} (hgd : o.guard = none) (s x : Operand) (t : TypeId)
    (ho : o.op = .call { callee := .builtin .append, args := #[s, x], argTypes := #[t, t] })
    (base : Nat) (E : TypeId) (i : TypeInfo) (z : Value) (bytes : Nat) (ht : P.underlying t = some (.slice E)) (hi : P.info? E = some i) (hz : i.zero = some z)
    (hsize : i.size = e.size) (hby : i.bytes = bytes) (hzs : z.cells.size = e.size)
    (v : Value) (L : List α) (hs : a.eval s = v) (hown : OwnG e E w base v L) (u : Value) (M : List α) (hx : a.eval x = u) (hu : SeesG e w u M)
    (h63 : L.length + M.length ≤ maxLen) (hbytes : (L.length + M.length) * bytes ≤ 140737488355328) (hbase : base ≤ w.heap.size)
    (h : ∀ v' w', OwnG e E w' base v' (L ++ M) → w.grownBy w' v.ownBlock → K (a.put o.dst v') w') :
    if Region.wanted o (yielded ops a.tmps) = true then Oper.wp P o a w K Q else Z := by
  have hw : Region.wanted o (yielded ops a.tmps) = true := by simp [Region.wanted, hgd]
  rw [if_pos hw]
  obtain ⟨ho1, hw1⟩ := hown
  have hok := hu.ok
  obtain ⟨ad, cap, rfl, hlc, hcm, hnil, _, hcell⟩ := hu
  have hall : ∀ x ∈ L ++ M, e.ok x := fun x hx => by
    rcases List.mem_append.1 hx with h | h
    · exact hw1 x h
    · exact hok x h
  cases ad with
  | none =>
    have hc := hnil rfl
    subst hc
    have hM : M = [] := List.eq_nil_of_length_eq_zero (by omega)
    subst hM
    have hrun := run_append_owned_none (P := P) (w := w) base t o.type E i e.size ht hi v L.length _ ho1
    have hx' : a.eval x = .slice none 0 0 := by simpa using hx
    unfold Oper.wp
    simp [execOp, ho, resolve, invoke, builtin, hs, hx', hrun, Result.andThen]
    exact h v w ⟨by simpa using ho1, hall⟩ (World.grownBy.refl w _)
  | some ad =>
    obtain ⟨v', w', hrun, r1, r2, _⟩ := run_append_own (P := P) w base t o.type E i z e.size bytes ht hi hz hsize hby hzs e.pos v L.length _ ho1 ad M.length cap (flat e M) (flat_len M) (fun j y hy => by
      have hj : j < M.length * e.size := by rw [← flat_len]; exact (List.getElem?_eq_some_iff.1 hy).1
      rcases hcell with h0 | ⟨b, of, e', hc⟩
      · rw [h0] at hj; simp at hj
      · injection e' with e'
        subst e'
        rw [add_plain, hc j hj, hy]) flat_one h63 hbytes hbase
    unfold Oper.wp
    simp [execOp, ho, resolve, invoke, builtin, hs, hx, hrun, Result.andThen]
    exact h v' w' ⟨by rw [List.length_append, flat_app]; exact r1, hall⟩ r2
/-- The same, and where the new value lies: where the old one did, or in a block that is made now. -/
theorem stepG_append_at {α : Type} {e : Enc α} {P : Program} (w : World) {ops : Array Oper} {o : Oper} {a : Act} {K : Act → World → Prop} {Q : Exit → Act → World → Prop} {Z : Prop} (hgd : o.guard = none) (s x : Operand) (t : TypeId)
    (ho : o.op = .call { callee := .builtin .append, args := #[s, x], argTypes := #[t, t] })
    (base : Nat) (E : TypeId) (i : TypeInfo) (z : Value) (bytes : Nat) (ht : P.underlying t = some (.slice E)) (hi : P.info? E = some i) (hz : i.zero = some z)
    (hsize : i.size = e.size) (hby : i.bytes = bytes) (hzs : z.cells.size = e.size)
    (v : Value) (L : List α) (hs : a.eval s = v) (hown : OwnG e E w base v L) (u : Value) (M : List α) (hx : a.eval x = u) (hu : SeesG e w u M)
    (h63 : L.length + M.length ≤ maxLen) (hbytes : (L.length + M.length) * bytes ≤ 140737488355328) (hbase : base ≤ w.heap.size)
    (h : ∀ v' w', OwnG e E w' base v' (L ++ M) → w.grownBy w' v.ownBlock → (v'.ownBlock = v.ownBlock ∨ v'.ownBlock = some w.heap.size) → K (a.put o.dst v') w') :
    if Region.wanted o (yielded ops a.tmps) = true then Oper.wp P o a w K Q else Z := by
  have hw : Region.wanted o (yielded ops a.tmps) = true := by simp [Region.wanted, hgd]
  rw [if_pos hw]
  obtain ⟨ho1, hw1⟩ := hown
  have hok := hu.ok
  obtain ⟨ad, cap, rfl, hlc, hcm, hnil, _, hcell⟩ := hu
  have hall : ∀ x ∈ L ++ M, e.ok x := fun x hx => by
    rcases List.mem_append.1 hx with h | h
    · exact hw1 x h
    · exact hok x h
  cases ad with
  | none =>
    have hc := hnil rfl
    subst hc
    have hM : M = [] := List.eq_nil_of_length_eq_zero (by omega)
    subst hM
    have hrun := run_append_owned_none (P := P) (w := w) base t o.type E i e.size ht hi v L.length _ ho1
    have hx' : a.eval x = .slice none 0 0 := by simpa using hx
    unfold Oper.wp
    simp [execOp, ho, resolve, invoke, builtin, hs, hx', hrun, Result.andThen]
    exact h v w ⟨by simpa using ho1, hall⟩ (World.grownBy.refl w _) (.inl rfl)
  | some ad =>
    obtain ⟨v', w', hrun, r1, r2, _, r3⟩ := run_append_own_at (P := P) w base t o.type E i z e.size bytes ht hi hz hsize hby hzs e.pos v L.length _ ho1 ad M.length cap (flat e M) (flat_len M) (fun j y hy => by
      have hj : j < M.length * e.size := by rw [← flat_len]; exact (List.getElem?_eq_some_iff.1 hy).1
      rcases hcell with h0 | ⟨b, of, e', hc⟩
      · rw [h0] at hj; simp at hj
      · injection e' with e'
        subst e'
        rw [add_plain, hc j hj, hy]) flat_one h63 hbytes hbase
    unfold Oper.wp
    simp [execOp, ho, resolve, invoke, builtin, hs, hx, hrun, Result.andThen]
    exact h v' w' ⟨by rw [List.length_append, flat_app]; exact r1, hall⟩ r2 r3

/-- Two rows in different blocks. -/
def ApartU (t u : Value) : Prop := (t.ownBlock = none ∨ t.ownBlock ≠ u.ownBlock) ∧ (u.ownBlock = none ∨ u.ownBlock ≠ t.ownBlock)
theorem ApartU.symm {t u : Value} (h : ApartU t u) : ApartU u t := ⟨h.2, h.1⟩
theorem apartU_new {α : Type} {e : Enc α} {E : TypeId} {w : World} {base : Nat} {v u : Value} {L : List α} (h : OwnG e E w base v L) (hu : u.ownBlock = some w.heap.size) : ApartU v u := by
  have hn : v.ownBlock ≠ some w.heap.size := fun e => by have := (h.lt _ e).2; omega
  exact ⟨.inr (by rw [hu]; exact hn), .inr (by rw [hu]; exact hn.symm)⟩
theorem apartU_step {α : Type} {e : Enc α} {E : TypeId} {w : World} {base : Nat} {v v' u : Value} {L : List α} (h : OwnG e E w base u L) (ha : ApartU v u) (hv : v'.ownBlock = v.ownBlock ∨ v'.ownBlock = some w.heap.size) : ApartU v' u := by
  rcases hv with hv | hv
  · exact ⟨by rw [hv]; exact ha.1, by rw [hv]; exact ha.2⟩
  · exact (apartU_new h hv).symm
end Go.Proofs.Ytochohoihmfanaa.Rg

namespace Go.Proofs.Ytochohoihmfanaa.Cln
open Go.RowKit Kit Rw Rg

theorem info_boolC : (Try.prog.info? 4).map (fun i => (i.zero, i.size, i.bytes)) = some (some (.bool false), 1, 1) := by kernel_rfl
end Go.Proofs.Ytochohoihmfanaa.Cln

namespace Go.Proofs.Ytochohoihmfanaa.Cln
open Go.RowKit Kit Rw Rg

theorem info_mem : (Try.prog.info? 75).map (fun i => (i.zero, i.size, i.bytes)) = some (some (.agg #[.int .i64 0, .int .i64 0, .int .i64 0, .bool false]), 4, 32) := by kernel_rfl
end Go.Proofs.Ytochohoihmfanaa.Cln

namespace Go.Proofs.Ytochohoihmfanaa.Pc
open Go.RowKit Kit Rw Rg Four PartyL Cln

/-- How a call ends that hands out a party of its own. -/
def PartyOut (w w' : World) (u t : Value) (L : List Mem) (P : List Bool) : Prop := OwnG encM 75 w' w.heap.size u L ∧ OwnG encB 4 w' w.heap.size t P ∧ ApartU u t ∧ w.grownBy w' none

end Go.Proofs.Ytochohoihmfanaa.Pc

namespace Go.Proofs.Ytochohoihmfanaa.Pe
open Go.RowKit Kit Rw Rg Four PartyL Pc Cln

/-- Where partyFrom stands: the party that it builds. -/
structure PF (W wr : World) (nb : Nat) (n x : Int) (u t : Value) (L : List Mem) (P : List Bool) : Prop where
  box : Box wr nb #[.int .i64 n, .int .i64 x, u, t] 64
  ou : OwnG encM 75 wr W.heap.size u L
  ot : OwnG encB 4 wr W.heap.size t P
  ap : ApartU u t
  nu : u.ownBlock ≠ some nb
  nt : t.ownBlock ≠ some nb
  new : W.heap.size ≤ nb
  grown : W.grownBy wr none
theorem PF.set {W wr : World} {nb : Nat} {n x y : Int} {u t : Value} {L : List Mem} {P : List Bool} (h : PF W wr nb n x u t L P) : PF W (wr.setCell ⟨nb, 1, none⟩ (.int .i64 y)) nb n y u t L P :=
  ⟨four_set1 h.box, h.ou.kept (grown_set _ _ _ _) (.inr h.nu), h.ot.kept (grown_set _ _ _ _) (.inr h.nt), h.ap, h.nu, h.nt, h.new, grown_new h.grown (grown_set _ _ _ _) (fun c e => by injection e with e; have := h.new; omega)⟩
theorem PF.fill {W wr : World} {nb : Nat} {n x : Int} {u t a b c d : Value} {L : List Mem} {P : List Bool} (hb : Box wr nb #[a, b, c, d] 64) (ho : OwnG encM 75 wr W.heap.size u L) (ht : OwnG encB 4 wr W.heap.size t P) (hap : ApartU u t) (hu : u.ownBlock ≠ some nb) (hn : t.ownBlock ≠ some nb) (hl : W.heap.size ≤ nb) (hg : W.grownBy wr none) : PF W (put4 wr nb (.int .i64 n) (.int .i64 x) u t) nb n x u t L P :=
  ⟨put4_box hb, ho.kept (put4_grown _ _ _ _ _ _) (.inr hu), ht.kept (put4_grown _ _ _ _ _ _) (.inr hn), hap, hu, hn, hl, grown_new hg (put4_grown _ _ _ _ _ _) (fun c e => by injection e with e; omega)⟩

end Go.Proofs.Ytochohoihmfanaa.Pe
