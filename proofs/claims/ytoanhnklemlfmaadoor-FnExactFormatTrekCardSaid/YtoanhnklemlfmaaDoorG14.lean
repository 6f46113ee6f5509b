/- A part of a row, from an element on. No condition. Contracts of the model's functions of chapter 6. Contracts of the program's functions of chapter 6: its ring of days in memory, and what is asked of it. 'make([]E, n)' at a step of a region that draws its order. No condition. Contracts of the program's functions of chapter 6 over its ring: a ring behind a past; Keeps, MayStorm. Contract of the model's Keeps. Contract of the model's AddDay. Contracts of the program's Keeps, MayStorm, copies with room and AddDay. -/
import Derived.Test.YtoanhnklemlfmaaDoorRowG
import Derived.Test.YtoanhnklemlfmaaDoorStF
import Derived.IntWalk
import Derived.Deep.RegionWith
import Derived.Deep.QuietTactic
import Derived.BigQuiet
import Derived.Test.YtoanhnklemlfmaaDoorRowE
import Derived.Test.YtoanhnklemlfmaaDoorRing
import Derived.RegionTactic
import Derived.ChangeAlike
import Derived.BigRegion
import Derived.Deep.RegionHeld3
namespace Go.Proofs.YtoanhnklemlfmaaDoor.Rg
open Go.RowKit Kit Rw
theorem flat_drop {α : Type} {e : Enc α} {L : List α} {i : Nat} (hi : i ≤ L.length) : flat e (L.drop i) = (flat e L).drop (i * e.size) := by
  have h0 : (flat e (L.take i)).length = i * e.size := by rw [flat_len, List.length_take, Nat.min_eq_left hi]
  have h1 : flat e L = flat e (L.take i) ++ flat e (L.drop i) := by rw [← flat_app, List.take_append_drop]
  rw [h1, ← h0, List.drop_left]
/-- 'v[i:]', as the walk writes it. -/
theorem seesG_from {α : Type} {e : Enc α} {w : World} {a : Option Addr} {n cap i k : Nat} {L : List α} (h : SeesG e w (.slice a n cap) L) (hi : i ≤ L.length) (hk : k = i * e.size) :
    SeesG e w (.slice (if cap = i then a else a.map (fun x => x.add k)) (n - i) (cap - i)) (L.drop i) := by
  obtain ⟨a', c, e', h1, h2, h3, h4, h5⟩ := h
  injection e' with e1 e2 e3
  subst e1; subst e2; subst e3; subst hk
  refine ⟨_, _, by rw [List.length_drop], by rw [List.length_drop]; omega, by omega, fun h => ?_, fun x hx => h4 x (List.mem_of_mem_drop hx), ?_⟩
  · have ha : a = none := by
      split at h
      · exact h
      · simpa using h
    have := h3 ha; omega
  · by_cases hlt : i < L.length
    · rcases h5 with h5 | ⟨b, o, rfl, hc⟩
      · rw [h5] at hlt; simp at hlt
      · rw [if_neg (by omega)]
        refine .inr ⟨b, o + i * e.size, by simp [Kit.add_plain], fun j hj => ?_⟩
        rw [List.length_drop] at hj
        have hm : i * e.size + j < L.length * e.size := by
          have : i * e.size + (L.length - i) * e.size = L.length * e.size := by rw [← Nat.add_mul]; congr 1; omega
          omega
        have := hc _ hm
        rw [Nat.add_assoc, this, flat_drop hi, List.getElem?_drop]
    · exact .inl (List.drop_of_length_le (by omega))
end Go.Proofs.YtoanhnklemlfmaaDoor.Rg

namespace Go.Proofs.YtoanhnklemlfmaaDoor.StormS
open Go.RowKit Kit Rw Rg Stm Md

set_option maxHeartbeats 1000000 in
theorem sStorms_any (w : World) (v : Value) (L : List Bool) (hv : SeesG encB w v L) :
    Calls Tryd.prog 97 #[v] w fun e w' => e = .returned (.int .i64 (storms L)) ∧ w = w' := by
  have hl := hv.len
  have HV := Lib.hid hv
  obtain ⟨a, cap, rfl, _⟩ := hv
  go_enter Tryd.func97, Tryd.ntmps97
  go_wp2
  go_loop [3, 4] (fun s i => ∃ j : Nat, j ≤ L.length ∧ i = .int .i64 j ∧ s = .int .i64 (storms (L.take j))) (fun _ i => L.length - (intOf i).toNat)
  case atStart => exact ⟨0, Nat.zero_le _, rfl, by simp [storms]⟩
  case round =>
    obtain ⟨j, hj, rfl, rfl⟩ := hrel
    obtain ⟨y, hy⟩ : ∃ y, y = storms (L.take j) := ⟨_, rfl⟩
    have hyj : y ≤ j := by rw [hy]; exact Nat.le_trans (storms_le _) (by simp; omega)
    rw [← hy]
    have HY := Lib.hid hy
    clear hy
    by_cases hlt : j < L.length
    · obtain ⟨x, hx⟩ : ∃ x, x = L.getD j false := ⟨_, rfl⟩
      obtain ⟨b, o, rfl, hb, hcj⟩ := HV.out.at_rowB hlt
      have HN := Lib.hid (storms_next hlt)
      rw [← hx] at hcj
      have HX := Lib.hid hx
      clear hx hb
      cases x
      · go_wp2
        go_round
        case rel => exact ⟨j + 1, by omega, by go_num, by rw [HN.out, ← HY.out, ← HX.out]; go_num⟩
        case measure => simp [intOf]; omega
      · go_wp2
        go_round
        case rel => exact ⟨j + 1, by omega, by go_num, by rw [HN.out, ← HY.out, ← HX.out]; go_num⟩
        case measure => simp [intOf]; omega
    · have : j = L.length := by omega
      subst this
      go_wp2
      go_ret
      exact ⟨ret_i64 (by rw [HY.out, List.take_length]), rfl⟩

theorem two {w : World} {b : Nat} {x y : Value} {T : TypeId} (h : Box w b #[x, y] T) : w.cell? ⟨b, 0, none⟩ = some x ∧ w.cell? ⟨b, 1, none⟩ = some y := ⟨h.cell 0, h.cell 1⟩
def mx (a b : Int) : Int := if a < b then b else a
theorem sMax_any (a b : Int) (w : World) :
    Calls Tryd.prog 120 #[.int .i64 a, .int .i64 b] w fun e w' => e = .returned (.int .i64 (mx a b)) ∧ w = w' := by
  by_cases h : a < b
  · have hm : mx a b = b := if_pos h
    rw [hm]
    go_enter Tryd.func120, Tryd.ntmps120
    go_wp2
    go_ret
    exact ⟨rfl, rfl⟩
  · have hm : mx a b = a := if_neg h
    rw [hm]
    go_enter Tryd.func120, Tryd.ntmps120
    go_wp2
    go_ret
    exact ⟨rfl, rfl⟩
theorem wrap_after {l n : Int} (h0 : 0 ≤ l) (h1 : l ≤ 9223372036854775807) (hn : 1 ≤ n ∧ n ≤ 10) : ∃ y, IntKind.i64.wrap (l + 1) = y ∧ IntKind.i64.wrap (y - n) = l + 1 - n := by
  by_cases h : l ≤ 9223372036854775806
  · exact ⟨l + 1, IntWalk.i64_in _ (by omega), IntWalk.i64_in _ (by omega)⟩
  · have : l = 9223372036854775807 := by omega
    subst this
    refine ⟨-9223372036854775808, by decide, ?_⟩
    obtain ⟨h2, h3⟩ := hn
    have : n = 1 ∨ n = 2 ∨ n = 3 ∨ n = 4 ∨ n = 5 ∨ n = 6 ∨ n = 7 ∨ n = 8 ∨ n = 9 ∨ n = 10 := by omega
    rcases this with rfl | rfl | rfl | rfl | rfl | rfl | rfl | rfl | rfl | rfl <;> decide
end Go.Proofs.YtoanhnklemlfmaaDoor.StormS

namespace Go.Proofs.YtoanhnklemlfmaaDoor.StI
open Go.RowKit Kit Rw Rg Stm Md StormS

set_option maxHeartbeats 1000000 in
theorem iStorms_any (w : World) (v : Value) (L : List Bool) (hv : SeesG encB w v L) :
    Calls Tryd.prog 100 #[v] w fun e w' => e = .returned (.int .i64 (storms L)) ∧ w = w' := by
  have hl := hv.len
  have HV := Lib.hid hv
  obtain ⟨a, cap, rfl, _⟩ := hv
  go_enter Tryd.func100, Tryd.ntmps100
  go_wp2
  go_loop [3, 8] (fun s i => ∃ j : Nat, j ≤ L.length ∧ i = .int .i64 j ∧ s = .int .i64 (storms (L.take j))) (fun _ i => L.length - (intOf i).toNat)
  case atStart => exact ⟨0, Nat.zero_le _, rfl, by simp [storms]⟩
  case round =>
    obtain ⟨j, hj, rfl, rfl⟩ := hrel
    obtain ⟨y, hy⟩ : ∃ y, y = storms (L.take j) := ⟨_, rfl⟩
    have hyj : y ≤ j := by rw [hy]; exact Nat.le_trans (storms_le _) (by simp; omega)
    rw [← hy]
    have HY := Lib.hid hy
    clear hy
    by_cases hlt : j < L.length
    · obtain ⟨x, hx⟩ : ∃ x, x = L.getD j false := ⟨_, rfl⟩
      obtain ⟨b, o, rfl, hb, hcj⟩ := HV.out.at_rowB hlt
      have HN := Lib.hid (storms_next hlt)
      rw [← hx] at hcj
      have HX := Lib.hid hx
      clear hx hb
      cases x
      · go_wp2
        go_round
        case rel => exact ⟨j + 1, by omega, by go_num, by rw [HN.out, ← HY.out, ← HX.out]; go_num⟩
        case measure => simp [intOf]; omega
      · go_wp2
        go_round
        case rel => exact ⟨j + 1, by omega, by go_num, by rw [HN.out, ← HY.out, ← HX.out]; go_num⟩
        case measure => simp [intOf]; omega
    · have : j = L.length := by omega
      subst this
      go_wp2
      go_ret
      exact ⟨ret_i64 (by rw [HY.out, List.take_length]), rfl⟩

theorem four {w : World} {b : Nat} {x y z u : Value} {T : TypeId} (h : Box w b #[x, y, z, u] T) : w.cell? ⟨b, 0, none⟩ = some x ∧ w.cell? ⟨b, 1, none⟩ = some y ∧ w.cell? ⟨b, 2, none⟩ = some z ∧ w.cell? ⟨b, 3, none⟩ = some u := ⟨h.cell 0, h.cell 1, h.cell 2, h.cell 3⟩
theorem rem_nat {n t : Nat} (ht : t < n) (hn : n ≤ 10) : IntKind.i64.wrap (((t : Int) + 1).tmod (n : Int)) = (((t + 1) % n : Nat) : Int) := by
  rw [show (t : Int) + 1 = ((t + 1 : Nat) : Int) by omega, ← Int.ofNat_tmod (t + 1) n]
  have h := Nat.mod_lt (t + 1) (show 0 < n by omega)
  obtain ⟨q, hq⟩ : ∃ q, q = (t + 1) % n := ⟨_, rfl⟩
  rw [← hq] at h ⊢
  exact IntWalk.i64_in _ (by omega)

theorem info_bool : (Tryd.prog.info? 4).map (fun i => (i.zero, i.size, i.bytes)) = some (some (.bool false), 1, 1) := by kernel_rfl

end Go.Proofs.YtoanhnklemlfmaaDoor.StI

namespace Go.Proofs.YtoanhnklemlfmaaDoor.Rg
open Go.RowKit Kit Rw
theorem step_makeG {α : Type} {e : Enc α} {P : Program} (w : World) {ops : Array Oper} {o : Oper} {a : Act} {K : Act → World → Prop} {Q : Exit → Act → World → Prop} {Z : Prop}
    (hg : o.guard = none) (l c : Operand) (t : TypeId) (hop : o.op = Op.makeSlice t l c)
    (base : Nat) (E : TypeId) (i : TypeInfo) (z : Value) (bytes : Nat) (h1 : P.underlying t = some (.slice E)) (h2 : P.info? E = some i) (h3 : i.zero = some z) (h4 : i.size = e.size) (h5 : i.bytes = bytes)
    (hz : z.cells.toList = e.cells e.dflt) (hok : e.ok e.dflt)
    (kl kc : IntKind) (L C : Int) (n : Nat) (hl : a.eval l = .int kl L) (hc : a.eval c = .int kc C) (hL : L = (n : Int)) (hC : C = (n : Int)) (b2 : bytes * n ≤ 281474976710656) (b3 : n ≤ maxLen) (b4 : base ≤ w.heap.size)
    (hK : ∀ w', OwnG e E w' base (.slice (some ⟨w.heap.size, 0, none⟩) n n) (List.replicate n e.dflt) → w.grownBy w' none → K (a.put o.dst (.slice (some ⟨w.heap.size, 0, none⟩) n n)) w') :
    if Region.wanted o (yielded ops a.tmps) = true then Oper.wp P o a w K Q else Z := by
  have hw : Region.wanted o (yielded ops a.tmps) = true := by simp [Region.wanted, hg]
  rw [if_pos hw]
  obtain ⟨w', hrun, r1, r2⟩ := run_make_full (P := P) w base t E i z e.size h1 h2 h3 h4 kl kc n (by rw [h5]; exact b2) b3 b4
  subst hL
  subst hC
  unfold Oper.wp
  simp [execOp, hop, hl, hc, hrun, Result.andThen]
  refine hK w' ⟨?_, ?_⟩ r2
  · rw [List.length_replicate, ← flat_replicate e z.cells hz]; exact r1
  · intro x hx
    rw [List.eq_of_mem_replicate hx]; exact hok
end Go.Proofs.YtoanhnklemlfmaaDoor.Rg

namespace Go.Proofs.YtoanhnklemlfmaaDoor.StI
open Go.RowKit Kit Rw Rg Stm Md StormS

end Go.Proofs.YtoanhnklemlfmaaDoor.StI

namespace Go.Proofs.YtoanhnklemlfmaaDoor.StormS
open Go.RowKit Kit Rw Rg Stm Md

/-- 'v[:m]'. -/
theorem seesG_to {α : Type} {e : Enc α} {w : World} {a : Option Addr} {n cap m : Nat} {L : List α} (h : SeesG e w (.slice a n cap) L) (hm : m ≤ L.length) : SeesG e w (.slice a m cap) (L.take m) := by
  obtain ⟨a', c, e', h1, h2, h3, h4, h5⟩ := h
  injection e' with e1 e2 e3
  subst e1; subst e2; subst e3
  have hl : (L.take m).length = m := by rw [List.length_take, Nat.min_eq_left hm]
  refine ⟨_, _, by rw [hl], by omega, h2, h3, fun x hx => h4 x (List.mem_of_mem_take hx), ?_⟩
  rcases h5 with h5 | ⟨b, o, rfl, hc⟩
  · exact .inl (by rw [h5]; simp)
  · refine .inr ⟨b, o, rfl, fun j hj => ?_⟩
    rw [hl] at hj
    have hm2 : m * e.size ≤ L.length * e.size := Nat.mul_le_mul_right _ hm
    rw [hc j (by omega)]
    have h0 : flat e L = flat e (L.take m) ++ flat e (L.drop m) := by rw [← flat_app, List.take_append_drop]
    rw [h0, List.getElem?_append_left (by rw [flat_len, hl]; exact hj)]
theorem keeps_yes {m n : Int} {L : List Bool} (hr : isRule m n = true) (h : ∀ k, k < L.length → (late n (L.take (k + 1)) : Int) ≤ m) : keeps m n L = true := by
  unfold keeps
  rw [hr, Bool.true_and, List.all_eq_true]
  intro k hk
  exact decide_eq_true (h k (List.mem_range.1 hk))
theorem keeps_no {m n : Int} {L : List Bool} {k : Nat} (hk : k < L.length) (h : ¬ (late n (L.take (k + 1)) : Int) ≤ m) : keeps m n L = false := by
  cases hq : keeps m n L with
  | false => rfl
  | true =>
    unfold keeps at hq
    rw [Bool.and_eq_true, List.all_eq_true] at hq
    exact absurd (of_decide_eq_true (hq.2 k (List.mem_range.2 hk))) h
end Go.Proofs.YtoanhnklemlfmaaDoor.StormS

namespace Go.Proofs.YtoanhnklemlfmaaDoor.StormS
open Go.RowKit Kit Rw Rg Stm Md

theorem info_bool : (Tryd.prog.info? 4).map (fun i => (i.zero, i.size, i.bytes)) = some (some (.bool false), 1, 1) := by kernel_rfl
theorem from_block {a : Option Addr} {n cap i k m m' : Nat} {c : Nat} (h : (Value.slice (if cap = i then a else a.map (fun x => x.add k)) m m').ownBlock = some c) : (Value.slice a n cap).ownBlock = some c := by
  split at h
  · cases a with
    | none => simp [Value.ownBlock] at h
    | some x => simpa [Value.ownBlock] using h
  · cases a with
    | none => simp [Value.ownBlock] at h
    | some x =>
      simp only [Value.ownBlock, Option.map_some] at h ⊢
      rw [← h]
      simp only [Addr.add]
      split <;> rfl
end Go.Proofs.YtoanhnklemlfmaaDoor.StormS

namespace Go.Proofs.YtoanhnklemlfmaaDoor.StI
open Go.RowKit Kit Rw Rg Stm Md StormS

theorem sees_nil {α : Type} (e : Enc α) (w : World) : SeesG e w (.slice none 0 0) [] := ⟨none, 0, rfl, by simp, by unfold maxLen; omega, fun _ => rfl, by simp, .inl rfl⟩
end Go.Proofs.YtoanhnklemlfmaaDoor.StI
