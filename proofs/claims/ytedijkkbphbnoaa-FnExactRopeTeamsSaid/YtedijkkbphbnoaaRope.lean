/- Contracts of the ropes' teams, as far as their number goes, and of who can be roped, of the program and of its model. -/
import Derived.Test.YtedijkkbphbnoaaRopeF
import Derived.Test.YtedijkkbphbnoaaCrH
import Derived.Test.YtedijkkbphbnoaaCrS
import Derived.Test.YtedijkkbphbnoaaCrI
import Derived.Test.YtedijkkbphbnoaaCloneI
import Derived.Test.YtedijkkbphbnoaaMin
import Derived.Test.YtedijkkbphbnoaaRowD
import Derived.IntWalk
import Derived.Deep.QuietTactic
import Derived.BigQuiet
namespace Go.Proofs.Ytedijkkbphbnoaa.Rop
open Go.RowKit Kit Rw Rg Crw Mn CrH Cln

/-- 'v[:m]'. -/
theorem sees_to {α : Type} {e : Enc α} {w : World} {a : Option Addr} {n cap m : Nat} {L : List α} (h : SeesG e w (.slice a n cap) L) (hm : m ≤ L.length) : SeesG e w (.slice a m cap) (L.take m) := by
  obtain ⟨a', c, e', h1, h2, h3, h4, h5⟩ := h
  injection e' with e1 e2 e3
  subst e1; subst e2; subst e3
  have hl : (L.take m).length = m := by rw [List.length_take, Nat.min_eq_left hm]
  refine ⟨_, _, by rw [hl], by omega, h2, h3, fun x hx => h4 x (List.mem_of_mem_take hx), ?_⟩
  rcases h5 with h5 | ⟨b, o, rfl, hc⟩
  · exact .inl (by rw [h5]; simp)
  · refine .inr ⟨b, o, rfl, fun j hj => ?_⟩
    rw [hl] at hj
    have hm2 : m * e.size ≤ L.length * e.size := Nat.mul_le_mul_right _ hm
    rw [hc j (by omega)]
    have h0 : flat e L = flat e (L.take m) ++ flat e (L.drop m) := by rw [← flat_app, List.take_append_drop]
    rw [h0, List.getElem?_append_left (by rw [flat_len, hl]; exact hj)]
theorem info_row : (Try.prog.info? 34).map (fun i => (i.zero, i.size, i.bytes)) = some (some (.slice none 0 0), 1, 24) := by kernel_rfl
theorem info_int2 : (Try.prog.info? 3).map (fun i => (i.zero, i.size, i.bytes)) = some (some (.int .i64 0), 1, 8) := by kernel_rfl
/-- A slice value lies in an old block that another one does not own. -/
def Off (K : Nat) (l t : Value) : Prop := ∀ g, l.ownBlock = some g → g < K ∧ t.ownBlock ≠ some g
theorem Off.ne {K : Nat} {l t : Value} (h : Off K l t) : l.ownBlock = none ∨ l.ownBlock ≠ t.ownBlock := by
  cases e : l.ownBlock with
  | none => exact .inl rfl
  | some g => exact .inr (fun e2 => (h g e).2 e2.symm)
theorem Off.next {K : Nat} {l t t' : Value} {w : World} (h : Off K l t) (hK : K ≤ w.heap.size) (ht : t'.ownBlock = t.ownBlock ∨ ∃ g, t'.ownBlock = some g ∧ w.heap.size ≤ g) : Off K l t' := fun g e => by
  obtain ⟨h1, h2⟩ := h g e
  refine ⟨h1, fun e2 => ?_⟩
  rcases ht with h3 | ⟨g', h3, h4⟩
  · rw [h3] at e2; exact h2 e2
  · rw [h3] at e2; injection e2 with e2; omega
theorem Off.cut {K : Nat} {a : Option Addr} {n c n' c' k i : Nat} {t : Value} (h : Off K (.slice a n c) t) : Off K (.slice (if c = i then a else a.map (fun x => x.add k)) n' c') t := fun g e => by
  refine h g ?_
  cases a with
  | none => simp [Value.ownBlock] at e
  | some x =>
    by_cases hc : c = i
    · rw [if_pos hc] at e; exact e
    · rw [if_neg hc] at e
      simp only [Option.map_some, Value.ownBlock] at e ⊢
      rw [← e]
      simp [Addr.add]
      split <;> rfl

set_option maxHeartbeats 400000 in
theorem next_any (w : World) (n : Nat) (h2 : 2 ≤ n) (hn : n ≤ 100) :
    Calls Try.prog 21 #[.int .i64 n] w fun e w' => ∃ k : Nat, e = .returned (.int .i64 k) ∧ 2 ≤ k ∧ k ≤ 3 ∧ k ≤ n ∧ w.grownBy w' none := by
  by_cases h4 : n = 4
  · subst h4
    go_enter Try.func21, Try.ntmps21
    go_wp2
    go_ret
    exact ⟨2, rfl, by omega, by omega, by omega, World.grownBy.refl _ _⟩
  · have hb : ((n : Int) == 4) = false := by simp; omega
    have hi : ¬ (n : Int) = 4 := by omega
    obtain ⟨k, hk, hk2, hk3, hkn⟩ : ∃ k : Nat, least (n : Int) 3 = k ∧ 2 ≤ k ∧ k ≤ 3 ∧ k ≤ n := by
      unfold least
      by_cases h : (3 : Int) < n
      · exact ⟨3, by rw [if_pos h]; rfl, by omega, by omega, by omega⟩
      · exact ⟨n, by rw [if_neg h], h2, by omega, Nat.le_refl _⟩
    have HK := Lib.hid hk
    clear hk
    go_enter Try.func21, Try.ntmps21
    go_wp2_with fail
    refine (min_any (n : Int) 3 _).mono ?_
    rintro e w2 ⟨rfl, hg⟩
    rw [HK.out]
    have HG := Lib.hid hg
    clear hg
    go_wp2
    go_ret
    exact ⟨k, rfl, hk2, hk3, hkn, HG.out⟩

set_option maxRecDepth 20000 in
set_option maxHeartbeats 4000000 in
theorem iTeams_any (w : World) (v : Value) (L : List Mem) (hv : SeesG encM w v L) (hn : L.length ≤ 1000000000) :
    Calls Try.prog 8 #[v] w fun e w' => ∃ t Vs, e = .returned t ∧ OwnG encV 34 w' w.heap.size t Vs ∧ decide (0 < Vs.length) = canRope L ∧ w.grownBy w' none := by
  have hg0 := World.grownBy_alloc w (.cells #[] 34 (0, 0)) (none : Option Nat)
  have HW : Hid (OwnG encV 34 (w.alloc (.cells #[] 34 (0, 0))) w.heap.size (.slice (some ⟨w.heap.size, 0, none⟩) 0 0) []) := ownG_empty w
  have HG0 := Lib.hid hg0
  have HV := Lib.hid (hv.grown hg0)
  obtain ⟨i0, hi, hz0, hz1, hz2⟩ := info_parts info_row
  have ha := fun w hv => CrI.iAreCrew_any w v L hv
  clear hv hg0
  cases hcr : areCrew L
  · rw [hcr] at ha
    have HA := Lib.hid ha
    have HC := Lib.hid (can_no hcr)
    clear ha hcr
    go_enter Try.func8, Try.ntmps8
    go_wp2_with fail
    refine (HA.out _ HV.out).mono ?_
    rintro e w2 ⟨rfl, hg⟩
    have HW2 := Lib.hid (HW.out.grown hg)
    have HG2 := Lib.hid (grownN_trans HG0.out hg)
    clear hg
    go_wp2
    go_ret
    exact ⟨_, [], rfl, HW2.out, by rw [HC.out]; rfl, HG2.out⟩
  · rw [hcr] at ha
    have HA := Lib.hid ha
    have HCR := Lib.hid hcr
    have hlen : (healthy L).length ≤ 8 := Nat.le_trans (healthy_len L) (crew_len hcr).2
    clear ha hcr
    go_enter Try.func8, Try.ntmps8
    go_wp2_with fail
    refine (HA.out _ HV.out).mono ?_
    rintro e w2 ⟨rfl, hg⟩
    have HW2 := Lib.hid (HW.out.grown hg)
    have HG2 := Lib.hid (grownN_trans HG0.out hg)
    have HV2 := Lib.hid (HV.out.grown hg)
    have HL2 : Hid (w.heap.size < w2.heap.size) := by show _ < _; have := hg.size; simp only [World.size_alloc] at this; omega
    clear hg HW HG0 HV
    go_wp2_with fail
    refine (iHealthy_any w2 v L HV2.out hn).mono ?_
    rintro e W ⟨l, rfl, ho, hg⟩
    have HW3 := Lib.hid (HW2.out.grown hg)
    have HG3 := Lib.hid (grownN_trans HG2.out hg)
    have HS3 := Lib.hid (seesI ho.sees)
    have HO3 : Hid (Off W.heap.size l (.slice (some ⟨w.heap.size, 0, none⟩) 0 0)) := fun g e => by
      have h1 := ho.lt g e
      have h2 := HL2.out
      exact ⟨h1.2, fun e2 => by simp only [Value.ownBlock, Option.some.injEq] at e2; omega⟩
    clear ho hg HW2 HG2 HV2 HL2
    go_wp2
    go_loopw [3, 4] (fun t l wr => ∃ (Vs : List SV) (M : List Int) (a : Option Addr) (c : Nat), l = .slice a M.length c ∧ Hid (SeesG encI wr (.slice a M.length c) M) ∧ Hid (OwnG encV 34 wr w.heap.size t Vs) ∧ Hid (Off W.heap.size l t) ∧ ((Vs = [] ∧ M = healthy L) ∨ (0 < Vs.length ∧ 2 ≤ (healthy L).length)) ∧ Vs.length + M.length ≤ 8 ∧ Hid (w.grownBy wr none ∧ W.heap.size ≤ wr.heap.size)) (fun _ l _ => match l with | .slice _ n _ => n | _ => 0)
    case atStart =>
      obtain ⟨la, lc, hl, _⟩ := HS3.out
      subst hl
      exact ⟨[], healthy L, la, lc, rfl, HS3, HW3, HO3, .inl ⟨rfl, rfl⟩, by simp; omega, HG3.out, Nat.le_refl _⟩
    case round =>
      obtain ⟨Vs, M, a, c, rfl, HS, HO, HF, hcase, hsum, HGW⟩ := hrel
      by_cases h2 : 2 ≤ M.length
      · have hh : 2 ≤ (healthy L).length := by
          rcases hcase with ⟨_, h⟩ | ⟨_, h⟩
          · rw [← h]; exact h2
          · exact h
        have h2i : (2 : Int) ≤ (M.length : Int) := by omega
        clear hcase
        go_wp2_with fail
        refine (next_any wr M.length h2 (by omega)).mono ?_
        rintro e w5 ⟨k, rfl, hk2, hk3, hkn, hg⟩
        have HS5 := Lib.hid (HS.out.grown hg)
        have HO5 := Lib.hid (HO.out.grown hg)
        have HG5 : Hid (w.grownBy w5 none ∧ W.heap.size ≤ w5.heap.size) := ⟨grownN_trans HGW.out.1 hg, Nat.le_trans HGW.out.2 hg.size⟩
        have hcap : M.length ≤ c := by obtain ⟨_, _, e, h, _⟩ := HS.out; injection e with _ _ e; omega
        have hcM : c ≤ 9223372036854775807 := by obtain ⟨_, _, e, _, h, _⟩ := HS.out; injection e with _ _ e; unfold maxLen at h; omega
        clear hg HS HO HGW
        have hkc : (k : Int) ≤ (c : Int) := by omega
        have hk0 : (0 : Int) ≤ (k : Int) := by omega
        have hkn' : (k : Int) ≤ (M.length : Int) := by omega
        go_wp2_with fail
        refine (cloneI_any w5 _ (M.take k) (sees_to HS5.out hkn) (by rw [List.length_take]; omega)).mono ?_
        rintro e w6 ⟨y, rfl, ho, hg⟩
        obtain ⟨ya, yc, hy, _⟩ := ho.sees
        have HS6 := Lib.hid (HS5.out.grown hg)
        have HO6 := Lib.hid (HO5.out.grown hg)
        have HG6 : Hid (w.grownBy w6 none ∧ W.heap.size ≤ w6.heap.size) := ⟨grownN_trans HG5.out.1 hg, Nat.le_trans HG5.out.2 hg.size⟩
        generalize (M.take k).length = yn at hy
        subst hy
        clear ho hg HS5 HO5 HG5
        have HLT : Hid (w.heap.size ≤ w6.heap.size) := HG6.out.1.size
        go_wp2_with (at_builtin; go_loud (refine wpListG_append_one (e := encV) _ rfl _ _ 24 rfl w.heap.size 34 i0 (.slice none 0 0) 24 Try.underlying24 hi hz0 hz1 hz2 rfl _ Vs rfl HO6.out ⟨ya, yn, yc⟩ #[.slice ya yn yc] rfl rfl trivial (by omega) (by decide) HLT.out ?_); intro v4 w7 hown hgrow hloc; have HS7 := Lib.hid (HS6.out.kept hgrow HF.out.ne); have HO7 := Lib.hid hown; have HF7 := Lib.hid (HF.out.next HG6.out.2 hloc); have HG7 : Hid (w.grownBy w7 none ∧ W.heap.size ≤ w7.heap.size) := ⟨grown_new HG6.out.1 hgrow (fun g hg => (HO6.out.lt g hg).1), Nat.le_trans HG6.out.2 hgrow.size⟩; clear hown hgrow hloc)
        go_roundw
        case rel => exact ⟨Vs ++ [⟨ya, yn, yc⟩], M.drop k, _, _, by rw [List.length_drop], by have := seesG_from HS7.out hkn (k := k) (by simp [encI]); rw [List.length_drop]; exact this, HO7, HF7.out.cut, .inr ⟨by simp, hh⟩, by simp; omega, HG7⟩
        case measure => simp; omega
      · have hM : ¬ (2 : Int) ≤ (M.length : Int) := by omega
        have HD : Hid (decide (0 < Vs.length) = canRope L) := by
          show _ = _
          rcases hcase with ⟨h1, h3⟩ | ⟨h1, h3⟩
          · rw [h1, can_few (by rw [← h3]; exact h2)]; rfl
          · rw [decide_eq_true h1, can_yes HCR.out h3]
        clear hcase
        go_wp2
        go_ret
        exact ⟨_, rfl, Vs, HO.out, HD.out, HGW.out.1⟩
end Go.Proofs.Ytedijkkbphbnoaa.Rop
