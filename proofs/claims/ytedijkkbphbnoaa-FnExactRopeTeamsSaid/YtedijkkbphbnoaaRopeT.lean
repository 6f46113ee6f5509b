/- Contract of the program's ropes: every one of them. -/
import Derived.Test.YtedijkkbphbnoaaRope
import Derived.Test.YtedijkkbphbnoaaSSL
namespace Go.Proofs.Ytedijkkbphbnoaa.Rop
open Go.RowKit Kit Rw Rg Crw Mn CrH Cln

/-- How many are on the next rope. -/
def nx (n : Nat) : Nat := if n = 4 then 2 else if 3 < n then 3 else n
theorem nx_bd {n : Nat} (h : 2 ≤ n) : 2 ≤ nx n ∧ nx n ≤ 3 ∧ nx n ≤ n := by unfold nx; split <;> (try split) <;> omega
def teamsN : Nat → List Int → List (List Int)
  | 0, _ => []
  | k + 1, M => if M.length < 2 then [] else M.take (nx M.length) :: teamsN k (M.drop (nx M.length))
theorem teamsN_eq : ∀ (k j : Nat) (M : List Int), M.length ≤ k → M.length ≤ j → teamsN k M = teamsN j M
  | 0, 0, _, _, _ => rfl
  | 0, j + 1, M, h, _ => by show [] = if M.length < 2 then [] else _; rw [if_pos (by omega)]
  | k + 1, 0, M, _, h => by show (if M.length < 2 then [] else _) = []; rw [if_pos (by omega)]
  | k + 1, j + 1, M, h1, h2 => by
    show (if M.length < 2 then [] else _) = if M.length < 2 then [] else _
    by_cases h : M.length < 2
    · rw [if_pos h, if_pos h]
    · rw [if_neg h, if_neg h]
      have := nx_bd (show 2 ≤ M.length by omega)
      rw [teamsN_eq k j (M.drop (nx M.length)) (by rw [List.length_drop]; omega) (by rw [List.length_drop]; omega)]
def teams (M : List Int) : List (List Int) := teamsN M.length M
theorem teams_few {M : List Int} (h : M.length < 2) : teams M = [] := by
  rw [show teams M = teamsN (M.length + 1) M from teamsN_eq _ _ M (Nat.le_refl _) (by omega)]
  show (if M.length < 2 then [] else _) = []
  rw [if_pos h]
theorem teams_step {M : List Int} (h : 2 ≤ M.length) : teams M = M.take (nx M.length) :: teams (M.drop (nx M.length)) := by
  rw [show teams M = teamsN (M.length + 1) M from teamsN_eq _ _ M (Nat.le_refl _) (by omega)]
  show (if M.length < 2 then [] else _) = _
  rw [if_neg (by omega)]
  congr 1
  exact teamsN_eq _ _ _ (by rw [List.length_drop]; omega) (Nat.le_refl _)
def teamsOf (L : List Mem) : List (List Int) := if areCrew L = true then teams (healthy L) else []

set_option maxHeartbeats 400000 in
theorem nx_any (w : World) (n : Nat) (h2 : 2 ≤ n) (hn : n ≤ 100) :
    Calls Try.prog 21 #[.int .i64 n] w fun e w' => e = .returned (.int .i64 (nx n : Nat)) ∧ w.grownBy w' none := by
  by_cases h4 : n = 4
  · subst h4
    go_enter Try.func21, Try.ntmps21
    go_wp2
    go_ret
    exact ⟨rfl, World.grownBy.refl _ _⟩
  · have hb : ((n : Int) == 4) = false := by simp; omega
    have hi : ¬ (n : Int) = 4 := by omega
    have hk : least (n : Int) 3 = (nx n : Nat) := by
      unfold least nx
      rw [if_neg h4]
      by_cases h : 3 < n
      · rw [if_pos h, if_pos (by omega)]; rfl
      · rw [if_neg h, if_neg (by omega)]
    have HK := Lib.hid hk
    clear hk
    go_enter Try.func21, Try.ntmps21
    go_wp2_with fail
    refine (min_any (n : Int) 3 _).mono ?_
    rintro e w2 ⟨rfl, hg⟩
    rw [HK.out]
    have HG := Lib.hid hg
    clear hg
    go_wp2
    go_ret
    exact ⟨rfl, HG.out⟩

set_option maxRecDepth 20000 in
set_option maxHeartbeats 4000000 in
theorem iTeamsS (w : World) (v : Value) (L : List Mem) (hv : SeesG encM w v L) (hn : L.length ≤ 1000000000) :
    Calls Try.prog 8 #[v] w fun e w' => ∃ t, e = .returned t ∧ ∃ Vs, SS w' w.heap.size t Vs (teamsOf L) ∧ w.grownBy w' none := by
  have hg0 := World.grownBy_alloc w (.cells #[] 34 (0, 0)) (none : Option Nat)
  have HW : Hid (OwnG encV 34 (w.alloc (.cells #[] 34 (0, 0))) w.heap.size (.slice (some ⟨w.heap.size, 0, none⟩) 0 0) []) := ownG_empty w
  have HG0 := Lib.hid hg0
  have HV := Lib.hid (hv.grown hg0)
  obtain ⟨i0, hi, hz0, hz1, hz2⟩ := info_parts info_row
  have ha := fun w hv => CrI.iAreCrew_any w v L hv
  clear hv hg0
  cases hcr : areCrew L
  · rw [hcr] at ha
    have HA := Lib.hid ha
    have HC : Hid (teamsOf L = []) := by show _ = _; unfold teamsOf; rw [hcr]; rfl
    clear ha hcr
    go_enter Try.func8, Try.ntmps8
    go_wp2_with fail
    refine (HA.out _ HV.out).mono ?_
    rintro e w2 ⟨rfl, hg⟩
    have HW2 := Lib.hid (HW.out.grown hg)
    have HG2 := Lib.hid (grownN_trans HG0.out hg)
    clear hg
    go_wp2
    go_ret
    exact ⟨_, rfl, [], by rw [HC.out]; exact SS.nil HW2.out, HG2.out⟩
  · rw [hcr] at ha
    have HA := Lib.hid ha
    have HC : Hid (teamsOf L = teams (healthy L)) := by show _ = _; unfold teamsOf; rw [if_pos hcr]
    have hlen : (healthy L).length ≤ 8 := Nat.le_trans (healthy_len L) (crew_len hcr).2
    clear ha hcr
    go_enter Try.func8, Try.ntmps8
    go_wp2_with fail
    refine (HA.out _ HV.out).mono ?_
    rintro e w2 ⟨rfl, hg⟩
    have HW2 := Lib.hid (HW.out.grown hg)
    have HG2 := Lib.hid (grownN_trans HG0.out hg)
    have HV2 := Lib.hid (HV.out.grown hg)
    have HL2 : Hid (w.heap.size < w2.heap.size) := by show _ < _; have := hg.size; simp only [World.size_alloc] at this; omega
    clear hg HW HG0 HV
    go_wp2_with fail
    refine (iHealthy_any w2 v L HV2.out hn).mono ?_
    rintro e W ⟨l, rfl, ho, hg⟩
    have HW3 := Lib.hid (HW2.out.grown hg)
    have HG3 := Lib.hid (grownN_trans HG2.out hg)
    have HS3 := Lib.hid (seesI ho.sees)
    have HO3 : Hid (Off W.heap.size l (.slice (some ⟨w.heap.size, 0, none⟩) 0 0)) := fun g e => by
      have h1 := ho.lt g e
      have h2 := HL2.out
      exact ⟨h1.2, fun e2 => by simp only [Value.ownBlock, Option.some.injEq] at e2; omega⟩
    clear ho hg HW2 HG2 HV2 HL2
    go_wp2
    go_loopw [3, 4] (fun t l wr => ∃ (Vs : List SV) (T : List (List Int)) (M : List Int) (a : Option Addr) (c : Nat), l = .slice a M.length c ∧ Hid (SeesG encI wr (.slice a M.length c) M) ∧ Hid (SS wr w.heap.size t Vs T) ∧ Hid (Off W.heap.size l t) ∧ Hid (T ++ teams M = teams (healthy L)) ∧ Vs.length + M.length ≤ 8 ∧ Hid (w.grownBy wr none ∧ W.heap.size ≤ wr.heap.size)) (fun _ l _ => match l with | .slice _ n _ => n | _ => 0)
    case atStart =>
      obtain ⟨la, lc, hl, _⟩ := HS3.out
      subst hl
      exact ⟨[], [], healthy L, la, lc, rfl, HS3, SS.nil HW3.out, HO3, rfl, by simp; omega, HG3.out, Nat.le_refl _⟩
    case round =>
      obtain ⟨Vs, T, M, a, c, rfl, HS, HSS, HF, HTT, hsum, HGW⟩ := hrel
      have HO := Lib.hid HSS.out.out
      by_cases h2 : 2 ≤ M.length
      · have hst := teams_step h2
        have hnb := nx_bd h2
        have HST := Lib.hid hst
        clear hst
        have h2i : (2 : Int) ≤ (M.length : Int) := by omega
        go_wp2_with fail
        refine (nx_any wr M.length h2 (by omega)).mono ?_
        rintro e w5 ⟨rfl, hg⟩
        obtain ⟨k, hk⟩ : ∃ k, k = nx M.length := ⟨_, rfl⟩
        rw [← hk] at hnb HST ⊢
        obtain ⟨hk2, hk3, hkn⟩ := hnb
        have HH5 := Lib.hid hg
        clear hk
        have HS5 := Lib.hid (HS.out.grown hg)
        have HO5 := Lib.hid (HO.out.grown hg)
        have HG5 : Hid (w.grownBy w5 none ∧ W.heap.size ≤ w5.heap.size) := ⟨grownN_trans HGW.out.1 hg, Nat.le_trans HGW.out.2 hg.size⟩
        have hcap : M.length ≤ c := by obtain ⟨_, _, e, h, _⟩ := HS.out; injection e with _ _ e; omega
        have hcM : c ≤ 9223372036854775807 := by obtain ⟨_, _, e, _, h, _⟩ := HS.out; injection e with _ _ e; unfold maxLen at h; omega
        clear hg HS HO HGW
        have hkc : (k : Int) ≤ (c : Int) := by omega
        have hk0 : (0 : Int) ≤ (k : Int) := by omega
        have hkn' : (k : Int) ≤ (M.length : Int) := by omega
        go_wp2_with fail
        refine (cloneI_any w5 _ (M.take k) (sees_to HS5.out hkn) (by rw [List.length_take]; omega)).mono ?_
        rintro e w6 ⟨y, rfl, ho, hg⟩
        obtain ⟨ya, yc, hy, _⟩ := ho.sees
        have HS6 := Lib.hid (HS5.out.grown hg)
        have HO6 := Lib.hid (HO5.out.grown hg)
        have HG6 : Hid (w.grownBy w6 none ∧ W.heap.size ≤ w6.heap.size) := ⟨grownN_trans HG5.out.1 hg, Nat.le_trans HG5.out.2 hg.size⟩
        generalize (M.take k).length = yn at hy
        subst hy
        have HX := Lib.hid (ownI ho)
        have HH6 := Lib.hid (grownN_trans HH5.out hg)
        have HH5s := Lib.hid HH5.out.size
        clear ho hg HS5 HO5
        have HLT : Hid (w.heap.size ≤ w6.heap.size) := HG6.out.1.size
        go_wp2_with (at_builtin; go_loud (refine wpListG_append_one (e := encV) _ rfl _ _ 24 rfl w.heap.size 34 i0 (.slice none 0 0) 24 Try.underlying24 hi hz0 hz1 hz2 rfl _ Vs rfl HO6.out ⟨ya, yn, yc⟩ #[.slice ya yn yc] rfl rfl trivial (by omega) (by decide) HLT.out ?_); intro v4 w7 hown hgrow hloc; have HS7 := Lib.hid (HS6.out.kept hgrow HF.out.ne); have HO7 := Lib.hid (HSS.out.snoc (x := ⟨ya, yn, yc⟩) HG5.out.1.size HH5s.out HH6.out HX.out hown hgrow hloc); have HF7 := Lib.hid (HF.out.next HG6.out.2 hloc); have HG7 : Hid (w.grownBy w7 none ∧ W.heap.size ≤ w7.heap.size) := ⟨grown_new HG6.out.1 hgrow (fun g hg => (HO6.out.lt g hg).1), Nat.le_trans HG6.out.2 hgrow.size⟩; clear hown hgrow hloc)
        go_roundw
        case rel => exact ⟨Vs ++ [⟨ya, yn, yc⟩], T ++ [M.take k], M.drop k, _, _, by rw [List.length_drop], by have := seesG_from HS7.out hkn (k := k) (by simp [encI]); rw [List.length_drop]; exact this, HO7, HF7.out.cut, by show _ = _; rw [← HTT.out, HST.out, List.append_assoc]; rfl, by simp; omega, HG7⟩
        case measure => simp; omega
      · have hM : ¬ (2 : Int) ≤ (M.length : Int) := by omega
        have HD : Hid (T = teamsOf L) := by
          have := HTT.out
          rw [teams_few (show M.length < 2 by omega), List.append_nil] at this
          show _ = _; rw [HC.out, this]
        go_wp2
        go_ret
        exact ⟨_, rfl, ⟨Vs, by rw [← HD.out]; exact HSS.out⟩, HGW.out.1⟩
end Go.Proofs.Ytedijkkbphbnoaa.Rop
