/- Contract of the model's AddDay. -/
import Derived.Test.YtbpmbbmgmpdhnaaStormS
namespace Go.Proofs.Ytbpmbbmgmpdhnaa.StormS
open Go.RowKit Kit Rw Rg Stm Md

theorem info_bool : (Try.prog.info? 4).map (fun i => (i.zero, i.size, i.bytes)) = some (some (.bool false), 1, 1) := by kernel_rfl
theorem from_block {a : Option Addr} {n cap i k m m' : Nat} {c : Nat} (h : (Value.slice (if cap = i then a else a.map (fun x => x.add k)) m m').ownBlock = some c) : (Value.slice a n cap).ownBlock = some c := by
  split at h
  · cases a with
    | none => simp [Value.ownBlock] at h
    | some x => simpa [Value.ownBlock] using h
  · cases a with
    | none => simp [Value.ownBlock] at h
    | some x =>
      simp only [Value.ownBlock, Option.map_some] at h ⊢
      rw [← h]
      simp only [Addr.add]
      split <;> rfl
set_option maxHeartbeats 1000000 in
theorem sAddDay_any (w : World) (v : Value) (L : List Bool) (b : Bool) (hv : SeesG encB w v L) (hL : L.length ≤ 100000000) :
    Calls Try.prog 55 #[v, .bool b] w fun e w' => ∃ u, e = .returned u ∧ SeesG encB w' u (addDay L b) ∧ (∀ c, u.ownBlock = some c → w.heap.size ≤ c ∧ c < w'.heap.size) ∧ w.grownBy w' none := by
  have hg0 := World.grownBy_alloc w (.cells #[] 4 (0, 0)) none
  have HV := Lib.hid (hv.grown hg0)
  have HW : Hid (OwnG encB 4 (w.alloc (.cells #[] 4 (0, 0))) w.heap.size (.slice (some ⟨w.heap.size, 0, none⟩) 0 0) []) := ownG_empty w
  have HG := Lib.hid hg0
  clear hv hg0
  obtain ⟨i0, hi, hz0, hz1, hz2⟩ := info_parts info_bool
  obtain ⟨i, hii⟩ : ∃ i, i = L.length + 1 - 10 := ⟨_, rfl⟩
  have hmx : mx 0 ((L.length : Int) + 1 - 10) = i := by unfold mx; split <;> omega
  have hM := fun w => sMax_any 0 ((L.length : Int) + 1 - 10) w
  rw [hmx] at hM
  have HM := Lib.hid hM
  have HI := Lib.hid hii
  have hil : i ≤ L.length + 1 := by omega
  clear hM hmx hii
  go_enter Try.func55, Try.ntmps55
  go_wp2_with (first
    | (at_builtin; refine wpListG_append_sees _ rfl _ _ 43 rfl w.heap.size 4 i0 (.bool false) 1 Try.underlying43 hi hz0 hz1 hz2 rfl _ [] rfl HW.out v L rfl HV.out (by unfold maxLen; simp; omega) (by simp; omega) HG.out.size ?_; intro v3 w3 hown3 hgrow3; rw [List.nil_append] at hown3; have HO3 := Lib.hid hown3; have HG3 := Lib.hid (grown_new HG.out hgrow3 (fun c hc => (HW.out.lt c hc).1)); clear hown3 hgrow3)
    | (at_builtin; go_loud (refine wpListG_append_one _ rfl _ _ 43 rfl w.heap.size 4 i0 (.bool false) 1 Try.underlying43 hi hz0 hz1 hz2 rfl _ L rfl HO3.out b #[.bool b] rfl rfl trivial (by omega) (by decide) HG3.out.size ?_); intro v4 w4 hown4 hgrow4 hnew4; have HO4 := Lib.hid hown4; have HG4 := Lib.hid (grown_new HG3.out hgrow4 (fun c hc => (HO3.out.lt c hc).1)); obtain ⟨a4, n4, c4, hv4, HN4⟩ := hown4.sees.shape; subst hv4; clear hown4 hgrow4 hnew4))
  have hn4 : n4 = L.length + 1 := by have := HN4.out; simp at this; omega
  have hw4 : wrap64 ((n4 : Int) - 10) = (L.length : Int) + 1 - 10 := by
    unfold wrap64; omega
  have hin : i ≤ n4 := by omega
  have hcap := HO4.out.sees.caps
  have hi2 : i ≤ c4 := by omega
  have hci : ¬ c4 = i := by have := HI.out; omega
  clear hn4 hil
  go_at_call 83
  rw [hw4]
  refine (HM.out _).mono ?_
  rintro e w5 ⟨rfl, rfl⟩
  go_wp2
  go_ret
  have hs := seesG_from HO4.out.sees (i := i) (k := i) (by rw [HN4.out]; exact hin) (by simp [encB])
  rw [if_neg hci] at hs
  refine ⟨_, rfl, by rw [addDay, ← HI.out]; exact hs, fun c hc => HO4.out.lt c ?_, HG4.out⟩
  exact from_block (i := i) (k := i) (by rw [if_neg hci]; exact hc)
end Go.Proofs.Ytbpmbbmgmpdhnaa.StormS
