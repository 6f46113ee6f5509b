/- Contracts of the laws' helpers on members and rows of members: copies, comparisons, marks, sizes. Contracts of the laws' helper on the size of a row of members: enough, or too much. Contracts of the laws' helpers on rows of bools: copies, comparisons, marks, sizes. -/
import Derived.Test.YtbpiojnehomljaaRowM
import Derived.Test.YtbpiojnehomljaaG5
import Derived.Deep.RegionHeld3
import Derived.Test.YtbpiojnehomljaaG2
import Derived.IntWalk
import Derived.Deep.QuietTactic
import Derived.BigQuiet
namespace Go.Proofs.Ytbpiojnehomljaa.LawsM
open Go.RowKit Kit Rw Rg LawsBo

theorem info_mem : (Try.prog.info? 113).map (fun i => (i.zero, i.size, i.bytes)) = some (some (.agg #[.int .i64 0, .int .i64 0, .int .i64 0, .bool false]), 4, 32) := by kernel_rfl
def mcells (x : Mem) : Array Value := #[.int .i64 x.id, .int .i64 x.str, .int .i64 x.need, .bool x.ill]
theorem four {w : World} {b : Nat} {x y z u : Value} {T : TypeId} (h : Box w b #[x, y, z, u] T) : w.cell? ⟨b, 0, none⟩ = some x ∧ w.cell? ⟨b, 1, none⟩ = some y ∧ w.cell? ⟨b, 2, none⟩ = some z ∧ w.cell? ⟨b, 3, none⟩ = some u := ⟨h.cell 0, h.cell 1, h.cell 2, h.cell 3⟩

theorem szM_any (w : World) (v : Value) (X : List Mem) (left : Int) (hv : SeesG encM w v X) (hl : 0 ≤ left) (hl' : left ≤ 1048576) :
    Calls Try.prog 55 #[v, .int .i64 left] w fun e w' => e = .returned (.int .i64 (if (X.length : Int) ≤ left then left - X.length else -1)) ∧ w = w' := by
  have hlen := hv.len
  obtain ⟨a, cap, rfl, _⟩ := hv
  by_cases h : (X.length : Int) ≤ left
  · rw [if_pos h]
    go_enter Try.func55, Try.ntmps55
    go_wp2
    go_ret
    exact ⟨rfl, rfl⟩
  · rw [if_neg h]
    have h2 : left - (X.length : Int) < 0 := by omega
    go_enter Try.func55, Try.ntmps55
    go_wp2
    go_ret
    exact ⟨rfl, rfl⟩

set_option maxHeartbeats 400000 in
theorem toMember_any (w : World) (i s n : Int) (b : Bool) :
    Calls Try.prog 95 #[.agg #[.int .i64 i, .int .i64 s, .int .i64 n, .bool b]] w fun e w' => e = .returned (.agg #[.int .i64 i, .int .i64 s, .int .i64 n, .bool b]) ∧ w.grownBy w' none := by
  have b1 := (box_new (w.alloc (.cells #[.int .i64 i, .int .i64 s, .int .i64 n, .bool b] 115 (0, 0))) #[.int .i64 i, .int .i64 s, .int .i64 n, .bool b] 113).grown (World.grownBy_alloc _ (.cells #[.int .i64 i, .int .i64 s, .int .i64 n, .bool b] 113 (0, 0)) none)
  simp only [World.size_alloc] at b1
  have HG := Lib.hid (grownN_trans (grownN_trans (World.grownBy_alloc w (.cells #[.int .i64 i, .int .i64 s, .int .i64 n, .bool b] 115 (0, 0)) none) (World.grownBy_alloc _ (.cells #[.int .i64 i, .int .i64 s, .int .i64 n, .bool b] 113 (0, 0)) none)) (World.grownBy_alloc _ (.cells #[.int .i64 i, .int .i64 s, .int .i64 n, .bool b] 113 (0, 0)) none))
  obtain ⟨c0, c1, c2, c3⟩ := four b1
  clear b1
  go_enter Try.func95, Try.ntmps95
  go_wp2
  refine bodyPost_ret (v := .agg #[.int .i64 i, .int .i64 s, .int .i64 n, .bool b]) ?_ rfl ⟨rfl, HG.out⟩
  simp [results, Try.results95, go_sem, c0, c1, c2, c3]

set_option maxRecDepth 20000 in
set_option maxHeartbeats 1000000 in
theorem to_any (w : World) (v : Value) (X : List Mem) (hv : SeesG encM w v X) (hn : X.length ≤ 100000000000) :
    Calls Try.prog 60 #[v] w fun e w' => ∃ u, e = .returned u ∧ OwnG encM 113 w' w.heap.size u X ∧ w.grownBy w' none := by
  have HV := Lib.hid hv
  have HOK := Lib.hid hv.ok
  obtain ⟨a, cap, rfl, hlc, hcm, hnil, hwf, hcell⟩ := hv
  have hn1 : X.length ≤ maxLen := by unfold maxLen; omega
  clear hwf hcm hnil hcell
  obtain ⟨i0, hi, hz0, hz1, hz2⟩ := info_parts info_mem
  go_enter Try.func60, Try.ntmps60
  go_wp2_with (at_make; refine wpListG_make (e := encM) _ rfl _ _ 51 rfl w.heap.size 113 i0 (.agg #[.int .i64 0, .int .i64 0, .int .i64 0, .bool false]) 32 Try.underlying51 hi hz0 hz1 hz2 rfl ⟨rfl, rfl, rfl⟩ .i64 .i64 _ _ X.length rfl rfl rfl rfl (by omega) hn1 (Nat.le_refl _) ?_; intro w1 hown hgrow)
  obtain ⟨Z, hZ⟩ : ∃ Z : List Mem, Z = List.replicate X.length encM.dflt := ⟨_, rfl⟩
  have hown : OwnG encM 113 w1 w.heap.size (.slice (some ⟨w.heap.size, 0, none⟩) X.length X.length) (X.take 0 ++ Z.drop 0) := by
    rw [hZ]; simpa using hown
  have hZl : Hid (X.length = Z.length) := by show _ = _; rw [hZ]; simp
  have HO := Lib.hid hown
  have HG := Lib.hid hgrow
  have HS := Lib.hid hgrow.size
  clear hown hgrow hZ
  go_loopw [4] (fun i wr => ∃ j : Nat, j ≤ X.length ∧ i = .int .i64 j ∧ Hid (OwnG encM 113 wr w.heap.size (.slice (some ⟨w.heap.size, 0, none⟩) X.length X.length) (X.take j ++ Z.drop j)) ∧ Hid (w.grownBy wr none))
    (fun i _ => X.length - (intOf i).toNat)
  case atStart => exact ⟨0, Nat.zero_le _, rfl, HO, HG⟩
  case round =>
    obtain ⟨j, hj, rfl, HO1, HG1⟩ := hrel
    by_cases hlt : j < X.length
    · obtain ⟨b, o, rfl, hb, _⟩ := HV.out.at_row hlt
      obtain ⟨e0, e1, e2, e3⟩ := HV.out.atM hlt
      rw [← Nat.add_assoc] at e1 e2 e3
      obtain ⟨x, hx⟩ : ∃ x, x = X.getD j ⟨0, 0, 0, false⟩ := ⟨_, rfl⟩
      rw [← hx] at e0 e1 e2 e3
      have d0 := HG1.out.cell e0 (by simp)
      have d1 := HG1.out.cell e1 (by simp)
      have d2 := HG1.out.cell e2 (by simp)
      have d3 := HG1.out.cell e3 (by simp)
      have HX := Lib.hid hx
      have HXO : Hid (encM.ok x) := by show encM.ok x; rw [hx]; exact HOK.out _ (memG hlt)
      clear hx e0 e1 e2 e3 hb
      obtain ⟨xi, xs, xn, xb⟩ := x
      go_wp2_with fail
      refine (toMember_any _ xi xs xn xb).mono ?_
      rintro e w3 ⟨rfl, hg⟩
      have HG3 := Lib.hid (grownN_trans HG1.out hg)
      have HO3 := Lib.hid (HO1.out.grown hg)
      clear hg d0 d1 d2 d3
      have hlj : j < (X.take j ++ Z.drop j).length := by rw [spliceG_len hZl.out hj]; exact hlt
      obtain ⟨z0, z1, z2, z3⟩ := HO3.out.cellM hlj
      obtain ⟨z, hz⟩ : ∃ z, z = (X.take j ++ Z.drop j).getD j ⟨0, 0, 0, false⟩ := ⟨_, rfl⟩
      rw [← hz] at z0 z1 z2 z3
      have f0 := HO3.out.free (j * 4)
      have f1 := HO3.out.free (j * 4 + 1)
      have f2 := HO3.out.free (j * 4 + 2)
      have f3 := HO3.out.free (j * 4 + 3)
      have hp := HO3.out.putM (spliceG_len hZl.out hj) hlj ⟨xi, xs, xn, xb⟩ HXO.out
      rw [HX.out, spliceG_set hZl.out hlt] at hp
      have HP := Lib.hid hp
      have HXE : Hid ((⟨xi, xs, xn, xb⟩ : Mem) = X.getD j ⟨0, 0, 0, false⟩) := HX.out
      clear hz hp hlj
      go_wp2
      go_roundw
      case rel =>
        have hp := HP.out
        rw [← HXE.out] at hp
        exact ⟨j + 1, by omega, by go_num, hp.1, grown_new HG3.out hp.2 (fun c h => by injection h with h; omega)⟩
      case measure => simp [intOf]; omega
    · have : j = X.length := by omega
      subst this
      go_wp2
      go_ret
      exact ⟨_, rfl, by have h := HO1.out; rw [List.take_length, hZl.out, List.drop_length, List.append_nil] at h; rw [hZl.out]; exact h, HG1.out⟩

set_option maxRecDepth 20000 in
set_option maxHeartbeats 400000 in
theorem eqMember_same (w : World) (i s n : Int) (b : Bool) :
    Calls Try.prog 100 #[.agg #[.int .i64 i, .int .i64 s, .int .i64 n, .bool b], .agg #[.int .i64 i, .int .i64 s, .int .i64 n, .bool b]] w fun e w' => e = .returned (.bool true) ∧ w.grownBy w' none := by
  have HG := Lib.hid (grownN_trans (World.grownBy_alloc w (.cells #[.int .i64 i, .int .i64 s, .int .i64 n, .bool b] 113 (0, 0)) none) (World.grownBy_alloc _ (.cells #[.int .i64 i, .int .i64 s, .int .i64 n, .bool b] 113 (0, 0)) none))
  cases b <;>
  · go_enter Try.func100, Try.ntmps100
    go_wp2
    go_ret
    exact ⟨rfl, HG.out⟩

set_option maxRecDepth 20000 in
set_option maxHeartbeats 1000000 in
theorem eq_same (w : World) (u v : Value) (X : List Mem) (hu : SeesG encM w u X) (hv : SeesG encM w v X) :
    Calls Try.prog 64 #[u, v] w fun e w' => e = .returned (.bool true) ∧ w.grownBy w' none := by
  have hl := hu.len
  have HU := Lib.hid hu
  have HV := Lib.hid hv
  obtain ⟨a, cap, rfl, _⟩ := hu
  obtain ⟨a2, cap2, rfl, _⟩ := hv
  go_enter Try.func64, Try.ntmps64
  go_wp2
  go_loopw [5] (fun i wr => ∃ j : Nat, j ≤ X.length ∧ i = .int .i64 j ∧ Hid (w.grownBy wr none)) (fun i _ => X.length - (intOf i).toNat)
  case atStart => exact ⟨0, Nat.zero_le _, rfl, World.grownBy.refl _ _⟩
  case round =>
    obtain ⟨j, hj, rfl, HG1⟩ := hrel
    by_cases hlt : j < X.length
    · obtain ⟨b, o, rfl, _, _⟩ := HU.out.at_row hlt
      obtain ⟨b2, o2, rfl, _, _⟩ := HV.out.at_row hlt
      obtain ⟨x, hx⟩ : ∃ x, X.getD j zM = x := ⟨_, rfl⟩
      have hS := fun w' (hg : w.grownBy w' none) => And.intro (atM_in HU.out hg hlt hx) (atM_in HV.out hg hlt hx)
      have HS := Lib.hid hS
      clear hS hx
      obtain ⟨xi, xs, xn, xb⟩ := x
      go_wp2_with fail
      refine wp_region_held_drew (S := fun w' => (w'.cell? ⟨b, o + j * 4, none⟩ = some (.int .i64 xi) ∧ w'.cell? ⟨b, o + j * 4 + 1, none⟩ = some (.int .i64 xs) ∧ w'.cell? ⟨b, o + j * 4 + 2, none⟩ = some (.int .i64 xn) ∧ w'.cell? ⟨b, o + j * 4 + 3, none⟩ = some (.bool xb)) ∧
        (w'.cell? ⟨b2, o2 + j * 4, none⟩ = some (.int .i64 xi) ∧ w'.cell? ⟨b2, o2 + j * 4 + 1, none⟩ = some (.int .i64 xs) ∧ w'.cell? ⟨b2, o2 + j * 4 + 2, none⟩ = some (.int .i64 xn) ∧ w'.cell? ⟨b2, o2 + j * 4 + 3, none⟩ = some (.bool xb))) (by kernel_rfl) (HS.out _ (grown_drew HG1.out)) (fun hHeld => ?_)
      refine wpAnyH_take (i := 0) (v := ?_) rfl (by kernel_rfl) (by kernel_rfl) (by kernel_rfl) (fun _ _ _ h => h) (Or.inl ⟨by rfl, ?_⟩) (by assumption) ?_; rotate_left; (focus (intro wS hSw; (try dsimp only at hSw); go_simp <;> with_reducible rfl)); (try simp only [Act.put, List.getElem_toArray, List.getElem_cons_succ, List.getElem_cons_zero, List.setIfInBounds_toArray, List.set_cons_zero, List.set_cons_succ])
      refine wpAnyH_take (i := 1) (v := ?_) rfl (by kernel_rfl) (by kernel_rfl) (by kernel_rfl) (fun _ _ _ h => h) (Or.inl ⟨by rfl, ?_⟩) (by assumption) ?_; rotate_left; (focus (intro wS hSw; (try dsimp only at hSw); go_simp <;> with_reducible rfl)); (try simp only [Act.put, List.getElem_toArray, List.getElem_cons_succ, List.getElem_cons_zero, List.setIfInBounds_toArray, List.set_cons_zero, List.set_cons_succ])
      refine wpAnyH_take (i := 2) (v := ?_) rfl (by kernel_rfl) (by kernel_rfl) (by kernel_rfl) (fun _ _ _ h => h) (Or.inl ⟨by rfl, ?_⟩) (by assumption) ?_; rotate_left; (focus (intro wS hSw; (try dsimp only at hSw); go_simp <;> with_reducible rfl)); (try simp only [Act.put, List.getElem_toArray, List.getElem_cons_succ, List.getElem_cons_zero, List.setIfInBounds_toArray, List.set_cons_zero, List.set_cons_succ])
      refine wpAnyH_take (i := 3) (v := ?_) rfl (by kernel_rfl) (by kernel_rfl) (by kernel_rfl) (fun _ _ _ h => h) (Or.inl ⟨by rfl, ?_⟩) (by assumption) ?_; rotate_left; (focus (intro wS hSw; (try dsimp only at hSw); go_simp <;> with_reducible rfl)); (try simp only [Act.put, List.getElem_toArray, List.getElem_cons_succ, List.getElem_cons_zero, List.setIfInBounds_toArray, List.set_cons_zero, List.set_cons_succ])
      refine wpAnyH_take (i := 4) (v := ?_) rfl (by kernel_rfl) (by kernel_rfl) (by kernel_rfl) (fun _ _ _ h => h) (Or.inl ⟨by rfl, ?_⟩) (by assumption) ?_; rotate_left; (focus (intro wS hSw; (try dsimp only at hSw); go_simp <;> with_reducible rfl)); (try simp only [Act.put, List.getElem_toArray, List.getElem_cons_succ, List.getElem_cons_zero, List.setIfInBounds_toArray, List.set_cons_zero, List.set_cons_succ])
      refine wpAnyH_take (i := 5) (v := ?_) rfl (by kernel_rfl) (by kernel_rfl) (by kernel_rfl) (fun _ _ _ h => h) (Or.inl ⟨by rfl, ?_⟩) (by assumption) ?_; rotate_left; (focus (intro wS hSw; (try dsimp only at hSw); go_simp <;> with_reducible rfl)); (try simp only [Act.put, List.getElem_toArray, List.getElem_cons_succ, List.getElem_cons_zero, List.setIfInBounds_toArray, List.set_cons_zero, List.set_cons_succ])
      refine wpAnyH_take (i := 6) (v := ?_) rfl (by kernel_rfl) (by kernel_rfl) (by kernel_rfl) (fun _ _ _ h => h) (Or.inl ⟨by rfl, ?_⟩) (by assumption) ?_; rotate_left; (focus (intro wS hSw; (try dsimp only at hSw); go_simp <;> with_reducible rfl)); (try simp only [Act.put, List.getElem_toArray, List.getElem_cons_succ, List.getElem_cons_zero, List.setIfInBounds_toArray, List.set_cons_zero, List.set_cons_succ])
      refine wpAnyH_take (i := 7) (v := ?_) rfl (by kernel_rfl) (by kernel_rfl) (by kernel_rfl) (fun _ _ _ h => h) (Or.inl ⟨by rfl, ?_⟩) (by assumption) ?_; rotate_left; (focus (intro wS hSw; (try dsimp only at hSw); go_simp <;> with_reducible rfl)); (try simp only [Act.put, List.getElem_toArray, List.getElem_cons_succ, List.getElem_cons_zero, List.setIfInBounds_toArray, List.set_cons_zero, List.set_cons_succ])
      refine wpAnyH_ready (rs := [8]) (by kernel_rfl) (by simp) ?_; refine AllReadyH.cons rfl (fun K hK => ?_) AllReadyH.nil; go_simp; (go_at_call 100; refine (eqMember_same _ xi xs xn xb).mono ?_; rintro e w5 ⟨rfl, hg5⟩; have HG5 := Lib.hid (grownN_trans (grown_drew HG1.out) hg5); clear hg5)
      refine hK.out _ _ ?_ (fun hHeld => ?_)
      · exact HS.out _ HG5.out
      clear hK K
      (try simp only [Act.put, List.getElem_toArray, List.getElem_cons_succ, List.getElem_cons_zero, List.setIfInBounds_toArray, List.set_cons_zero, List.set_cons_succ])
      refine wpAnyH_take (i := 9) (v := ?_) rfl (by kernel_rfl) (by kernel_rfl) (by kernel_rfl) (fun _ _ _ h => h) (Or.inl ⟨by rfl, ?_⟩) (by assumption) ?_; rotate_left; (focus (intro wS hSw; (try dsimp only at hSw); go_simp <;> with_reducible rfl)); (try simp only [Act.put, List.getElem_toArray, List.getElem_cons_succ, List.getElem_cons_zero, List.setIfInBounds_toArray, List.set_cons_zero, List.set_cons_succ])
      refine wpAnyH_done (by kernel_rfl) ?_ _
      (try simp only [Act.put, List.getElem_toArray, List.getElem_cons_succ, List.getElem_cons_zero, List.setIfInBounds_toArray, List.set_cons_zero, List.set_cons_succ])
      go_wp2
      go_roundw
      case rel => exact ⟨j + 1, by omega, by go_num, HG5⟩
      case measure => simp [intOf]; omega
    · have : j = X.length := by omega
      subst this
      go_wp2
      go_ret
      exact ⟨rfl, HG1.out⟩

def mkM (k : Nat) : Mem := ⟨(k : Int), (k : Int) + 1, (k : Int) + 2, mk3 (k + 3)⟩
/-- The marks from 'm' on. -/
def marksM (m n : Nat) : List Mem := (List.range n).map (fun j => mkM (m + 4 * j))
theorem marksM_len (m n : Nat) : (marksM m n).length = n := by simp [marksM]
theorem marksM_get {m n j : Nat} (hj : j < n) : (marksM m n).getD j zM = mkM (m + 4 * j) := by simp [marksM, hj]
theorem mk3_three (m j : Nat) : mk3 (m + 4 * j + 3) = (((m : Int) + 4 * (j : Int) + 3) % 3 == 0) := by
  unfold mk3; congr 1

end Go.Proofs.Ytbpiojnehomljaa.LawsM

namespace Go.Proofs.Ytbpiojnehomljaa.LawsM
open Go.RowKit Kit Rw Rg
theorem szM_yes (w : World) (v : Value) (X : List Mem) (left : Int) (hv : SeesG encM w v X) (h : (X.length : Int) ≤ left) (hl : 0 ≤ left) (hl' : left ≤ 1048576) :
    Calls Try.prog 55 #[v, .int .i64 left] w fun e w' => e = .returned (.int .i64 (left - (X.length : Int))) ∧ w.grownBy w' none := by
  have := szM_any w v X left hv hl hl'
  rw [if_pos h] at this
  exact this.mono fun e w' h => ⟨h.1, by rw [← h.2]; exact World.grownBy.refl _ _⟩
theorem szM_no (w : World) (v : Value) (X : List Mem) (left : Int) (hv : SeesG encM w v X) (h : ¬ (X.length : Int) ≤ left) (hl : 0 ≤ left) (hl' : left ≤ 1048576) :
    Calls Try.prog 55 #[v, .int .i64 left] w fun e w' => e = .returned (.int .i64 (-1)) ∧ w.grownBy w' none := by
  have := szM_any w v X left hv hl hl'
  rw [if_neg h] at this
  exact this.mono fun e w' h => ⟨h.1, by rw [← h.2]; exact World.grownBy.refl _ _⟩
end Go.Proofs.Ytbpiojnehomljaa.LawsM

namespace Go.Proofs.Ytbpiojnehomljaa.LawsBo
open Go.RowKit Kit Rw Rg

theorem info_bool : (Try.prog.info? 4).map (fun i => (i.zero, i.size, i.bytes)) = some (some (.bool false), 1, 1) := by kernel_rfl

/-- The marks from 'm' on. -/
def marksB (m n : Nat) : List Bool := (List.range n).map (fun j => mk3 (m + j))
theorem marksB_len (m n : Nat) : (marksB m n).length = n := by simp [marksB]
theorem marksB_get {m n j : Nat} (hj : j < n) : (marksB m n).getD j false = mk3 (m + j) := by simp [marksB, hj]
set_option maxHeartbeats 400000 in
theorem to_any (w : World) (v : Value) (X : List Bool) (hv : SeesG encB w v X) (hn : X.length ≤ 1000000000000) :
    Calls Try.prog 32 #[v] w fun e w' => ∃ u, e = .returned u ∧ OwnG encB 4 w' w.heap.size u X ∧ w.grownBy w' none := by
  have HV := Lib.hid hv
  obtain ⟨a, cap, rfl, hlc, hcm, hnil, hwf, hcell⟩ := hv
  have hn1 : X.length ≤ maxLen := by unfold maxLen; omega
  clear hwf hcm hnil hcell
  obtain ⟨i0, hi, hz0, hz1, hz2⟩ := info_parts info_bool
  go_enter Try.func32, Try.ntmps32
  go_wp2_with (at_make; refine wpListG_make (e := encB) _ rfl _ _ 44 rfl w.heap.size 4 i0 (.bool false) 1 Try.underlying44 hi hz0 hz1 hz2 rfl trivial .i64 .i64 _ _ X.length rfl rfl rfl rfl (by omega) hn1 (Nat.le_refl _) ?_; intro w1 hown hgrow)
  obtain ⟨Z, hZ⟩ : ∃ Z : List Bool, Z = List.replicate X.length encB.dflt := ⟨_, rfl⟩
  have hown : OwnG encB 4 w1 w.heap.size (.slice (some ⟨w.heap.size, 0, none⟩) X.length X.length) (X.take 0 ++ Z.drop 0) := by
    rw [hZ]; simpa using hown
  have hZl : Hid (X.length = Z.length) := by show _ = _; rw [hZ]; simp
  have HO := Lib.hid hown
  have HG := Lib.hid hgrow
  clear hown hgrow hZ
  go_loopw [4] (fun i wr => ∃ j : Nat, j ≤ X.length ∧ i = .int .i64 j ∧ Hid (OwnG encB 4 wr w.heap.size (.slice (some ⟨w.heap.size, 0, none⟩) X.length X.length) (X.take j ++ Z.drop j)) ∧ Hid (w.grownBy wr none))
    (fun i _ => X.length - (intOf i).toNat)
  case atStart => exact ⟨0, Nat.zero_le _, rfl, HO, HG⟩
  case round =>
    obtain ⟨j, hj, rfl, HO1, HG1⟩ := hrel
    by_cases hlt : j < X.length
    · obtain ⟨b, o, rfl, hb, hcj0⟩ := HV.out.at_rowB hlt
      have hcj : wr.cell? ⟨b, o + j, none⟩ = some (.bool (X.getD j false)) := HG1.out.cell hcj0 (by simp)
      clear hcj0
      have hf := HO1.out.free j
      have hd : wr.cell? ⟨w.heap.size, j, none⟩ = some (.bool (Z.getD j false)) := by
        have := HO1.out.cellAt (j := j) (by rw [spliceG_len hZl.out hj]; exact hlt) (i := 0) (by decide)
        rw [spliceG_get hZl.out hlt] at this
        simpa [encB] using this
      obtain ⟨x, hx⟩ : ∃ x, x = X.getD j false := ⟨_, rfl⟩
      obtain ⟨z, hz⟩ : ∃ z, z = Z.getD j false := ⟨_, rfl⟩
      rw [← hx] at hcj
      rw [← hz] at hd
      have HX := Lib.hid hx
      clear hx hz
      go_wp2
      go_roundw
      case rel =>
        have hp := HO1.out.put (spliceG_len hZl.out hj) (j := j) (i := 0) (u := .bool x) (x := x) (by rw [spliceG_len hZl.out hj]; exact hlt) (by decide) rfl trivial
        rw [HX.out, spliceG_set hZl.out hlt] at hp
        simp only [encB, Nat.mul_one, Nat.add_zero] at hp
        refine ⟨j + 1, by omega, by go_num, ?_, ?_⟩
        · rw [HX.out]; exact hp.1
        · rw [HX.out]; exact grown_new HG1.out hp.2 (fun c h => by injection h with h; omega)
      case measure => simp [intOf]; omega
    · have : j = X.length := by omega
      subst this
      go_wp2
      go_ret
      exact ⟨_, rfl, by have h := HO1.out; rw [List.take_length, hZl.out, List.drop_length, List.append_nil] at h; rw [hZl.out]; exact h, HG1.out⟩

set_option maxHeartbeats 400000 in
theorem eq_any (w : World) (u v : Value) (X Y : List Bool) (hu : SeesG encB w u X) (hv : SeesG encB w v Y) :
    Calls Try.prog 34 #[u, v] w fun e w' => e = .returned (.bool (decide (X = Y))) ∧ w.grownBy w' none := by
  have hl := hu.len
  have HU := Lib.hid hu
  have HV := Lib.hid hv
  obtain ⟨a, cap, rfl, _⟩ := hu
  obtain ⟨a2, cap2, rfl, _⟩ := hv
  by_cases hxy : X.length = Y.length
  · have HXY := Lib.hid hxy
    go_enter Try.func34, Try.ntmps34
    go_wp2
    go_loopw [5] (fun i wr => ∃ j : Nat, j ≤ Y.length ∧ i = .int .i64 j ∧ Hid (∀ m, m < j → X.getD m false = Y.getD m false) ∧ Hid (w.grownBy wr none))
      (fun i _ => Y.length - (intOf i).toNat)
    case atStart => exact ⟨0, Nat.zero_le _, rfl, fun m hm => absurd hm (Nat.not_lt_zero _), World.grownBy.refl _ _⟩
    case round =>
      obtain ⟨j, hj, rfl, HE, HG1⟩ := hrel
      by_cases hlt : j < Y.length
      · obtain ⟨b, o, rfl, _, hc⟩ := HU.out.at_rowB (j := j) (by omega)
        obtain ⟨b2, o2, rfl, _, hc2⟩ := HV.out.at_rowB hlt
        have hcj : wr.cell? ⟨b, o + j, none⟩ = some (.bool (X.getD j false)) := HG1.out.cell hc (by simp)
        have hcj2 : wr.cell? ⟨b2, o2 + j, none⟩ = some (.bool (Y.getD j false)) := HG1.out.cell hc2 (by simp)
        clear hc hc2
        obtain ⟨x, hx⟩ : ∃ x, x = X.getD j false := ⟨_, rfl⟩
        obtain ⟨y, hy⟩ : ∃ y, y = Y.getD j false := ⟨_, rfl⟩
        rw [← hx] at hcj
        rw [← hy] at hcj2
        have HX := Lib.hid hx
        have HY := Lib.hid hy
        clear hx hy
        by_cases hne : x = y
        · subst hne
          cases x <;>
          · go_wp2
            go_quiet (fail)
            go_wp2
            go_roundw
            case rel =>
              refine ⟨j + 1, by omega, by go_num, fun m hm => ?_, ?_⟩
              · by_cases h : m = j
                · subst h; rw [← HX.out, ← HY.out]
                · exact HE.out m (by omega)
              · exact grown_drewN HG1.out _
            case measure => simp [intOf]; omega
        · have HN : Hid (decide (X = Y) = false) := by
            show _ = _
            rw [decide_eq_false_iff_not]; intro h; exact hne (by rw [HX.out, HY.out, h])
          cases x <;> cases y <;> first | exact absurd rfl hne | skip
          all_goals
            clear hne
            go_wp2
            go_quiet (fail)
            go_wp2
            go_ret
            exact ⟨ret_bool HN.out.symm, grown_drewN HG1.out _⟩
      · go_wp2
        go_ret
        exact ⟨ret_bool (by symm; rw [decide_eq_true_iff]; exact listG_same false HXY.out (by have := HE.out; intro m hm; exact this m (by omega))), HG1.out⟩
  · go_enter Try.func34, Try.ntmps34
    go_wp2
    go_ret
    exact ⟨ret_bool (by symm; rw [decide_eq_false_iff_not]; intro h; exact hxy (by rw [h])), World.grownBy.refl _ _⟩
theorem eq_same (w : World) (u v : Value) (X : List Bool) (hu : SeesG encB w u X) (hv : SeesG encB w v X) :
    Calls Try.prog 34 #[u, v] w fun e w' => e = .returned (.bool true) ∧ w.grownBy w' none := by
  have := eq_any w u v X X hu hv
  simpa using this

end Go.Proofs.Ytbpiojnehomljaa.LawsBo
