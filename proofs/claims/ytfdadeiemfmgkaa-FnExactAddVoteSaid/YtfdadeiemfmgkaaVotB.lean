/- Contract of the model's vote that is added. -/
import Derived.Test.YtfdadeiemfmgkaaVotA
namespace Go.Proofs.Ytfdadeiemfmgkaa.VotA
open Go.RowKit Kit Rw Rg Crw Vot Tw

/-- What the model does with the votes that it has made: it hands them out, or a copy of the old ones. -/
theorem set_get_after {V : List V2} {k j : Nat} (h : k < j) (x d : V2) : (V.set k x).getD j d = V.getD j d := by
  simp [List.getElem?_set, show k ≠ j by omega]

set_option maxRecDepth 20000 in
set_option maxHeartbeats 2000000 in
theorem sAdd_any (w : World) (lv v : Value) (L : List Mem) (V : List V2) (x0 x1 : Int) (h0 : (Lit.int .i64 x0).wf = true) (h1 : (Lit.int .i64 x1).wf = true) (hl : SeesG encM w lv L) (hv : SeesG encP w v V) (hn : V.length ≤ 100000000) :
    Calls Try.prog 39 #[lv, v, .agg #[.int .i64 x0, .int .i64 x1]] w fun e w' => ∃ u, e = .returned (.tuple #[u, .bool (ok L V (x0, x1))]) ∧ OwnG encP 49 w' w.heap.size u (res L V (x0, x1)) ∧ w.grownBy w' none := by
  have hg := World.grownBy_alloc w (.cells #[.int .i64 x0, .int .i64 x1] 49 (0, 0)) (none : Option Nat)
  have HB := Lib.hid (box_new w #[.int .i64 x0, .int .i64 x1] 49)
  have HL := Lib.hid hl
  have HV := Lib.hid hv
  have HGA := Lib.hid hg
  have hg2 := World.grownBy_alloc (w.alloc (.cells #[.int .i64 x0, .int .i64 x1] 49 (0, 0))) (.cells #[] 49 (0, 0)) (none : Option Nat)
  have HW : Hid (OwnG encP 49 _ _ _ []) := ownG_empty (e := encP) (E := 49) (w.alloc (.cells #[.int .i64 x0, .int .i64 x1] 49 (0, 0)))
  have HVE := Lib.hid (hv.grown (grownN_trans hg hg2))
  have HG2 := Lib.hid (grownN_trans hg hg2)
  have HB2 := Lib.hid (HB.out.grown hg2)
  obtain ⟨i0, hi, hz0, hz1, hz2⟩ := info_parts info_vote
  have HWS : Hid (w.heap.size < (w.alloc (.cells #[.int .i64 x0, .int .i64 x1] 49 (0, 0))).heap.size) := by show _ < _; simp
  obtain ⟨va, vn, vc, rfl, HVN⟩ := hv.shape
  clear hl hv hg hg2
  go_enter Try.func39, Try.ntmps39
  go_wp2_with (at_builtin; go_loud (refine wpListG_append_sees _ rfl _ _ 25 rfl (w.heap.size + 1) 49 i0 (.agg #[.int .i64 0, .int .i64 0]) 16 Try.underlying25 hi hz0 hz1 hz2 rfl _ [] rfl (by have := HW.out; simp only [World.size_alloc] at this; exact this) _ V rfl HVE.out (by unfold maxLen; simp; omega) (by simp; omega) (by simp) ?_); intro u w3 hown3 hgrow3)
  rw [List.nil_append] at hown3
  have HO3 := Lib.hid hown3
  have hgw : World.grownBy _ w3 (some (w.heap.size + 1)) := hgrow3
  have HG3 := Lib.hid (grown_new HG2.out hgw (fun c h => by injection h with h; omega))
  have HB3 := Lib.hid (HB2.out.kept hgw (by simp))
  clear hgw
  clear hown3 hgrow3
  obtain ⟨p, hp⟩ : ∃ p, p = Wat.place (whos V) x0 0 := ⟨_, rfl⟩
  have HPL := Lib.hid hp
  have HWN : Hid ((whos V).length = V.length) := whos_len V
  obtain ⟨c0, c1⟩ := two HB3.out
  obtain ⟨a, n, cap, rfl, HN⟩ := HO3.out.sees.shape
  have hn' : n ≤ 100000000 := by rw [← HN.out]; exact hn
  clear hp
  go_wp2
  go_loopw [9, 10] (fun f i wr => ∃ j : Nat, j ≤ n ∧ i = .int .i64 j ∧ Hid (w.grownBy wr none) ∧ Hid (Box wr w.heap.size #[.int .i64 x0, .int .i64 x1] 49) ∧
      ((f = .bool false ∧ Hid (OwnG encP 49 wr (w.heap.size + 1) (.slice a n cap) V) ∧ Hid (∀ m, m < j → (whos V).getD m 0 ≠ x0)) ∨
       (f = .bool true ∧ ∃ k : Nat, k < j ∧ k < V.length ∧ Hid (p = (k : Int)) ∧ Hid (OwnG encP 49 wr (w.heap.size + 1) (.slice a n cap) (V.set k (x0, x1)))))) (fun _ i _ => n - (intOf i).toNat)
  case atStart => exact ⟨0, Nat.zero_le _, rfl, HG3, HB3, .inl ⟨rfl, HO3, fun m h => absurd h (Nat.not_lt_zero _)⟩⟩
  case round =>
    rename_i _ _ wr
    obtain ⟨j, hj, rfl, HGR, HBR, hcase⟩ := hrel
    have hgd := grown_drew (World.grownBy.refl wr (none : Option Nat))
    have HGD := Lib.hid (grownN_trans HGR.out hgd)
    have HBD := Lib.hid (HBR.out.grown hgd)
    clear c0 c1
    obtain ⟨c0, c1⟩ := two HBD.out
    by_cases hlt : j < n
    · have hjI : (j : Int) < (n : Int) := by omega
      have hj0 : (0 : Int) ≤ (j : Int) := by omega
      rcases hcase with ⟨rfl, HO, HE⟩ | ⟨rfl, k, hkj, hkn, HPK, HO⟩
      · have HOD := Lib.hid (HO.out.grown hgd)
        clear hgd
        have hjV : j < V.length := by rw [HN.out]; exact hlt
        rcases HO.out.1.2 with ⟨e, hn0⟩ | ⟨g, cap', cur, e, hb, _⟩
        · omega
        · obtain ⟨rfl, rfl, rfl⟩ : a = some ⟨g, 0, none⟩ ∧ n = V.length ∧ cap = cap' := by injection e with e1 e2 e3; exact ⟨e1, e2, e3⟩
          obtain ⟨z0, z1⟩ := HOD.out.cellP hjV
          obtain ⟨y, hy⟩ : ∃ y, y = V.getD j (0, 0) := ⟨_, rfl⟩
          rw [← hy] at z0 z1
          have HY : Hid ((whos V).getD j 0 = y.1) := by show _ = _; rw [whos_get hjV, hy]
          obtain ⟨y0, y1⟩ := y
          dsimp only at z0 z1 HY
          by_cases he : y0 = x0
          · have heb : (y0 == x0) = true := by simpa using he
            have HPK : Hid (p = (j : Int)) := by show _ = _; rw [HPL.out, Wat.place_hit (j := j) (by rw [HWN.out]; exact hjV) (by rw [HY.out, he]) HE.out, Nat.zero_add]
            have f0 := HO.out.free (j * 2)
            have f1 := HO.out.free (j * 2 + 1)
            obtain ⟨z0', z1'⟩ := HO.out.cellP hjV
            rw [← hy] at z0' z1'
            have hput := HOD.out.putP HN.out hjV (x0, x1) ⟨h0, h1⟩
            have HP := Lib.hid hput
            have HBK : Hid (w.heap.size < g) := by show _ < _; omega
            clear hput hy e
            go_wp2_with fail
            refine wp_region_held_drew (S := fun w' => w'.cell? ⟨g, j * 2, none⟩ = some (.int .i64 y0) ∧ w'.cell? ⟨w.heap.size, 0, none⟩ = some (.int .i64 x0)) (by kernel_rfl) ⟨z0, c0⟩ (fun hHeld => ?_)
            refine wpAnyH_take (i := 0) (v := ?_) rfl (by kernel_rfl) (by kernel_rfl) (by kernel_rfl) (fun _ _ _ h => h) (Or.inl ⟨by rfl, ?_⟩) (by assumption) ?_; rotate_left; (focus (intro wS hSw; (try dsimp only at hSw); go_simp <;> with_reducible rfl)); (try simp only [Act.put, List.getElem_toArray, List.getElem_cons_succ, List.getElem_cons_zero, List.setIfInBounds_toArray, List.set_cons_zero, List.set_cons_succ])
            refine wpAnyH_take (i := 1) (v := ?_) rfl (by kernel_rfl) (by kernel_rfl) (by kernel_rfl) (fun _ _ _ h => h) (Or.inl ⟨by rfl, ?_⟩) (by assumption) ?_; rotate_left; (focus (intro wS hSw; (try dsimp only at hSw); go_simp <;> with_reducible rfl)); (try simp only [Act.put, List.getElem_toArray, List.getElem_cons_succ, List.getElem_cons_zero, List.setIfInBounds_toArray, List.set_cons_zero, List.set_cons_succ])
            refine wpAnyH_take (i := 2) (v := ?_) rfl (by kernel_rfl) (by kernel_rfl) (by kernel_rfl) (fun _ _ _ h => h) (Or.inl ⟨by rfl, ?_⟩) (by assumption) ?_; rotate_left; (focus (intro wS hSw; (try dsimp only at hSw); go_simp <;> with_reducible rfl)); (try simp only [Act.put, List.getElem_toArray, List.getElem_cons_succ, List.getElem_cons_zero, List.setIfInBounds_toArray, List.set_cons_zero, List.set_cons_succ])
            refine wpAnyH_take (i := 3) (v := ?_) rfl (by kernel_rfl) (by kernel_rfl) (by kernel_rfl) (fun _ _ _ h => h) (Or.inl ⟨by rfl, ?_⟩) (by assumption) ?_; rotate_left; (focus (intro wS hSw; (try dsimp only at hSw); go_simp <;> with_reducible rfl)); (try simp only [Act.put, List.getElem_toArray, List.getElem_cons_succ, List.getElem_cons_zero, List.setIfInBounds_toArray, List.set_cons_zero, List.set_cons_succ])
            refine wpAnyH_take (i := 4) (v := ?_) rfl (by kernel_rfl) (by kernel_rfl) (by kernel_rfl) (fun _ _ _ h => h) (Or.inl ⟨by rfl, ?_⟩) (by assumption) ?_; rotate_left; (focus (intro wS hSw; (try dsimp only at hSw); go_simp <;> with_reducible rfl)); (try simp only [Act.put, List.getElem_toArray, List.getElem_cons_succ, List.getElem_cons_zero, List.setIfInBounds_toArray, List.set_cons_zero, List.set_cons_succ])
            refine wpAnyH_take (i := 5) (v := ?_) rfl (by kernel_rfl) (by kernel_rfl) (by kernel_rfl) (fun _ _ _ h => h) (Or.inl ⟨by rfl, ?_⟩) (by assumption) ?_; rotate_left; (focus (intro wS hSw; (try dsimp only at hSw); go_simp <;> with_reducible rfl)); (try simp only [Act.put, List.getElem_toArray, List.getElem_cons_succ, List.getElem_cons_zero, List.setIfInBounds_toArray, List.set_cons_zero, List.set_cons_succ])
            refine wpAnyH_take (i := 6) (v := ?_) rfl (by kernel_rfl) (by kernel_rfl) (by kernel_rfl) (fun _ _ _ h => h) (Or.inl ⟨by rfl, ?_⟩) (by assumption) ?_; rotate_left; (focus (intro wS hSw; (try dsimp only at hSw); go_simp <;> with_reducible rfl)); (try simp only [Act.put, List.getElem_toArray, List.getElem_cons_succ, List.getElem_cons_zero, List.setIfInBounds_toArray, List.set_cons_zero, List.set_cons_succ])
            refine wpAnyH_take (i := 7) (v := ?_) rfl (by kernel_rfl) (by kernel_rfl) (by kernel_rfl) (fun _ _ _ h => h) (Or.inl ⟨by rfl, ?_⟩) (by assumption) ?_; rotate_left; (focus (intro wS hSw; (try dsimp only at hSw); go_simp <;> with_reducible rfl)); (try simp only [Act.put, List.getElem_toArray, List.getElem_cons_succ, List.getElem_cons_zero, List.setIfInBounds_toArray, List.set_cons_zero, List.set_cons_succ])
            refine wpAnyH_take (i := 8) (v := ?_) rfl (by kernel_rfl) (by kernel_rfl) (by kernel_rfl) (fun _ _ _ h => h) (Or.inl ⟨by rfl, ?_⟩) (by assumption) ?_; rotate_left; (focus (intro wS hSw; (try dsimp only at hSw); go_simp <;> with_reducible rfl)); (try simp only [Act.put, List.getElem_toArray, List.getElem_cons_succ, List.getElem_cons_zero, List.setIfInBounds_toArray, List.set_cons_zero, List.set_cons_succ])
            refine wpAnyH_take (i := 9) (v := ?_) rfl (by kernel_rfl) (by kernel_rfl) (by kernel_rfl) (fun _ _ _ h => h) (Or.inl ⟨by rfl, ?_⟩) (by assumption) ?_; rotate_left; (focus (intro wS hSw; (try dsimp only at hSw); go_simp <;> with_reducible rfl)); (try simp only [Act.put, List.getElem_toArray, List.getElem_cons_succ, List.getElem_cons_zero, List.setIfInBounds_toArray, List.set_cons_zero, List.set_cons_succ])
            refine wpAnyH_take (i := 10) (v := ?_) rfl (by kernel_rfl) (by kernel_rfl) (by kernel_rfl) (fun _ _ _ h => h) (Or.inl ⟨by rfl, ?_⟩) (by assumption) ?_; rotate_left; (focus (intro wS hSw; (try dsimp only at hSw); go_simp <;> with_reducible rfl)); (try simp only [Act.put, List.getElem_toArray, List.getElem_cons_succ, List.getElem_cons_zero, List.setIfInBounds_toArray, List.set_cons_zero, List.set_cons_succ])
            refine wpAnyH_take (i := 11) (v := ?_) rfl (by kernel_rfl) (by kernel_rfl) (by kernel_rfl) (fun _ _ _ h => h) (Or.inl ⟨by rfl, ?_⟩) (by assumption) ?_; rotate_left; (focus (intro wS hSw; (try dsimp only at hSw); go_simp <;> with_reducible rfl)); (try simp only [Act.put, List.getElem_toArray, List.getElem_cons_succ, List.getElem_cons_zero, List.setIfInBounds_toArray, List.set_cons_zero, List.set_cons_succ])
            refine wpAnyH_done (by kernel_rfl) ?_ _
            (try simp only [Act.put, List.getElem_toArray, List.getElem_cons_succ, List.getElem_cons_zero, List.setIfInBounds_toArray, List.set_cons_zero, List.set_cons_succ])
            go_wp2
            go_roundw
            case rel => exact ⟨j + 1, by omega, by go_num, grown_new HGD.out HP.out.2 (fun c h => by injection h with h; have := HBK.out; omega), HBD.out.kept HP.out.2 (by have := HBK.out; simp; omega), .inr ⟨rfl, j, by omega, hjV, HPK, HP.out.1⟩⟩
            case measure => simp [intOf]; omega
          · have heb : (y0 == x0) = false := by simpa using he
            have HE2 : Hid (∀ m, m < j + 1 → (whos V).getD m 0 ≠ x0) := fun m hm => by
              by_cases h : m = j
              · subst h; rw [HY.out]; exact he
              · exact HE.out m (by omega)
            clear hy e
            go_wp2_with fail
            refine wp_region_held_drew (S := fun w' => w'.cell? ⟨g, j * 2, none⟩ = some (.int .i64 y0) ∧ w'.cell? ⟨w.heap.size, 0, none⟩ = some (.int .i64 x0)) (by kernel_rfl) ⟨z0, c0⟩ (fun hHeld => ?_)
            refine wpAnyH_take (i := 0) (v := ?_) rfl (by kernel_rfl) (by kernel_rfl) (by kernel_rfl) (fun _ _ _ h => h) (Or.inl ⟨by rfl, ?_⟩) (by assumption) ?_; rotate_left; (focus (intro wS hSw; (try dsimp only at hSw); go_simp <;> with_reducible rfl)); (try simp only [Act.put, List.getElem_toArray, List.getElem_cons_succ, List.getElem_cons_zero, List.setIfInBounds_toArray, List.set_cons_zero, List.set_cons_succ])
            refine wpAnyH_take (i := 1) (v := ?_) rfl (by kernel_rfl) (by kernel_rfl) (by kernel_rfl) (fun _ _ _ h => h) (Or.inl ⟨by rfl, ?_⟩) (by assumption) ?_; rotate_left; (focus (intro wS hSw; (try dsimp only at hSw); go_simp <;> with_reducible rfl)); (try simp only [Act.put, List.getElem_toArray, List.getElem_cons_succ, List.getElem_cons_zero, List.setIfInBounds_toArray, List.set_cons_zero, List.set_cons_succ])
            refine wpAnyH_take (i := 2) (v := ?_) rfl (by kernel_rfl) (by kernel_rfl) (by kernel_rfl) (fun _ _ _ h => h) (Or.inl ⟨by rfl, ?_⟩) (by assumption) ?_; rotate_left; (focus (intro wS hSw; (try dsimp only at hSw); go_simp <;> with_reducible rfl)); (try simp only [Act.put, List.getElem_toArray, List.getElem_cons_succ, List.getElem_cons_zero, List.setIfInBounds_toArray, List.set_cons_zero, List.set_cons_succ])
            refine wpAnyH_take (i := 3) (v := ?_) rfl (by kernel_rfl) (by kernel_rfl) (by kernel_rfl) (fun _ _ _ h => h) (Or.inl ⟨by rfl, ?_⟩) (by assumption) ?_; rotate_left; (focus (intro wS hSw; (try dsimp only at hSw); go_simp <;> with_reducible rfl)); (try simp only [Act.put, List.getElem_toArray, List.getElem_cons_succ, List.getElem_cons_zero, List.setIfInBounds_toArray, List.set_cons_zero, List.set_cons_succ])
            refine wpAnyH_take (i := 4) (v := ?_) rfl (by kernel_rfl) (by kernel_rfl) (by kernel_rfl) (fun _ _ _ h => h) (Or.inl ⟨by rfl, ?_⟩) (by assumption) ?_; rotate_left; (focus (intro wS hSw; (try dsimp only at hSw); go_simp <;> with_reducible rfl)); (try simp only [Act.put, List.getElem_toArray, List.getElem_cons_succ, List.getElem_cons_zero, List.setIfInBounds_toArray, List.set_cons_zero, List.set_cons_succ])
            refine wpAnyH_take (i := 5) (v := ?_) rfl (by kernel_rfl) (by kernel_rfl) (by kernel_rfl) (fun _ _ _ h => h) (Or.inl ⟨by rfl, ?_⟩) (by assumption) ?_; rotate_left; (focus (intro wS hSw; (try dsimp only at hSw); go_simp <;> with_reducible rfl)); (try simp only [Act.put, List.getElem_toArray, List.getElem_cons_succ, List.getElem_cons_zero, List.setIfInBounds_toArray, List.set_cons_zero, List.set_cons_succ])
            refine wpAnyH_take (i := 6) (v := ?_) rfl (by kernel_rfl) (by kernel_rfl) (by kernel_rfl) (fun _ _ _ h => h) (Or.inl ⟨by rfl, ?_⟩) (by assumption) ?_; rotate_left; (focus (intro wS hSw; (try dsimp only at hSw); go_simp <;> with_reducible rfl)); (try simp only [Act.put, List.getElem_toArray, List.getElem_cons_succ, List.getElem_cons_zero, List.setIfInBounds_toArray, List.set_cons_zero, List.set_cons_succ])
            refine wpAnyH_take (i := 7) (v := ?_) rfl (by kernel_rfl) (by kernel_rfl) (by kernel_rfl) (fun _ _ _ h => h) (Or.inl ⟨by rfl, ?_⟩) (by assumption) ?_; rotate_left; (focus (intro wS hSw; (try dsimp only at hSw); go_simp <;> with_reducible rfl)); (try simp only [Act.put, List.getElem_toArray, List.getElem_cons_succ, List.getElem_cons_zero, List.setIfInBounds_toArray, List.set_cons_zero, List.set_cons_succ])
            refine wpAnyH_take (i := 8) (v := ?_) rfl (by kernel_rfl) (by kernel_rfl) (by kernel_rfl) (fun _ _ _ h => h) (Or.inl ⟨by rfl, ?_⟩) (by assumption) ?_; rotate_left; (focus (intro wS hSw; (try dsimp only at hSw); go_simp <;> with_reducible rfl)); (try simp only [Act.put, List.getElem_toArray, List.getElem_cons_succ, List.getElem_cons_zero, List.setIfInBounds_toArray, List.set_cons_zero, List.set_cons_succ])
            refine wpAnyH_take (i := 9) (v := undef) rfl (by kernel_rfl) (by kernel_rfl) (by kernel_rfl) (fun _ _ _ h => h) (Or.inr ⟨by rfl, rfl⟩) (by assumption) ?_; (try simp only [Act.put, List.getElem_toArray, List.getElem_cons_succ, List.getElem_cons_zero, List.setIfInBounds_toArray, List.set_cons_zero, List.set_cons_succ])
            refine wpAnyH_take (i := 10) (v := undef) rfl (by kernel_rfl) (by kernel_rfl) (by kernel_rfl) (fun _ _ _ h => h) (Or.inr ⟨by rfl, rfl⟩) (by assumption) ?_; (try simp only [Act.put, List.getElem_toArray, List.getElem_cons_succ, List.getElem_cons_zero, List.setIfInBounds_toArray, List.set_cons_zero, List.set_cons_succ])
            refine wpAnyH_take (i := 11) (v := ?_) rfl (by kernel_rfl) (by kernel_rfl) (by kernel_rfl) (fun _ _ _ h => h) (Or.inl ⟨by rfl, ?_⟩) (by assumption) ?_; rotate_left; (focus (intro wS hSw; (try dsimp only at hSw); go_simp <;> with_reducible rfl)); (try simp only [Act.put, List.getElem_toArray, List.getElem_cons_succ, List.getElem_cons_zero, List.setIfInBounds_toArray, List.set_cons_zero, List.set_cons_succ])
            refine wpAnyH_done (by kernel_rfl) ?_ _
            (try simp only [Act.put, List.getElem_toArray, List.getElem_cons_succ, List.getElem_cons_zero, List.setIfInBounds_toArray, List.set_cons_zero, List.set_cons_succ])
            go_wp2
            go_roundw
            case rel => exact ⟨j + 1, by omega, by go_num, HGD, HBD, .inl ⟨rfl, HOD, HE2⟩⟩
            case measure => simp [intOf]; omega
      · have HOD := Lib.hid (HO.out.grown hgd)
        clear hgd
        have hlen : (V.set k (x0, x1)).length = n := by rw [List.length_set]; exact HN.out
        have hjV : j < (V.set k (x0, x1)).length := by rw [hlen]; exact hlt
        rcases HO.out.1.2 with ⟨e, hn0⟩ | ⟨g, cap', cur, e, hb, _⟩
        · omega
        · obtain ⟨rfl, _⟩ : a = some ⟨g, 0, none⟩ ∧ cap = cap' := by injection e with e1 e2 e3; exact ⟨e1, e3⟩
          obtain ⟨z0, z1⟩ := HOD.out.cellP hjV
          obtain ⟨y, hy⟩ : ∃ y, y = (V.set k (x0, x1)).getD j (0, 0) := ⟨_, rfl⟩
          rw [← hy] at z0 z1
          obtain ⟨y0, y1⟩ := y
          dsimp only at z0 z1
          clear hy e hlen hjV
          by_cases he : y0 = x0
          · have heb : (y0 == x0) = true := by simpa using he
            go_wp2_with fail
            refine wp_region_held_drew (S := fun w' => w'.cell? ⟨g, j * 2, none⟩ = some (.int .i64 y0) ∧ w'.cell? ⟨w.heap.size, 0, none⟩ = some (.int .i64 x0)) (by kernel_rfl) ⟨z0, c0⟩ (fun hHeld => ?_)
            refine wpAnyH_take (i := 0) (v := ?_) rfl (by kernel_rfl) (by kernel_rfl) (by kernel_rfl) (fun _ _ _ h => h) (Or.inl ⟨by rfl, ?_⟩) (by assumption) ?_; rotate_left; (focus (intro wS hSw; (try dsimp only at hSw); go_simp <;> with_reducible rfl)); (try simp only [Act.put, List.getElem_toArray, List.getElem_cons_succ, List.getElem_cons_zero, List.setIfInBounds_toArray, List.set_cons_zero, List.set_cons_succ])
            refine wpAnyH_take (i := 1) (v := ?_) rfl (by kernel_rfl) (by kernel_rfl) (by kernel_rfl) (fun _ _ _ h => h) (Or.inl ⟨by rfl, ?_⟩) (by assumption) ?_; rotate_left; (focus (intro wS hSw; (try dsimp only at hSw); go_simp <;> with_reducible rfl)); (try simp only [Act.put, List.getElem_toArray, List.getElem_cons_succ, List.getElem_cons_zero, List.setIfInBounds_toArray, List.set_cons_zero, List.set_cons_succ])
            refine wpAnyH_take (i := 2) (v := ?_) rfl (by kernel_rfl) (by kernel_rfl) (by kernel_rfl) (fun _ _ _ h => h) (Or.inl ⟨by rfl, ?_⟩) (by assumption) ?_; rotate_left; (focus (intro wS hSw; (try dsimp only at hSw); go_simp <;> with_reducible rfl)); (try simp only [Act.put, List.getElem_toArray, List.getElem_cons_succ, List.getElem_cons_zero, List.setIfInBounds_toArray, List.set_cons_zero, List.set_cons_succ])
            refine wpAnyH_take (i := 3) (v := ?_) rfl (by kernel_rfl) (by kernel_rfl) (by kernel_rfl) (fun _ _ _ h => h) (Or.inl ⟨by rfl, ?_⟩) (by assumption) ?_; rotate_left; (focus (intro wS hSw; (try dsimp only at hSw); go_simp <;> with_reducible rfl)); (try simp only [Act.put, List.getElem_toArray, List.getElem_cons_succ, List.getElem_cons_zero, List.setIfInBounds_toArray, List.set_cons_zero, List.set_cons_succ])
            refine wpAnyH_take (i := 4) (v := ?_) rfl (by kernel_rfl) (by kernel_rfl) (by kernel_rfl) (fun _ _ _ h => h) (Or.inl ⟨by rfl, ?_⟩) (by assumption) ?_; rotate_left; (focus (intro wS hSw; (try dsimp only at hSw); go_simp <;> with_reducible rfl)); (try simp only [Act.put, List.getElem_toArray, List.getElem_cons_succ, List.getElem_cons_zero, List.setIfInBounds_toArray, List.set_cons_zero, List.set_cons_succ])
            refine wpAnyH_take (i := 5) (v := ?_) rfl (by kernel_rfl) (by kernel_rfl) (by kernel_rfl) (fun _ _ _ h => h) (Or.inl ⟨by rfl, ?_⟩) (by assumption) ?_; rotate_left; (focus (intro wS hSw; (try dsimp only at hSw); go_simp <;> with_reducible rfl)); (try simp only [Act.put, List.getElem_toArray, List.getElem_cons_succ, List.getElem_cons_zero, List.setIfInBounds_toArray, List.set_cons_zero, List.set_cons_succ])
            refine wpAnyH_take (i := 6) (v := ?_) rfl (by kernel_rfl) (by kernel_rfl) (by kernel_rfl) (fun _ _ _ h => h) (Or.inl ⟨by rfl, ?_⟩) (by assumption) ?_; rotate_left; (focus (intro wS hSw; (try dsimp only at hSw); go_simp <;> with_reducible rfl)); (try simp only [Act.put, List.getElem_toArray, List.getElem_cons_succ, List.getElem_cons_zero, List.setIfInBounds_toArray, List.set_cons_zero, List.set_cons_succ])
            refine wpAnyH_take (i := 7) (v := ?_) rfl (by kernel_rfl) (by kernel_rfl) (by kernel_rfl) (fun _ _ _ h => h) (Or.inl ⟨by rfl, ?_⟩) (by assumption) ?_; rotate_left; (focus (intro wS hSw; (try dsimp only at hSw); go_simp <;> with_reducible rfl)); (try simp only [Act.put, List.getElem_toArray, List.getElem_cons_succ, List.getElem_cons_zero, List.setIfInBounds_toArray, List.set_cons_zero, List.set_cons_succ])
            refine wpAnyH_take (i := 8) (v := ?_) rfl (by kernel_rfl) (by kernel_rfl) (by kernel_rfl) (fun _ _ _ h => h) (Or.inl ⟨by rfl, ?_⟩) (by assumption) ?_; rotate_left; (focus (intro wS hSw; (try dsimp only at hSw); go_simp <;> with_reducible rfl)); (try simp only [Act.put, List.getElem_toArray, List.getElem_cons_succ, List.getElem_cons_zero, List.setIfInBounds_toArray, List.set_cons_zero, List.set_cons_succ])
            refine wpAnyH_take (i := 9) (v := ?_) rfl (by kernel_rfl) (by kernel_rfl) (by kernel_rfl) (fun _ _ _ h => h) (Or.inl ⟨by rfl, ?_⟩) (by assumption) ?_; rotate_left; (focus (intro wS hSw; (try dsimp only at hSw); go_simp <;> with_reducible rfl)); (try simp only [Act.put, List.getElem_toArray, List.getElem_cons_succ, List.getElem_cons_zero, List.setIfInBounds_toArray, List.set_cons_zero, List.set_cons_succ])
            refine wpAnyH_take (i := 10) (v := ?_) rfl (by kernel_rfl) (by kernel_rfl) (by kernel_rfl) (fun _ _ _ h => h) (Or.inl ⟨by rfl, ?_⟩) (by assumption) ?_; rotate_left; (focus (intro wS hSw; (try dsimp only at hSw); go_simp <;> with_reducible rfl)); (try simp only [Act.put, List.getElem_toArray, List.getElem_cons_succ, List.getElem_cons_zero, List.setIfInBounds_toArray, List.set_cons_zero, List.set_cons_succ])
            refine wpAnyH_take (i := 11) (v := ?_) rfl (by kernel_rfl) (by kernel_rfl) (by kernel_rfl) (fun _ _ _ h => h) (Or.inl ⟨by rfl, ?_⟩) (by assumption) ?_; rotate_left; (focus (intro wS hSw; (try dsimp only at hSw); go_simp <;> with_reducible rfl)); (try simp only [Act.put, List.getElem_toArray, List.getElem_cons_succ, List.getElem_cons_zero, List.setIfInBounds_toArray, List.set_cons_zero, List.set_cons_succ])
            refine wpAnyH_done (by kernel_rfl) ?_ _
            (try simp only [Act.put, List.getElem_toArray, List.getElem_cons_succ, List.getElem_cons_zero, List.setIfInBounds_toArray, List.set_cons_zero, List.set_cons_succ])
            go_wp2
            go_roundw
            case rel => exact ⟨j + 1, by omega, by go_num, HGD, HBD, .inr ⟨rfl, k, by omega, hkn, HPK, HOD⟩⟩
            case measure => simp [intOf]; omega
          · have heb : (y0 == x0) = false := by simpa using he
            go_wp2_with fail
            refine wp_region_held_drew (S := fun w' => w'.cell? ⟨g, j * 2, none⟩ = some (.int .i64 y0) ∧ w'.cell? ⟨w.heap.size, 0, none⟩ = some (.int .i64 x0)) (by kernel_rfl) ⟨z0, c0⟩ (fun hHeld => ?_)
            refine wpAnyH_take (i := 0) (v := ?_) rfl (by kernel_rfl) (by kernel_rfl) (by kernel_rfl) (fun _ _ _ h => h) (Or.inl ⟨by rfl, ?_⟩) (by assumption) ?_; rotate_left; (focus (intro wS hSw; (try dsimp only at hSw); go_simp <;> with_reducible rfl)); (try simp only [Act.put, List.getElem_toArray, List.getElem_cons_succ, List.getElem_cons_zero, List.setIfInBounds_toArray, List.set_cons_zero, List.set_cons_succ])
            refine wpAnyH_take (i := 1) (v := ?_) rfl (by kernel_rfl) (by kernel_rfl) (by kernel_rfl) (fun _ _ _ h => h) (Or.inl ⟨by rfl, ?_⟩) (by assumption) ?_; rotate_left; (focus (intro wS hSw; (try dsimp only at hSw); go_simp <;> with_reducible rfl)); (try simp only [Act.put, List.getElem_toArray, List.getElem_cons_succ, List.getElem_cons_zero, List.setIfInBounds_toArray, List.set_cons_zero, List.set_cons_succ])
            refine wpAnyH_take (i := 2) (v := ?_) rfl (by kernel_rfl) (by kernel_rfl) (by kernel_rfl) (fun _ _ _ h => h) (Or.inl ⟨by rfl, ?_⟩) (by assumption) ?_; rotate_left; (focus (intro wS hSw; (try dsimp only at hSw); go_simp <;> with_reducible rfl)); (try simp only [Act.put, List.getElem_toArray, List.getElem_cons_succ, List.getElem_cons_zero, List.setIfInBounds_toArray, List.set_cons_zero, List.set_cons_succ])
            refine wpAnyH_take (i := 3) (v := ?_) rfl (by kernel_rfl) (by kernel_rfl) (by kernel_rfl) (fun _ _ _ h => h) (Or.inl ⟨by rfl, ?_⟩) (by assumption) ?_; rotate_left; (focus (intro wS hSw; (try dsimp only at hSw); go_simp <;> with_reducible rfl)); (try simp only [Act.put, List.getElem_toArray, List.getElem_cons_succ, List.getElem_cons_zero, List.setIfInBounds_toArray, List.set_cons_zero, List.set_cons_succ])
            refine wpAnyH_take (i := 4) (v := ?_) rfl (by kernel_rfl) (by kernel_rfl) (by kernel_rfl) (fun _ _ _ h => h) (Or.inl ⟨by rfl, ?_⟩) (by assumption) ?_; rotate_left; (focus (intro wS hSw; (try dsimp only at hSw); go_simp <;> with_reducible rfl)); (try simp only [Act.put, List.getElem_toArray, List.getElem_cons_succ, List.getElem_cons_zero, List.setIfInBounds_toArray, List.set_cons_zero, List.set_cons_succ])
            refine wpAnyH_take (i := 5) (v := ?_) rfl (by kernel_rfl) (by kernel_rfl) (by kernel_rfl) (fun _ _ _ h => h) (Or.inl ⟨by rfl, ?_⟩) (by assumption) ?_; rotate_left; (focus (intro wS hSw; (try dsimp only at hSw); go_simp <;> with_reducible rfl)); (try simp only [Act.put, List.getElem_toArray, List.getElem_cons_succ, List.getElem_cons_zero, List.setIfInBounds_toArray, List.set_cons_zero, List.set_cons_succ])
            refine wpAnyH_take (i := 6) (v := ?_) rfl (by kernel_rfl) (by kernel_rfl) (by kernel_rfl) (fun _ _ _ h => h) (Or.inl ⟨by rfl, ?_⟩) (by assumption) ?_; rotate_left; (focus (intro wS hSw; (try dsimp only at hSw); go_simp <;> with_reducible rfl)); (try simp only [Act.put, List.getElem_toArray, List.getElem_cons_succ, List.getElem_cons_zero, List.setIfInBounds_toArray, List.set_cons_zero, List.set_cons_succ])
            refine wpAnyH_take (i := 7) (v := ?_) rfl (by kernel_rfl) (by kernel_rfl) (by kernel_rfl) (fun _ _ _ h => h) (Or.inl ⟨by rfl, ?_⟩) (by assumption) ?_; rotate_left; (focus (intro wS hSw; (try dsimp only at hSw); go_simp <;> with_reducible rfl)); (try simp only [Act.put, List.getElem_toArray, List.getElem_cons_succ, List.getElem_cons_zero, List.setIfInBounds_toArray, List.set_cons_zero, List.set_cons_succ])
            refine wpAnyH_take (i := 8) (v := ?_) rfl (by kernel_rfl) (by kernel_rfl) (by kernel_rfl) (fun _ _ _ h => h) (Or.inl ⟨by rfl, ?_⟩) (by assumption) ?_; rotate_left; (focus (intro wS hSw; (try dsimp only at hSw); go_simp <;> with_reducible rfl)); (try simp only [Act.put, List.getElem_toArray, List.getElem_cons_succ, List.getElem_cons_zero, List.setIfInBounds_toArray, List.set_cons_zero, List.set_cons_succ])
            refine wpAnyH_take (i := 9) (v := undef) rfl (by kernel_rfl) (by kernel_rfl) (by kernel_rfl) (fun _ _ _ h => h) (Or.inr ⟨by rfl, rfl⟩) (by assumption) ?_; (try simp only [Act.put, List.getElem_toArray, List.getElem_cons_succ, List.getElem_cons_zero, List.setIfInBounds_toArray, List.set_cons_zero, List.set_cons_succ])
            refine wpAnyH_take (i := 10) (v := undef) rfl (by kernel_rfl) (by kernel_rfl) (by kernel_rfl) (fun _ _ _ h => h) (Or.inr ⟨by rfl, rfl⟩) (by assumption) ?_; (try simp only [Act.put, List.getElem_toArray, List.getElem_cons_succ, List.getElem_cons_zero, List.setIfInBounds_toArray, List.set_cons_zero, List.set_cons_succ])
            refine wpAnyH_take (i := 11) (v := ?_) rfl (by kernel_rfl) (by kernel_rfl) (by kernel_rfl) (fun _ _ _ h => h) (Or.inl ⟨by rfl, ?_⟩) (by assumption) ?_; rotate_left; (focus (intro wS hSw; (try dsimp only at hSw); go_simp <;> with_reducible rfl)); (try simp only [Act.put, List.getElem_toArray, List.getElem_cons_succ, List.getElem_cons_zero, List.setIfInBounds_toArray, List.set_cons_zero, List.set_cons_succ])
            refine wpAnyH_done (by kernel_rfl) ?_ _
            (try simp only [Act.put, List.getElem_toArray, List.getElem_cons_succ, List.getElem_cons_zero, List.setIfInBounds_toArray, List.set_cons_zero, List.set_cons_succ])
            go_wp2
            go_roundw
            case rel => exact ⟨j + 1, by omega, by go_num, HGD, HBD, .inr ⟨rfl, k, by omega, hkn, HPK, HOD⟩⟩
            case measure => simp [intOf]; omega
    · have hjn : j = n := by omega
      subst hjn
      obtain ⟨e0, e1⟩ := two HBR.out
      clear c0 c1 hgd HGD HBD
      rcases hcase with ⟨rfl, HO, HE⟩ | ⟨rfl, k, hkj, hkn, HPK, HO⟩
      · have HA : Hid (addV V (x0, x1) = V ++ [(x0, x1)]) := by
          show _ = _
          have hpm : Wat.place (whos V) x0 0 = -1 := Wat.place_miss (fun m hm => HE.out m (by rw [HWN.out, HN.out] at hm; exact hm))
          unfold addV; dsimp only; rw [hpm, if_neg (by omega)]
        have HS4 := Lib.hid HGR.out.size
        have HS5 := Lib.hid HBR.out.lt
        go_wp2_with (at_builtin; go_loud (refine wpListG_append_one (e := encP) _ rfl _ _ 25 rfl (w.heap.size + 1) 49 i0 (.agg #[.int .i64 0, .int .i64 0]) 16 Try.underlying25 hi hz0 hz1 hz2 rfl _ V rfl HO.out (x0, x1) #[.int .i64 x0, .int .i64 x1] rfl rfl ⟨h0, h1⟩ (by omega) (by decide) HS5.out ?_); intro v4 w4 hown hgrow hloc; have HO4 := Lib.hid hown; have HG4 := Lib.hid (grown_new HGR.out hgrow (fun c hc => by have h1 := (HO.out.lt c hc).1; omega)); clear hown hgrow hloc; rw [← HA.out] at HO4; have HVT := Lib.hid (VotI.sVotes_any w4 lv _ L _ (HL.out.grown HG4.out) HO4.out.sees))
        refine HVT.out.mono ?_
        rintro e w5 ⟨rfl, hg⟩
        have HG5 := Lib.hid (grownN_trans HG4.out hg)
        have HO5 := Lib.hid (HO4.out.grown hg)
        clear hg
        cases hok : areVotes L (addV V (x0, x1))
        · have HR : Hid (ok L V (x0, x1) = false ∧ res L V (x0, x1) = V) := ⟨hok, by unfold res; rw [if_neg (by unfold ok; rw [hok]; simp)]⟩
          have hgz := World.grownBy_alloc w5 (.cells #[] 49 (0, 0)) (none : Option Nat)
          have HGZ := Lib.hid (grownN_trans HG5.out hgz)
          have HWZ : Hid (OwnG encP 49 (w5.alloc (.cells #[] 49 (0, 0))) w5.heap.size (.slice (some ⟨w5.heap.size, 0, none⟩) 0 0) []) := ownG_empty w5
          have HVZ := Lib.hid (HV.out.grown HGZ.out)
          have HS5 := Lib.hid HG5.out.size
          clear hok hgz
          go_wp2_with (at_builtin; go_loud (refine wpListG_append_sees _ rfl _ _ 25 rfl w5.heap.size 49 i0 (.agg #[.int .i64 0, .int .i64 0]) 16 Try.underlying25 hi hz0 hz1 hz2 rfl _ [] rfl HWZ.out _ V rfl HVZ.out (by unfold maxLen; simp; omega) (by simp; omega) (by simp) ?_); intro u6 w6 hown6 hgrow6; rw [List.nil_append] at hown6; have HO6 := Lib.hid (hown6.lower HS5.out); have HG6 := Lib.hid (grown_new HGZ.out hgrow6 (fun c hc => by have h1 := (HWZ.out.lt c hc).1; have h2 := HS5.out; omega)); clear hown6 hgrow6)
          go_ret2
          exact ⟨_, ret_t HR.out.1.symm, by rw [HR.out.2]; exact HO6.out, HG6.out⟩
        · have HR : Hid (ok L V (x0, x1) = true ∧ res L V (x0, x1) = addV V (x0, x1)) := ⟨hok, by unfold res; rw [if_pos (show ok L V (x0, x1) = true from hok)]⟩
          clear hok
          go_wp2
          go_ret2
          exact ⟨_, ret_t HR.out.1.symm, by rw [HR.out.2]; exact HO5.out.lower (Nat.le_succ _), HG5.out⟩
      · have HA : Hid (addV V (x0, x1) = V.set k (x0, x1)) := by
          show _ = _
          unfold addV; dsimp only; rw [← HPL.out, HPK.out, if_pos (by omega)]; rfl
        have HO4 := Lib.hid HO.out
        rw [← HA.out] at HO4
        have HG4 := Lib.hid HGR.out
        have HVT := Lib.hid (VotI.sVotes_any wr lv _ L _ (HL.out.grown HG4.out) HO4.out.sees)
        go_wp2_with fail
        refine HVT.out.mono ?_
        rintro e w5 ⟨rfl, hg⟩
        have HG5 := Lib.hid (grownN_trans HG4.out hg)
        have HO5 := Lib.hid (HO4.out.grown hg)
        clear hg
        cases hok : areVotes L (addV V (x0, x1))
        · have HR : Hid (ok L V (x0, x1) = false ∧ res L V (x0, x1) = V) := ⟨hok, by unfold res; rw [if_neg (by unfold ok; rw [hok]; simp)]⟩
          have hgz := World.grownBy_alloc w5 (.cells #[] 49 (0, 0)) (none : Option Nat)
          have HGZ := Lib.hid (grownN_trans HG5.out hgz)
          have HWZ : Hid (OwnG encP 49 (w5.alloc (.cells #[] 49 (0, 0))) w5.heap.size (.slice (some ⟨w5.heap.size, 0, none⟩) 0 0) []) := ownG_empty w5
          have HVZ := Lib.hid (HV.out.grown HGZ.out)
          have HS5 := Lib.hid HG5.out.size
          clear hok hgz
          go_wp2_with (at_builtin; go_loud (refine wpListG_append_sees _ rfl _ _ 25 rfl w5.heap.size 49 i0 (.agg #[.int .i64 0, .int .i64 0]) 16 Try.underlying25 hi hz0 hz1 hz2 rfl _ [] rfl HWZ.out _ V rfl HVZ.out (by unfold maxLen; simp; omega) (by simp; omega) (by simp) ?_); intro u6 w6 hown6 hgrow6; rw [List.nil_append] at hown6; have HO6 := Lib.hid (hown6.lower HS5.out); have HG6 := Lib.hid (grown_new HGZ.out hgrow6 (fun c hc => by have h1 := (HWZ.out.lt c hc).1; have h2 := HS5.out; omega)); clear hown6 hgrow6)
          go_ret2
          exact ⟨_, ret_t HR.out.1.symm, by rw [HR.out.2]; exact HO6.out, HG6.out⟩
        · have HR : Hid (ok L V (x0, x1) = true ∧ res L V (x0, x1) = addV V (x0, x1)) := ⟨hok, by unfold res; rw [if_pos (show ok L V (x0, x1) = true from hok)]⟩
          clear hok
          go_wp2
          go_ret2
          exact ⟨_, ret_t HR.out.1.symm, by rw [HR.out.2]; exact HO5.out.lower (Nat.le_succ _), HG5.out⟩
end Go.Proofs.Ytfdadeiemfmgkaa.VotA
