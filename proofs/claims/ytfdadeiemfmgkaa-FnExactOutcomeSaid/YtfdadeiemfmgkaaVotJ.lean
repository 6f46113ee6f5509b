/- Contracts of valid votes, of the program and of its model. -/
import Derived.Test.YtfdadeiemfmgkaaVotI
import Derived.Deep.RegionHeld3
namespace Go.Proofs.Ytfdadeiemfmgkaa.VotI
open Go.RowKit Kit Rw Rg Crw Vot Mb

theorem l1In_c (n l h : Int) (w : World) : Calls Try.prog 61 #[.int .i64 n, .int .i64 l, .int .i64 h] w fun e w' => e = .returned (.bool (CrS.inb n l h)) ∧ w = w' := Md.l1In_any n l h w
theorem sFind_c (w : World) (u : Value) (x : Int) (L : List Mem) (hu : SeesG encM w u L) :
    Calls Try.prog 72 #[u, .int .i64 x] w fun e w' => e = .returned (.int .i64 (Wat.place (ids L) x 0)) ∧ w = w' := (sFind_any w u x L hu).mono fun _ _ h => ⟨h.1, h.2.symm⟩

set_option maxRecDepth 20000 in
set_option maxHeartbeats 2000000 in
theorem sVotes_any (w : World) (u v : Value) (L : List Mem) (V : List V2) (hu : SeesG encM w u L) (hv : SeesG encP w v V) :
    Calls Try.prog 33 #[u, v] w fun e w' => e = .returned (.bool (areVotes L V)) ∧ w.grownBy w' none := by
  have hl := hv.len
  have HV := Lib.hid hv
  have HU := Lib.hid hu
  obtain ⟨a, cap, rfl, _⟩ := hv
  go_enter Try.func33, Try.ntmps33
  go_wp2
  go_loopw [5] (fun i wr => ∃ j : Nat, j ≤ V.length ∧ i = .int .i64 j ∧ Hid (upV L V j) ∧ Hid (w.grownBy wr none)) (fun i _ => V.length - (intOf i).toNat)
  case atStart => exact ⟨0, Nat.zero_le _, rfl, upV_zero L V, World.grownBy.refl _ _⟩
  case round =>
    rename_i _ wr
    obtain ⟨j, hj, rfl, HUP, HG⟩ := hrel
    by_cases hlt : j < V.length
    · have hj0 : (0 : Int) ≤ (j : Int) := by omega
      have hjI : (j : Int) < (V.length : Int) := by omega
      obtain ⟨b, o, rfl, _, _⟩ := HV.out.at_row hlt
      obtain ⟨x, hx⟩ : ∃ x, V.getD j (0, 0) = x := ⟨_, rfl⟩
      have HD := Lib.hid (fun w' (hg : w.grownBy w' none) => atP_in HV.out hg hlt hx)
      have HX := Lib.hid hx
      clear hx
      obtain ⟨x0, x1⟩ := x
      dsimp only at HD
      obtain ⟨d0, d1⟩ := HD.out _ HG.out
      have HF := Lib.hid (fun w' (hg : w.grownBy w' none) => sFind_c w' u x0 L (HU.out.grown hg))
      obtain ⟨p, hp⟩ : ∃ p, p = Wat.place (ids L) x0 0 := ⟨_, rfl⟩
      have HPN : Hid (p < 0 ↔ x0 ∉ ids L) := by show _ ↔ _; rw [hp]; exact place_neg
      rw [← hp] at HF
      clear hp
      by_cases hpn : p < 0
      · have HR : Hid (areVotes L V = false) := votes_bad hlt (fun h => by
          have := h.1; rw [HX.out] at this; exact HPN.out.1 hpn this)
        go_wp2_with (go_at_call 72; refine (HF.out _ HG.out).mono ?_; rintro e w3 ⟨rfl, rfl⟩)
        go_ret
        exact ⟨ret_bool HR.out.symm, HG.out⟩
      · by_cases hc : 0 ≤ x1 ∧ x1 ≤ 9
        · have hb : CrS.inb x1 0 9 = true := decide_eq_true hc
          have HC := Lib.hid hc
          have HPN2 := Lib.hid hpn
          clear hc
          go_wp2_with (first | (go_at_call 72; refine (HF.out _ HG.out).mono ?_; rintro e w3 ⟨rfl, rfl⟩) | (go_at_call 61; refine (l1In_c _ _ _ _).mono ?_; rintro e w6 ⟨rfl, rfl⟩; try rw [hb]))
          go_loopw [6] (fun i wz => ∃ k : Nat, k ≤ j ∧ i = .int .i64 k ∧ Hid (∀ m, m < k → (V.getD m (0, 0)).1 ≠ x0) ∧ Hid (w.grownBy wz none)) (fun i _ => j - (intOf i).toNat)
          case atStart => exact ⟨0, Nat.zero_le _, rfl, fun m h => absurd h (Nat.not_lt_zero _), HG⟩
          case round =>
            rename_i _ wz
            obtain ⟨k, hk, rfl, HE, HZ⟩ := hrel
            have HZ4 := Lib.hid (grownN_trans HZ.out (grown_drew (World.grownBy.refl _ none)))
            by_cases hlk : k < j
            · have hkV : k < V.length := by omega
              have hk0 : (0 : Int) ≤ (k : Int) := by omega
              have hkI : (k : Int) < (V.length : Int) := by omega
              obtain ⟨y, hy⟩ : ∃ y, V.getD k (0, 0) = y := ⟨_, rfl⟩
              have HDY := Lib.hid (fun w' (hg : w.grownBy w' none) => (atP_in HV.out hg hkV hy).1)
              have HY := Lib.hid hy
              clear hy
              obtain ⟨y0, y1⟩ := y
              dsimp only at HDY
              by_cases he : y0 = x0
              · have HR : Hid (areVotes L V = false) := votes_bad hlt (fun h => by
                  have := h.2.2 k hlk; rw [HX.out, HY.out] at this; exact this he)
                have heb : (y0 == x0) = true := by simpa using he
                go_wp2_with fail
                refine wp_region_held_drew (S := fun w' => w'.cell? ⟨b, o + k * 2, none⟩ = some (.int .i64 y0) ∧ w'.cell? ⟨b, o + j * 2, none⟩ = some (.int .i64 x0)) (by kernel_rfl) ⟨HDY.out _ HZ4.out, (HD.out _ HZ4.out).1⟩ (fun hHeld => ?_)
                refine wpAnyH_take (i := 0) (v := ?_) rfl (by kernel_rfl) (by kernel_rfl) (by kernel_rfl) (fun _ _ _ h => h) (Or.inl ⟨by rfl, ?_⟩) (by assumption) ?_; rotate_left; (focus (intro wS hSw; (try dsimp only at hSw); go_simp <;> with_reducible rfl)); (try simp only [Act.put, List.getElem_toArray, List.getElem_cons_succ, List.getElem_cons_zero, List.setIfInBounds_toArray, List.set_cons_zero, List.set_cons_succ])
                refine wpAnyH_take (i := 1) (v := ?_) rfl (by kernel_rfl) (by kernel_rfl) (by kernel_rfl) (fun _ _ _ h => h) (Or.inl ⟨by rfl, ?_⟩) (by assumption) ?_; rotate_left; (focus (intro wS hSw; (try dsimp only at hSw); go_simp <;> with_reducible rfl)); (try simp only [Act.put, List.getElem_toArray, List.getElem_cons_succ, List.getElem_cons_zero, List.setIfInBounds_toArray, List.set_cons_zero, List.set_cons_succ])
                refine wpAnyH_take (i := 2) (v := ?_) rfl (by kernel_rfl) (by kernel_rfl) (by kernel_rfl) (fun _ _ _ h => h) (Or.inl ⟨by rfl, ?_⟩) (by assumption) ?_; rotate_left; (focus (intro wS hSw; (try dsimp only at hSw); go_simp <;> with_reducible rfl)); (try simp only [Act.put, List.getElem_toArray, List.getElem_cons_succ, List.getElem_cons_zero, List.setIfInBounds_toArray, List.set_cons_zero, List.set_cons_succ])
                refine wpAnyH_take (i := 3) (v := ?_) rfl (by kernel_rfl) (by kernel_rfl) (by kernel_rfl) (fun _ _ _ h => h) (Or.inl ⟨by rfl, ?_⟩) (by assumption) ?_; rotate_left; (focus (intro wS hSw; (try dsimp only at hSw); go_simp <;> with_reducible rfl)); (try simp only [Act.put, List.getElem_toArray, List.getElem_cons_succ, List.getElem_cons_zero, List.setIfInBounds_toArray, List.set_cons_zero, List.set_cons_succ])
                refine wpAnyH_take (i := 4) (v := ?_) rfl (by kernel_rfl) (by kernel_rfl) (by kernel_rfl) (fun _ _ _ h => h) (Or.inl ⟨by rfl, ?_⟩) (by assumption) ?_; rotate_left; (focus (intro wS hSw; (try dsimp only at hSw); go_simp <;> with_reducible rfl)); (try simp only [Act.put, List.getElem_toArray, List.getElem_cons_succ, List.getElem_cons_zero, List.setIfInBounds_toArray, List.set_cons_zero, List.set_cons_succ])
                refine wpAnyH_take (i := 5) (v := ?_) rfl (by kernel_rfl) (by kernel_rfl) (by kernel_rfl) (fun _ _ _ h => h) (Or.inl ⟨by rfl, ?_⟩) (by assumption) ?_; rotate_left; (focus (intro wS hSw; (try dsimp only at hSw); go_simp <;> with_reducible rfl)); (try simp only [Act.put, List.getElem_toArray, List.getElem_cons_succ, List.getElem_cons_zero, List.setIfInBounds_toArray, List.set_cons_zero, List.set_cons_succ])
                refine wpAnyH_take (i := 6) (v := ?_) rfl (by kernel_rfl) (by kernel_rfl) (by kernel_rfl) (fun _ _ _ h => h) (Or.inl ⟨by rfl, ?_⟩) (by assumption) ?_; rotate_left; (focus (intro wS hSw; (try dsimp only at hSw); go_simp <;> with_reducible rfl)); (try simp only [Act.put, List.getElem_toArray, List.getElem_cons_succ, List.getElem_cons_zero, List.setIfInBounds_toArray, List.set_cons_zero, List.set_cons_succ])
                refine wpAnyH_take (i := 7) (v := ?_) rfl (by kernel_rfl) (by kernel_rfl) (by kernel_rfl) (fun _ _ _ h => h) (Or.inl ⟨by rfl, ?_⟩) (by assumption) ?_; rotate_left; (focus (intro wS hSw; (try dsimp only at hSw); go_simp <;> with_reducible rfl)); (try simp only [Act.put, List.getElem_toArray, List.getElem_cons_succ, List.getElem_cons_zero, List.setIfInBounds_toArray, List.set_cons_zero, List.set_cons_succ])
                refine wpAnyH_take (i := 8) (v := ?_) rfl (by kernel_rfl) (by kernel_rfl) (by kernel_rfl) (fun _ _ _ h => h) (Or.inl ⟨by rfl, ?_⟩) (by assumption) ?_; rotate_left; (focus (intro wS hSw; (try dsimp only at hSw); go_simp <;> with_reducible rfl)); (try simp only [Act.put, List.getElem_toArray, List.getElem_cons_succ, List.getElem_cons_zero, List.setIfInBounds_toArray, List.set_cons_zero, List.set_cons_succ])
                refine wpAnyH_take (i := 9) (v := ?_) rfl (by kernel_rfl) (by kernel_rfl) (by kernel_rfl) (fun _ _ _ h => h) (Or.inl ⟨by rfl, ?_⟩) (by assumption) ?_; rotate_left; (focus (intro wS hSw; (try dsimp only at hSw); go_simp <;> with_reducible rfl)); (try simp only [Act.put, List.getElem_toArray, List.getElem_cons_succ, List.getElem_cons_zero, List.setIfInBounds_toArray, List.set_cons_zero, List.set_cons_succ])
                refine wpAnyH_take (i := 10) (v := ?_) rfl (by kernel_rfl) (by kernel_rfl) (by kernel_rfl) (fun _ _ _ h => h) (Or.inl ⟨by rfl, ?_⟩) (by assumption) ?_; rotate_left; (focus (intro wS hSw; (try dsimp only at hSw); go_simp <;> with_reducible rfl)); (try simp only [Act.put, List.getElem_toArray, List.getElem_cons_succ, List.getElem_cons_zero, List.setIfInBounds_toArray, List.set_cons_zero, List.set_cons_succ])
                refine wpAnyH_done (by kernel_rfl) ?_ _
                (try simp only [Act.put, List.getElem_toArray, List.getElem_cons_succ, List.getElem_cons_zero, List.setIfInBounds_toArray, List.set_cons_zero, List.set_cons_succ])
                go_wp2
                go_ret
                exact ⟨ret_bool HR.out.symm, HZ4.out⟩
              · have heb : (y0 == x0) = false := by simpa using he
                have HE2 : Hid (∀ m, m < k + 1 → (V.getD m (0, 0)).1 ≠ x0) := fun m hm => by
                  by_cases h : m = k
                  · subst h; rw [HY.out]; exact he
                  · exact HE.out m (by omega)
                go_wp2_with fail
                refine wp_region_held_drew (S := fun w' => w'.cell? ⟨b, o + k * 2, none⟩ = some (.int .i64 y0) ∧ w'.cell? ⟨b, o + j * 2, none⟩ = some (.int .i64 x0)) (by kernel_rfl) ⟨HDY.out _ HZ4.out, (HD.out _ HZ4.out).1⟩ (fun hHeld => ?_)
                refine wpAnyH_take (i := 0) (v := ?_) rfl (by kernel_rfl) (by kernel_rfl) (by kernel_rfl) (fun _ _ _ h => h) (Or.inl ⟨by rfl, ?_⟩) (by assumption) ?_; rotate_left; (focus (intro wS hSw; (try dsimp only at hSw); go_simp <;> with_reducible rfl)); (try simp only [Act.put, List.getElem_toArray, List.getElem_cons_succ, List.getElem_cons_zero, List.setIfInBounds_toArray, List.set_cons_zero, List.set_cons_succ])
                refine wpAnyH_take (i := 1) (v := ?_) rfl (by kernel_rfl) (by kernel_rfl) (by kernel_rfl) (fun _ _ _ h => h) (Or.inl ⟨by rfl, ?_⟩) (by assumption) ?_; rotate_left; (focus (intro wS hSw; (try dsimp only at hSw); go_simp <;> with_reducible rfl)); (try simp only [Act.put, List.getElem_toArray, List.getElem_cons_succ, List.getElem_cons_zero, List.setIfInBounds_toArray, List.set_cons_zero, List.set_cons_succ])
                refine wpAnyH_take (i := 2) (v := ?_) rfl (by kernel_rfl) (by kernel_rfl) (by kernel_rfl) (fun _ _ _ h => h) (Or.inl ⟨by rfl, ?_⟩) (by assumption) ?_; rotate_left; (focus (intro wS hSw; (try dsimp only at hSw); go_simp <;> with_reducible rfl)); (try simp only [Act.put, List.getElem_toArray, List.getElem_cons_succ, List.getElem_cons_zero, List.setIfInBounds_toArray, List.set_cons_zero, List.set_cons_succ])
                refine wpAnyH_take (i := 3) (v := ?_) rfl (by kernel_rfl) (by kernel_rfl) (by kernel_rfl) (fun _ _ _ h => h) (Or.inl ⟨by rfl, ?_⟩) (by assumption) ?_; rotate_left; (focus (intro wS hSw; (try dsimp only at hSw); go_simp <;> with_reducible rfl)); (try simp only [Act.put, List.getElem_toArray, List.getElem_cons_succ, List.getElem_cons_zero, List.setIfInBounds_toArray, List.set_cons_zero, List.set_cons_succ])
                refine wpAnyH_take (i := 4) (v := ?_) rfl (by kernel_rfl) (by kernel_rfl) (by kernel_rfl) (fun _ _ _ h => h) (Or.inl ⟨by rfl, ?_⟩) (by assumption) ?_; rotate_left; (focus (intro wS hSw; (try dsimp only at hSw); go_simp <;> with_reducible rfl)); (try simp only [Act.put, List.getElem_toArray, List.getElem_cons_succ, List.getElem_cons_zero, List.setIfInBounds_toArray, List.set_cons_zero, List.set_cons_succ])
                refine wpAnyH_take (i := 5) (v := ?_) rfl (by kernel_rfl) (by kernel_rfl) (by kernel_rfl) (fun _ _ _ h => h) (Or.inl ⟨by rfl, ?_⟩) (by assumption) ?_; rotate_left; (focus (intro wS hSw; (try dsimp only at hSw); go_simp <;> with_reducible rfl)); (try simp only [Act.put, List.getElem_toArray, List.getElem_cons_succ, List.getElem_cons_zero, List.setIfInBounds_toArray, List.set_cons_zero, List.set_cons_succ])
                refine wpAnyH_take (i := 6) (v := ?_) rfl (by kernel_rfl) (by kernel_rfl) (by kernel_rfl) (fun _ _ _ h => h) (Or.inl ⟨by rfl, ?_⟩) (by assumption) ?_; rotate_left; (focus (intro wS hSw; (try dsimp only at hSw); go_simp <;> with_reducible rfl)); (try simp only [Act.put, List.getElem_toArray, List.getElem_cons_succ, List.getElem_cons_zero, List.setIfInBounds_toArray, List.set_cons_zero, List.set_cons_succ])
                refine wpAnyH_take (i := 7) (v := ?_) rfl (by kernel_rfl) (by kernel_rfl) (by kernel_rfl) (fun _ _ _ h => h) (Or.inl ⟨by rfl, ?_⟩) (by assumption) ?_; rotate_left; (focus (intro wS hSw; (try dsimp only at hSw); go_simp <;> with_reducible rfl)); (try simp only [Act.put, List.getElem_toArray, List.getElem_cons_succ, List.getElem_cons_zero, List.setIfInBounds_toArray, List.set_cons_zero, List.set_cons_succ])
                refine wpAnyH_take (i := 8) (v := ?_) rfl (by kernel_rfl) (by kernel_rfl) (by kernel_rfl) (fun _ _ _ h => h) (Or.inl ⟨by rfl, ?_⟩) (by assumption) ?_; rotate_left; (focus (intro wS hSw; (try dsimp only at hSw); go_simp <;> with_reducible rfl)); (try simp only [Act.put, List.getElem_toArray, List.getElem_cons_succ, List.getElem_cons_zero, List.setIfInBounds_toArray, List.set_cons_zero, List.set_cons_succ])
                refine wpAnyH_take (i := 9) (v := ?_) rfl (by kernel_rfl) (by kernel_rfl) (by kernel_rfl) (fun _ _ _ h => h) (Or.inl ⟨by rfl, ?_⟩) (by assumption) ?_; rotate_left; (focus (intro wS hSw; (try dsimp only at hSw); go_simp <;> with_reducible rfl)); (try simp only [Act.put, List.getElem_toArray, List.getElem_cons_succ, List.getElem_cons_zero, List.setIfInBounds_toArray, List.set_cons_zero, List.set_cons_succ])
                refine wpAnyH_take (i := 10) (v := ?_) rfl (by kernel_rfl) (by kernel_rfl) (by kernel_rfl) (fun _ _ _ h => h) (Or.inl ⟨by rfl, ?_⟩) (by assumption) ?_; rotate_left; (focus (intro wS hSw; (try dsimp only at hSw); go_simp <;> with_reducible rfl)); (try simp only [Act.put, List.getElem_toArray, List.getElem_cons_succ, List.getElem_cons_zero, List.setIfInBounds_toArray, List.set_cons_zero, List.set_cons_succ])
                refine wpAnyH_done (by kernel_rfl) ?_ _
                (try simp only [Act.put, List.getElem_toArray, List.getElem_cons_succ, List.getElem_cons_zero, List.setIfInBounds_toArray, List.set_cons_zero, List.set_cons_succ])
                go_wp2
                go_roundw
                case rel => exact ⟨k + 1, by omega, by go_num, HE2, HZ4⟩
                case measure => simp [intOf]; omega
            · have hkj : k = j := by omega
              subst hkj
              have HU2 : Hid (upV L V (k + 1)) := upV_next HUP.out ⟨by rw [HX.out]; exact Classical.byContradiction fun h => (by have h1 := HPN2.out; have h2 := HPN.out.2 h; omega), by rw [HX.out]; exact HC.out, fun m hm => by rw [HX.out]; exact HE.out m hm⟩
              go_wp2
              go_roundw
              case rel => exact ⟨k + 1, by omega, by go_num, HU2, HZ⟩
              case measure => simp [intOf]; omega
        · have hb : CrS.inb x1 0 9 = false := decide_eq_false hc
          have HR : Hid (areVotes L V = false) := votes_bad hlt (fun h => by
            have := h.2.1; rw [HX.out] at this; exact hc this)
          clear hc
          go_wp2_with (first | (go_at_call 72; refine (HF.out _ HG.out).mono ?_; rintro e w3 ⟨rfl, rfl⟩) | (go_at_call 61; refine (l1In_c _ _ _ _).mono ?_; rintro e w6 ⟨rfl, rfl⟩; try rw [hb]))
          go_ret
          exact ⟨ret_bool HR.out.symm, HG.out⟩
    · have : j = V.length := by omega
      subst this
      have HR : Hid (areVotes L V = areCrew L) := votes_end HUP.out
      have HA := Lib.hid (CrS.sAreCrew_any wr u L (HU.out.grown HG.out))
      go_wp2_with fail
      refine HA.out.mono ?_
      rintro e w3 ⟨rfl, hg⟩
      have HG3 := Lib.hid (grownN_trans HG.out hg)
      clear hg
      go_wp2
      go_ret
      exact ⟨ret_bool HR.out.symm, HG3.out⟩

set_option maxRecDepth 20000 in
set_option maxHeartbeats 2000000 in
theorem iVotes_any (w : World) (u v : Value) (L : List Mem) (V : List V2) (hu : SeesG encM w u L) (hv : SeesG encP w v V) :
    Calls Try.prog 34 #[u, v] w fun e w' => e = .returned (.bool (areVotes L V)) ∧ w.grownBy w' none := by
  have hl := hv.len
  have HV := Lib.hid hv
  have HVO := Lib.hid hv.ok
  have HU := Lib.hid hu
  obtain ⟨a, cap, rfl, _⟩ := hv
  have HA := Lib.hid (CrI.iAreCrew_any w u L hu)
  clear hu
  go_enter Try.func34, Try.ntmps34
  go_wp2_with fail
  refine HA.out.mono ?_
  rintro e w2 ⟨rfl, hg⟩
  have HG2 := Lib.hid hg
  clear hg
  cases hc : areCrew L
  · have HR : Hid (areVotes L V = false) := votes_no hc
    clear hc
    go_wp2
    go_ret
    exact ⟨ret_bool HR.out.symm, HG2.out⟩
  · have HCR := Lib.hid hc
    have HO := Lib.hid (openVotes_any w2 u L (HU.out.grown HG2.out) (crew_len hc).2)
    clear hc
    go_wp2_with fail
    refine HO.out.mono ?_
    rintro e w3 ⟨mb, rfl, hm, hmb, hg⟩
    have HG3 := Lib.hid (grownN_trans HG2.out hg)
    have HMB : Hid (w.heap.size ≤ mb) := Nat.le_trans HG2.out.size hmb
    have HM0 : Hid (IsS w3 mb L.length (openTo L V 0)) := by rw [openTo_zero]; exact hm
    clear hm hmb hg
    go_wp2
    go_loopw [15] (fun i wr => ∃ j : Nat, j ≤ V.length ∧ i = .int .i64 j ∧ Hid (upV L V j) ∧ Hid (IsS wr mb L.length (openTo L V j)) ∧ Hid (w.grownBy wr none)) (fun i _ => V.length - (intOf i).toNat)
    case atStart => exact ⟨0, Nat.zero_le _, rfl, upV_zero L V, HM0, HG3⟩
    case round =>
      rename_i _ wr
      obtain ⟨j, hj, rfl, HUP, HM, HG⟩ := hrel
      by_cases hlt : j < V.length
      · obtain ⟨b, o, rfl, _, _⟩ := HV.out.at_row hlt
        obtain ⟨x, hx⟩ : ∃ x, V.getD j (0, 0) = x := ⟨_, rfl⟩
        obtain ⟨d0, d1⟩ := atP_in HV.out HG.out hlt hx
        have hxi : (Lit.int .i64 x.1).wf = true := by rw [← hx]; exact (HVO.out _ (memG hlt)).1
        have HXI := Lib.hid (i64_of hxi)
        have HX := Lib.hid hx
        have HKO := Lib.hid (okV_open (L := L) (V := V) (j := j))
        have HON := Lib.hid (openTo_next (L := L) (V := V) (j := j))
        rw [HX.out] at HKO HON
        clear hx hxi
        obtain ⟨x0, x1⟩ := x
        dsimp only at d0 d1 HXI HKO HON
        have hga := World.grownBy_alloc wr (.cells #[.int .i64 x0, .int .i64 x1] 49 (0, 0)) none
        have HG1 := Lib.hid (grownN_trans HG.out hga)
        have HM1 := Lib.hid (HM.out.grown hga)
        have HB := Lib.hid (box_new wr #[.int .i64 x0, .int .i64 x1] 49)
        clear hga
        cases hd : decide (x0 ∈ openTo L V j)
        · have HR : Hid (areVotes L V = false) := votes_bad hlt (fun h => of_decide_eq_false hd (HKO.out.1 h).1)
          go_wp2_with (at_lookup; go_loud (refine wpS_lookup _ rfl _ _ 84 rfl Try.underlying84 mb L.length _ rfl HM1.out x0 (i64_mk HXI.out) rfl ?_); rw [hd])
          go_ret
          exact ⟨ret_bool HR.out.symm, HG1.out⟩
        · by_cases hc : 0 ≤ x1 ∧ x1 ≤ 9
          · have hb : CrI.inb x1 0 9 = true := decide_eq_true hc
            have HU2 : Hid (upV L V (j + 1)) := upV_next HUP.out (HKO.out.2 ⟨of_decide_eq_true hd, hc⟩)
            clear hc
            go_wp2_with (first
              | (at_lookup; go_loud (refine wpS_lookup _ rfl _ _ 84 rfl Try.underlying84 mb L.length _ rfl HM1.out x0 (i64_mk HXI.out) rfl ?_); rw [hd])
              | (go_at_call 63; refine (CrI.inR_b _ _ _ _).mono ?_; rintro e w6 ⟨rfl, rfl⟩; try rw [hb])
              | (at_delete; go_loud (refine wpS_delete _ rfl _ _ 84 3 rfl rfl Try.underlying84 mb L.length _ (openTo L V (j + 1)) rfl HM1.out x0 (i64_mk HXI.out) rfl HON.out ?_); intro w5 hm5 hg5; have HM5 := Lib.hid hm5; have HG5 := Lib.hid (grown_new HG1.out hg5 (fun c hc => by injection hc with hc; have := HMB.out; omega)); clear hm5 hg5))
            go_roundw
            case rel => exact ⟨j + 1, by omega, by go_num, HU2, HM5, HG5⟩
            case measure => simp [intOf]; omega
          · have hb : CrI.inb x1 0 9 = false := decide_eq_false hc
            have HR : Hid (areVotes L V = false) := votes_bad hlt (fun h => hc (HKO.out.1 h).2)
            clear hc
            go_wp2_with (first
              | (at_lookup; go_loud (refine wpS_lookup _ rfl _ _ 84 rfl Try.underlying84 mb L.length _ rfl HM1.out x0 (i64_mk HXI.out) rfl ?_); rw [hd])
              | (go_at_call 63; refine (CrI.inR_b _ _ _ _).mono ?_; rintro e w6 ⟨rfl, rfl⟩; try rw [hb]))
            go_ret
            exact ⟨ret_bool HR.out.symm, HG1.out⟩
      · have : j = V.length := by omega
        subst this
        have HR : Hid (areVotes L V = true) := by show _ = _; rw [votes_end HUP.out]; exact HCR.out
        go_wp2
        go_ret
        exact ⟨ret_bool HR.out.symm, HG.out⟩

def majority (L : List Mem) (V : List V2) (c : Int) : Bool := areVotes L V && decide ((L.length : Int) < 2 * cnt V c V.length)
set_option maxRecDepth 20000 in
set_option maxHeartbeats 1000000 in
theorem sMaj_any (w : World) (u v : Value) (L : List Mem) (V : List V2) (c : Int) (hu : SeesG encM w u L) (hv : SeesG encP w v V) (hn : V.length ≤ 1000000000) :
    Calls Try.prog 37 #[u, v, .int .i64 c] w fun e w' => e = .returned (.bool (majority L V c)) ∧ w.grownBy w' none := by
  have HA := Lib.hid (sVotes_any w u v L V hu hv)
  have HCT := Lib.hid (fun (w' : World) (hg : w.grownBy w' none) => sCount_any w' v V c (hv.grown hg))
  have hlu := hu.len
  obtain ⟨a, cap, rfl, _⟩ := hu
  go_enter Try.func37, Try.ntmps37
  go_wp2_with fail
  refine HA.out.mono ?_
  rintro e w2 ⟨rfl, hg⟩
  have HG2 := Lib.hid hg
  clear hg
  cases hc : areVotes L V
  · have HR : Hid (majority L V c = false) := by show _ = _; unfold majority; rw [hc]; rfl
    clear hc
    go_wp2
    go_ret
    exact ⟨ret_bool HR.out.symm, HG2.out⟩
  · have HR : Hid (majority L V c = decide ((L.length : Int) < 2 * cnt V c V.length)) := by show _ = _; unfold majority; rw [hc]; rfl
    have HX := Lib.hid (HCT.out _ HG2.out)
    have hb := cnt_bd V c V.length
    obtain ⟨k, hk⟩ : ∃ k, k = cnt V c V.length := ⟨_, rfl⟩
    rw [← hk] at HX HR hb
    clear hc hk
    go_wp2_with (go_at_call 16; refine HX.out.mono ?_; rintro e w3 ⟨rfl, hg⟩; have HG3 := Lib.hid (grownN_trans HG2.out hg); clear hg)
    go_ret
    exact ⟨ret_bool (by rw [HR.out]), HG3.out⟩
set_option maxRecDepth 20000 in
set_option maxHeartbeats 1000000 in
theorem iMaj_any (w : World) (u v : Value) (L : List Mem) (V : List V2) (c : Int) (hu : SeesG encM w u L) (hv : SeesG encP w v V) (hn : V.length ≤ 1000000000) :
    Calls Try.prog 38 #[u, v, .int .i64 c] w fun e w' => e = .returned (.bool (majority L V c)) ∧ w.grownBy w' none := by
  have HA := Lib.hid (iVotes_any w u v L V hu hv)
  have HCT := Lib.hid (fun (w' : World) (hg : w.grownBy w' none) => iCount_any w' v V c (hv.grown hg))
  have hlu := hu.len
  obtain ⟨a, cap, rfl, _⟩ := hu
  go_enter Try.func38, Try.ntmps38
  go_wp2_with fail
  refine HA.out.mono ?_
  rintro e w2 ⟨rfl, hg⟩
  have HG2 := Lib.hid hg
  clear hg
  cases hc : areVotes L V
  · have HR : Hid (majority L V c = false) := by show _ = _; unfold majority; rw [hc]; rfl
    clear hc
    go_wp2
    go_ret
    exact ⟨ret_bool HR.out.symm, HG2.out⟩
  · have HR : Hid (majority L V c = decide ((L.length : Int) < 2 * cnt V c V.length)) := by show _ = _; unfold majority; rw [hc]; rfl
    have HX := Lib.hid (HCT.out _ HG2.out)
    have hb := cnt_bd V c V.length
    obtain ⟨k, hk⟩ : ∃ k, k = cnt V c V.length := ⟨_, rfl⟩
    rw [← hk] at HX HR hb
    clear hc hk
    go_wp2_with (go_at_call 18; refine HX.out.mono ?_; rintro e w3 ⟨rfl, hg⟩; have HG3 := Lib.hid (grownN_trans HG2.out hg); clear hg)
    go_ret
    exact ⟨ret_bool (by rw [HR.out]), HG3.out⟩
end Go.Proofs.Ytfdadeiemfmgkaa.VotI
