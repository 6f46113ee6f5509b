/- Contracts of a cell's text, of the program and of its model. -/
import Derived.Test.YtoanhnklemlfmaaDoorTxt
import Derived.Test.YtoanhnklemlfmaaDoorLandI
import Derived.Test.YtoanhnklemlfmaaDoorG26
import Derived.Test.YtoanhnklemlfmaaDoorG27
import Derived.Laws.Runes
import Derived.Deep.RegionHeld3
import Derived.Deep.QuietTactic
import Derived.BigQuiet
namespace Go.Proofs.YtoanhnklemlfmaaDoor.Ctx
open Go.RowKit Kit Rw Rg Ld Txt

theorem pow_grown {w w' : World} (h : Fmt.Pow10 w) (hg : w.grownBy w' none) : Fmt.Pow10 w' := h.below (grown_below hg w.heap.size (Nat.le_refl _)) (Nat.le_refl _)
/-- A number's text. -/
def num (n : Int) : ByteArray := ⟨(Lib.itoa n).toArray⟩
theorem num_size {n : Int} (h0 : -9223372036854775808 ≤ n) (h1 : n ≤ 9223372036854775807) : (num n).size ≤ 25 := by
  show (Lib.itoa n).toArray.size ≤ 25
  rw [List.size_toArray]
  by_cases hn : n < 0
  · obtain ⟨u, rfl⟩ : ∃ u : Nat, n = -(u : Int) := ⟨n.natAbs, by omega⟩
    rw [Lib.itoa_neg u (by omega), List.length_cons]
    have := Fmt.digits_len u (by omega)
    omega
  · obtain ⟨u, rfl⟩ : ∃ u : Nat, n = (u : Int) := ⟨n.toNat, by omega⟩
    rw [Lib.itoa_nonneg u]
    have := Fmt.digits_len u (by omega)
    omega
theorem iNum_any (w : World) (n : Int) (h : -9223372036854775808 ≤ n ∧ n ≤ 9223372036854775807) (htab : Fmt.Pow10 w) :
    Calls Tryd.prog 60 #[.int .i64 n] w fun e w' => e = .returned (.string (num n)) ∧ w.grownBy w' none :=
  (Fmt.impl_any n h.1 h.2 w htab).mono fun _ _ h => ⟨h.1, below_grown h.2⟩
theorem sNum_any (w : World) (n : Int) (h : -9223372036854775808 ≤ n ∧ n ≤ 9223372036854775807) :
    Calls Tryd.prog 57 #[.int .i64 n] w fun e w' => e = .returned (.string (num n)) ∧ w.grownBy w' none :=
  (Fmt.spec_any n h.1 h.2 w).mono fun _ _ h => ⟨h.1, below_grown h.2⟩
/-- A column's letter. -/
def letter (c : Int) : ByteArray := ⟨#[UInt8.ofNat (97 + c.toNat)]⟩
theorem letter_size (c : Int) : (letter c).size = 1 := rfl
theorem letter_enc {c : Int} (h0 : 0 ≤ c) (h1 : c < 8) : Utf8.encode (97 + c) = letter c := by
  obtain rfl | rfl | rfl | rfl | rfl | rfl | rfl | rfl : c = 0 ∨ c = 1 ∨ c = 2 ∨ c = 3 ∨ c = 4 ∨ c = 5 ∨ c = 6 ∨ c = 7 := by omega
  all_goals rfl
theorem slice_letter {k : Int} (h0 : 0 ≤ k) (h1 : k < 8) (w : World) : (Instr.slice 9 (.string ⟨#[97, 98, 99, 100, 101, 102, 103, 104]⟩) (some (.int .i64 k)) (some (.int .i64 (k + 1))) none).run Tryd.prog w = .ok (.string (letter k)) w := by
  have h := run_slice_string (P := Tryd.prog) w 9 ⟨#[97, 98, 99, 100, 101, 102, 103, 104]⟩ .i64 .i64 k (k + 1) Tryd.underlying9 h0 (by omega) (by show k + 1 ≤ ((8 : Nat) : Int); omega)
  rw [h]
  obtain rfl | rfl | rfl | rfl | rfl | rfl | rfl | rfl : k = 0 ∨ k = 1 ∨ k = 2 ∨ k = 3 ∨ k = 4 ∨ k = 5 ∨ k = 6 ∨ k = 7 := by omega
  all_goals rfl
noncomputable def cellT (W H : Int) (X : List Int) (n : Int) : ByteArray := if isCell W H X n = true then letter (n % W) ++ num (n / W) else ⟨#[]⟩
theorem cell_yes {W H : Int} {X : List Int} {n : Int} (h : isCell W H X n = true) : cellT W H X n = letter (n % W) ++ num (n / W) := if_pos h
theorem cell_no {W H : Int} {X : List Int} {n : Int} (h : isCell W H X n = false) : cellT W H X n = ⟨#[]⟩ := if_neg (by rw [h]; simp)
theorem cell_bd {W H : Int} {X : List Int} {n : Int} (h : isCell W H X n = true) : (1 ≤ W ∧ W ≤ 8) ∧ (0 ≤ n % W ∧ n % W < 8) ∧ (0 ≤ n / W ∧ n / W ≤ 64) ∧ (0 ≤ n ∧ n ≤ 64) := by
  obtain ⟨hL, hn0, hn1⟩ := isCell_of h
  obtain ⟨⟨hW1, hW8⟩, hH, hLen, _⟩ := isLand_of hL
  have hA := area ⟨hW1, hW8⟩ hH
  have e1 := Int.emod_nonneg n (show W ≠ 0 by omega)
  have e2 := Int.emod_lt_of_pos n (show 0 < W by omega)
  have e5 : 0 ≤ n / W := Int.ediv_nonneg hn0 (by omega)
  have e6 : n / W ≤ n := Int.ediv_le_self _ hn0
  refine ⟨⟨hW1, hW8⟩, ⟨e1, ?_⟩, ⟨e5, ?_⟩, ⟨hn0, ?_⟩⟩
  · omega
  · rw [← hLen] at hA; omega
  · rw [← hLen] at hA; omega
theorem cell_size (W H : Int) (X : List Int) (n : Int) : (cellT W H X n).size ≤ 40 := by
  unfold cellT
  split
  · rename_i h
    have hb := cell_bd h
    have := num_size (n := n / W) (by omega) (by omega)
    rw [size_app, letter_size]; omega
  · simp [ByteArray.size]
theorem cell_ne {W H : Int} {X : List Int} {n : Int} (h : isCell W H X n = true) : cellT W H X n ≠ ⟨#[]⟩ := by
  intro e
  have := congrArg ByteArray.size e
  rw [cell_yes h, size_app, letter_size, show (⟨#[]⟩ : ByteArray).size = 0 from rfl] at this
  omega
theorem flatS : ∀ L : List ByteArray, flat encS L = L.map Value.string
  | [] => rfl
  | x :: L => by rw [flat_cons, flatS L]; rfl
/-- Texts that have just been written out. -/
theorem seesS_lit (w : World) (L : List ByteArray) (cs : Array Value) (T : TypeId) (hcs : cs.toList = L.map Value.string) (hl : L.length ≤ 100) : SeesG encS (w.alloc (.cells cs T (0, 0))) (.slice (some ⟨w.heap.size, 0, none⟩) L.length L.length) L := by
  refine ⟨_, L.length, rfl, Nat.le_refl _, by unfold maxLen; omega, (fun h => by cases h), (fun _ _ => trivial), .inr ⟨_, _, rfl, fun j hj => ?_⟩⟩
  rw [World.cell?_alloc_new, Nat.zero_add, flatS, ← hcs]
  simp
theorem join2 (a b : ByteArray) : joinB ⟨#[]⟩ [a, b] = a ++ b := by
  show ((⟨#[]⟩ ++ a) ++ ⟨#[]⟩) ++ b = a ++ b
  apply ByteArray.ext
  rw [app_data, app_data, app_data, app_data, Array.empty_append, Array.append_empty]

set_option maxRecDepth 20000 in
set_option maxHeartbeats 2000000 in
theorem iCell_any (w : World) (W H n : Int) (v : Value) (X : List Int) (hv : Sees .i64 w v X) (htab : Fmt.Pow10 w) :
    Calls Tryd.prog 17 #[.agg #[.int .i64 W, .int .i64 H, v], .int .i64 n] w fun e w' => e = .returned (.string (cellT W H X n)) ∧ w.grownBy w' none := by
  have hgr := World.grownBy_alloc w (.cells #[.int .i64 W, .int .i64 H, v] 27 (0, 0)) none
  have HG := Lib.hid hgr
  have HV := Lib.hid (hv.grown hgr)
  have HT := Lib.hid (pow_grown htab hgr)
  have HB := Lib.hid (box_new w #[.int .i64 W, .int .i64 H, v] 27)
  obtain ⟨c0, c1, c2⟩ := HB.out.three
  obtain ⟨a, cap, rfl, _⟩ := hv
  clear hgr htab
  have hs := LandI.isCell_any _ W H n _ X HV.out
  cases hc : isCell W H X n
  · rw [hc] at hs
    have HS := Lib.hid hs
    have HR : Hid (cellT W H X n = ⟨#[]⟩) := cell_no hc
    clear hs hc
    go_enter Tryd.func17, Tryd.ntmps17
    go_wp2_with fail
    refine HS.out.mono ?_
    rintro e w2 ⟨rfl, hg⟩
    have HG2 := Lib.hid (grownN_trans HG.out hg)
    clear hg
    go_wp2
    go_ret
    exact ⟨ret_s HR.out.symm, HG2.out⟩
  · rw [hc] at hs
    have HS := Lib.hid hs
    obtain ⟨⟨hW1, hW8⟩, ⟨e1, e2⟩, ⟨e3, e4⟩, e5, e6⟩ := cell_bd hc
    have HR : Hid (cellT W H X n = joinB ⟨#[]⟩ [Utf8.encode (97 + n % W), num (n / W)]) := by show _ = _; rw [join2, letter_enc e1 e2, cell_yes hc]
    have HZ : Hid (∀ x ∈ [Utf8.encode (97 + n % W), num (n / W)], x.size ≤ 100) := by
      intro x hx
      rw [letter_enc e1 e2] at hx
      rcases List.mem_cons.1 hx with rfl | hx
      · rw [letter_size]; omega
      · rcases List.mem_cons.1 hx with rfl | hx
        · have := num_size (n := n / W) (by omega) (by omega); omega
        · cases hx
    have t1 : n.tmod W = n % W := Int.tmod_eq_emod_of_nonneg e5
    have t3 : n.tdiv W = n / W := Int.tdiv_eq_ediv_of_nonneg e5
    have q1 : IntKind.i64.wrap (n / W) = n / W := IntWalk.i64_in _ (by omega)
    have q2 : IntKind.i64.wrap (n % W) = n % W := IntWalk.i64_in _ (by omega)
    have q3 : IntKind.i64.wrap (97 + n % W) = 97 + n % W := IntWalk.i64_in _ (by omega)
    have q4 : IntKind.i32.wrap (97 + n % W) = 97 + n % W := by rw [IntKind.wrap_i32]; omega
    have hne : ¬ (W = 0) := by omega
    have hne2 : (W == 0) = false := by simpa using hne
    clear hs hc e5 e6
    go_enter Tryd.func17, Tryd.ntmps17
    go_wp2_with fail
    refine HS.out.mono ?_
    rintro e w2 ⟨rfl, hg⟩
    have HG2 := Lib.hid (grownN_trans HG.out hg)
    have HT2 := Lib.hid (pow_grown HT.out hg)
    have HB2 := Lib.hid (HB.out.grown hg)
    obtain ⟨d0, d1, d2⟩ := HB2.out.three
    clear hg c0 c1 c2
    go_wp2
    go_quiet (fail)
    go_wp2_with fail
    refine (iNum_any _ (n / W) (by omega) (pow_grown HT2.out (grown_drewN (World.grownBy.refl _ none) _))).mono ?_
    rintro e w3 ⟨rfl, hg⟩
    have HG3 := Lib.hid (grownN_trans (grown_drewN HG2.out _) hg)
    clear hg d0 d1 d2
    go_wp2_with fail
    refine (joined_any _ ⟨#[]⟩ _ [Utf8.encode (97 + n % W), num (n / W)] (seesS_lit w3 _ _ _ rfl (Nat.le_of_ble_eq_true rfl)) (by decide) HZ.out (Nat.le_of_ble_eq_true rfl)).mono ?_
    rintro e w4 ⟨rfl, hg⟩
    have HG4 := Lib.hid (grownN_trans (grownN_trans HG3.out (World.grownBy_alloc _ _ _)) hg)
    clear hg
    go_wp2
    go_ret
    exact ⟨ret_s HR.out.symm, HG4.out⟩

set_option maxRecDepth 20000 in
set_option maxHeartbeats 2000000 in
theorem sCell_any (w : World) (W H n : Int) (v : Value) (X : List Int) (hv : Sees .i64 w v X) :
    Calls Tryd.prog 15 #[.agg #[.int .i64 W, .int .i64 H, v], .int .i64 n] w fun e w' => e = .returned (.string (cellT W H X n)) ∧ w.grownBy w' none := by
  have hgr := World.grownBy_alloc w (.cells #[.int .i64 W, .int .i64 H, v] 27 (0, 0)) none
  have HG := Lib.hid hgr
  have HV := Lib.hid (hv.grown hgr)
  have HB := Lib.hid (box_new w #[.int .i64 W, .int .i64 H, v] 27)
  obtain ⟨c0, c1, c2⟩ := HB.out.three
  obtain ⟨a, cap, rfl, _⟩ := hv
  clear hgr
  have hs := LandS.sIsCell_any _ W H n _ X HV.out
  cases hc : isCell W H X n
  · rw [hc] at hs
    have HS := Lib.hid hs
    have HR : Hid (cellT W H X n = ⟨#[]⟩) := cell_no hc
    clear hs hc
    go_enter Tryd.func15, Tryd.ntmps15
    go_wp2_with fail
    refine HS.out.mono ?_
    rintro e w2 ⟨rfl, hg⟩
    have HG2 := Lib.hid (grownN_trans HG.out hg)
    clear hg
    go_wp2
    go_ret
    exact ⟨ret_s HR.out.symm, HG2.out⟩
  · rw [hc] at hs
    have HS := Lib.hid hs
    obtain ⟨⟨hW1, hW8⟩, ⟨e1, e2⟩, ⟨e3, e4⟩, e5, e6⟩ := cell_bd hc
    have HR : Hid (cellT W H X n = letter (n % W) ++ num (n / W)) := cell_yes hc
    have HZ : Hid ((num (n / W)).size ≤ 25) := num_size (n := n / W) (by omega) (by omega)
    have t1 : n.tmod W = n % W := Int.tmod_eq_emod_of_nonneg e5
    have t3 : n.tdiv W = n / W := Int.tdiv_eq_ediv_of_nonneg e5
    have q1 : IntKind.i64.wrap (n / W) = n / W := IntWalk.i64_in _ (by omega)
    have q2 : IntKind.i64.wrap (n % W) = n % W := IntWalk.i64_in _ (by omega)
    have q3 : IntKind.i64.wrap (n % W + 1) = n % W + 1 := IntWalk.i64_in _ (by omega)
    have hne : ¬ (W = 0) := by omega
    have hne2 : (W == 0) = false := by simpa using hne
    obtain ⟨k, hk⟩ : ∃ k, k = n % W := ⟨_, rfl⟩
    rw [← hk] at t1 q2 q3 e1 e2 HR
    clear hs hc e5 e6 hk
    go_enter Tryd.func15, Tryd.ntmps15
    go_wp2_with fail
    refine HS.out.mono ?_
    rintro e w2 ⟨rfl, hg⟩
    have HG2 := Lib.hid (grownN_trans HG.out hg)
    have HB2 := Lib.hid (HB.out.grown hg)
    obtain ⟨d0, d1, d2⟩ := HB2.out.three
    clear hg c0 c1 c2
    have hsl := slice_letter e1 e2
    have hs1 : ¬ (9223372036854775807 < (letter k).size + (num (n / W)).size) := by have := HZ.out; have := letter_size k; omega
    have D0 := Lib.hid d0
    have HQ := Lib.hid (grown_drew (World.grownBy.refl w2 none))
    go_wp2_with fail
    go_region_held3 (fun w' => w'.cell? ⟨w.heap.size, 0, none⟩ = some (.int .i64 W))
      (first | (exact HQ.out.cell D0.out (by simp)) | go_keep)
      (first
        | (go_at_call 57; refine (sNum_any _ (n / W) (by omega)).mono ?_; rintro e wA ⟨rfl, hgA⟩; have HQ := Lib.hid (grownN_trans HQ.out hgA)))
    go_wp2
    go_ret
    exact ⟨ret_s (by rw [HR.out]), grownN_trans HG2.out HQ.out⟩
end Go.Proofs.YtoanhnklemlfmaaDoor.Ctx
