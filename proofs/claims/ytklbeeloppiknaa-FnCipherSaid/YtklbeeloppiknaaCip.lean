/- The key stream of the cipher, and Encrypt and Decrypt of the program. -/
import Derived.Test.YtklbeeloppiknaaHs
import Derived.Test.YtklbeeloppiknaaLawsB
import Derived.OneCell
import Derived.Laws.BitsLemmas
namespace Go.Proofs.Ytklbeeloppiknaa.Cip
open Go.RowKit Kit Rw Hs

/-- The shift of the byte at place i. -/
def sh (k : Int) (i : Nat) : Int := kh k [(i : Int)] % 256
theorem sh_in (k : Int) (i : Nat) : 0 ≤ sh k i ∧ sh k i ≤ 255 := by unfold sh; omega
/-- What Encrypt (s = 1) and Decrypt (s = -1) answer. -/
def cip (s k : Int) (L : List Int) : List Int := (List.range L.length).map fun i => (L.getD i 0 + s * sh k i) % 256
theorem cip_len (s k : Int) (L : List Int) : (cip s k L).length = L.length := by simp [cip]
theorem cip_next {s k : Int} {L : List Int} {j : Nat} (hj : j < L.length) : (cip s k L).take j ++ [(L.getD j 0 + s * sh k j) % 256] = (cip s k L).take (j + 1) := by
  rw [List.take_add_one]
  simp [cip, hj]
theorem cip_wf (s k : Int) (L : List Int) : ∀ n ∈ cip s k L, (Lit.int .u8 n).wf = true := fun n hn => by
  simp only [cip, List.mem_map] at hn
  obtain ⟨j, _, rfl⟩ := hn
  exact u8_mk (by omega)
theorem cip_get {s k : Int} {L : List Int} {j : Nat} (hj : j < L.length) : (cip s k L).getD j 0 = (L.getD j 0 + s * sh k j) % 256 := by simp [cip, hj]
/-- One undoes the other. -/
theorem cip_back {s k : Int} {L : List Int} (hs : s = 1 ∨ s = -1) (hL : ∀ n ∈ L, (Lit.int .u8 n).wf = true) : cip (-s) k (cip s k L) = L := by
  refine LawsB.list_same (by rw [cip_len, cip_len]) fun m hm => ?_
  rw [cip_get (by rw [cip_len]; exact hm), cip_get hm]
  have := u8_of (hL _ (mem_getD hm))
  rcases hs with rfl | rfl <;> omega

/-- A key stream that stands at place i: the cell of its key, the cell of its place. -/
def At (k : Int) (i : Nat) (w : World) (b c : Nat) : Prop :=
  w.heap[b]? = some (.cells #[.int .i64 k] 3 (0, 0)) ∧ w.heap[c]? = some (.cells #[.int .i64 i] 3 (0, 0)) ∧ b < c
theorem At.kept {k : Int} {i : Nat} {w w' : World} {b c : Nat} {r : Option Nat} (h : At k i w b c) (hg : w.grownBy w' r) (hr : ∀ g, r = some g → c < g) : At k i w' b c := by
  obtain ⟨h1, h2, h3⟩ := h
  refine ⟨(hg.block b (lt_of_block h1) (fun e => by have := hr b e.symm; omega)).trans h1, (hg.block c (lt_of_block h2) (fun e => by have := hr c e.symm; omega)).trans h2, h3⟩

theorem grown_old {w w1 w2 : World} {r : Option Nat} (h : w.grownBy w1 none) (k : w1.grownBy w2 r) : w.grownBy w2 r :=
  ⟨k.os.trans h.os, k.tape.trans h.tape, k.output.trans h.output, Nat.le_trans h.size k.size, fun i hi hn => (k.block i (Nat.lt_of_lt_of_le hi h.size) hn).trans (h.block i hi (fun e => by cases e))⟩

set_option maxHeartbeats 400000 in
theorem next_any (w : World) (k : Int) (i b c : Nat) (hk : (Lit.int .i64 k).wf = true) (hi : i ≤ 1000000000000) (hs : At k i w b c) :
    Calls Try.prog 44 #[.pointer (some ⟨b, 0, none⟩), .pointer (some ⟨c, 0, none⟩)] w fun e w' => e = .returned (.int .u8 (sh k i)) ∧ At k (i + 1) w' b c ∧ w.grownBy w' (some c) := by
  obtain ⟨h1, h2, h3⟩ := hs
  have HS : Hid (At k i w b c) := ⟨h1, h2, h3⟩
  have c1 := cell_of_one h1
  have c2 := cell_of_one h2
  have HK := Lib.hid hk
  have HX := Lib.hid (sees_one (E := 3) w (i : Int) (i64_mk (by omega)))
  have HIN := kh_in k [(i : Int)]
  have HSH : Hid (kh k [(i : Int)] % 256 = sh k i) := rfl
  have hb0 : 0 ≤ kh k [(i : Int)] % 256 := by omega
  have hb1 : kh k [(i : Int)] % 256 ≤ 255 := by omega
  obtain ⟨hi0, hi1⟩ := HIN
  have HG := Lib.hid (World.grownBy_alloc w (.cells #[.int .i64 (i : Int)] 3 (0, 0)) none)
  clear h1 h2 hk
  go_enter Try.func44, Try.ntmps44
  go_wp2_with fail
  refine (keyed_any _ k _ [(i : Int)] HK.out HX.out).mono ?_
  rintro e w2 ⟨rfl, hg⟩
  have HG2 := Lib.hid (grownN_trans HG.out hg)
  have HS2 := Lib.hid (HS.out.kept HG2.out (fun _ h => by cases h))
  have c2 := cell_of_one HS2.out.2.1
  have f2 := free_of_one HS2.out.2.1
  clear hg c1 HG HS
  go_wp2
  go_ret
  rw [← HSH.out]
  refine ⟨rfl, ⟨?_, ?_, h3⟩, ?_⟩
  · exact (Below.heap_setCell _ _ _ _ (fun e => by simp at e; omega)).trans HS2.out.1
  · exact one_setCell HS2.out.2.1
  · exact grown_old HG2.out (grown_set w2 c 0 _)

set_option maxHeartbeats 400000 in
theorem stream_any (w : World) (k : Int) :
    Calls Try.prog 37 #[.int .i64 k] w fun e w' => ∃ b c, e = .returned (.func (.func 44) #[] #[.pointer (some ⟨b, 0, none⟩), .pointer (some ⟨c, 0, none⟩)]) ∧ At k 0 w' b c ∧ w.heap.size ≤ b ∧ w.grownBy w' none := by
  have hmf : ∀ (fn : Fn) (first cap : Array Value) (w : World), (Instr.makeFunc fn first cap).run Try.prog w = .ok (.func fn first cap) w := fun _ _ _ _ => rfl
  go_enter Try.func37, Try.ntmps37
  go_wp2
  go_ret
  have h1 : w.grownBy ((w.alloc (.cells #[.int .i64 k] 3)).alloc (.cells #[.int .i64 0] 3)) none := grownN_trans (World.grownBy_alloc _ _ _) (World.grownBy_alloc _ _ _)
  have h2 : ((w.alloc (.cells #[.int .i64 k] 3)).alloc (.cells #[.int .i64 0] 3)).heap[w.heap.size + 1]? = some (.cells #[.int .i64 0] 3 (0, 0)) := by
    have := heap_alloc_new (w.alloc (.cells #[.int .i64 k] 3)) (.cells #[.int .i64 0] 3)
    simpa using this
  have h3 : ((w.alloc (.cells #[.int .i64 k] 3)).alloc (.cells #[.int .i64 0] 3)).heap[w.heap.size]? = some (.cells #[.int .i64 k] 3 (0, 0)) :=
    ((World.grownBy_alloc (w.alloc (.cells #[.int .i64 k] 3)) _ none).block _ (by simp) (fun e => by cases e)).trans (heap_alloc_new _ _)
  exact ⟨w.heap.size, w.heap.size + 1, rfl, ⟨h3, h2, by omega⟩, Nat.le_refl _, h1⟩

set_option maxHeartbeats 1000000 in
theorem enc_any (w : World) (k : Int) (v : Value) (X : List Int) (hk : (Lit.int .i64 k).wf = true) (hv : Sees .u8 w v X) (hX : X.length ≤ 100000000000) :
    Calls Try.prog 14 #[.int .i64 k, v] w fun e w' => ∃ u, e = .returned u ∧ Own .u8 5 w' w.heap.size u (cip (1) k X) ∧ w.grownBy w' none := by
  have HW := Lib.hid hv.wf
  have HK := Lib.hid hk
  have HCW := Lib.hid (cip_wf (1) k X)
  obtain ⟨a, cap, rfl, hlc, hcm, hnil, hwf, hcell⟩ := hv
  have HC := Lib.hid hcell
  clear hwf hcell hnil hk
  obtain ⟨i0, hi, hz0, hz1, hz2⟩ := info_parts LawsB.info_u8
  go_enter Try.func14, Try.ntmps14
  go_wp2_with fail
  refine (stream_any w k).mono ?_
  rintro e w1 ⟨b1, c1, rfl, hat, hb1, hg1⟩
  have HA1 := Lib.hid hat
  have HG1 := Lib.hid hg1
  clear hat hg1
  go_wp2_with (at_make; refine wpList_make_own _ rfl _ _ 22 rfl w1.heap.size 5 i0 (.int .u8 0) 1 Try.underlying22 hi hz0 hz1 .i64 .i64 _ X.length rfl rfl rfl (by rw [hz2]; omega) (by unfold maxLen; omega) (Nat.le_refl _) ?_; intro w2 hown hgrow; have HO : Hid (Own .u8 5 w2 w1.heap.size (.slice (some ⟨w1.heap.size, 0, none⟩) 0 X.length) []) := ⟨by simpa using hown, by simp⟩; have HG2 := Lib.hid (grownN_trans HG1.out hgrow); have HA2 := Lib.hid (HA1.out.kept hgrow (fun _ h => by cases h)); have hw12 : w1.heap.size ≤ w2.heap.size := hgrow.size; clear hown hgrow)
  have hc1 : c1 < w1.heap.size := lt_of_block HA1.out.2.1
  have hwb : w.heap.size ≤ w1.heap.size := HG1.out.size
  have hbc : b1 < c1 := HA1.out.2.2
  go_loopw [6, 8, 16] (fun u _ i wr => ∃ j : Nat, j ≤ X.length ∧ i = .int .i64 j ∧ Hid (Own .u8 5 wr w1.heap.size u ((cip (1) k X).take j)) ∧ Hid (At k j wr b1 c1) ∧ Hid (w.grownBy wr none) ∧ w1.heap.size ≤ wr.heap.size)
    (fun _ _ i _ => X.length - (intOf i).toNat)
  case atStart => exact ⟨0, Nat.zero_le _, rfl, by simpa using HO, HA2, HG2, hw12⟩
  case round =>
    obtain ⟨j, hj, rfl, HO1, HA, HG, hsz⟩ := hrel
    by_cases hlt : j < X.length
    · rcases HC.out with hX' | ⟨b, o, rfl, hc⟩
      · simp [hX'] at hlt
      obtain ⟨x, hx⟩ : ∃ x, x = X.getD j 0 := ⟨_, rfl⟩
      have hcj : wr.cell? ⟨b, o + j, none⟩ = some (.int .u8 x) := by
        rw [hx]
        exact HG.out.cell (hc j hlt) (by simp)
      have hb := u8_of (HW.out _ (mem_getD hlt))
      rw [← hx] at hb
      have HN := Lib.hid (cip_next (s := 1) (k := k) hlt)
      have hsh := sh_in k j
      have hl : ((cip (1) k X).take j).length ≤ 100000000000 := by rw [List.length_take, cip_len]; omega
      obtain ⟨hb0, hb1'⟩ := hb
      obtain ⟨hs0, hs1⟩ := hsh
      have HX := Lib.hid hx
      clear hx hc
      go_wp2_with fail
      refine (next_any wr k j b1 c1 HK.out (by omega) HA.out).mono ?_
      rintro e w3 ⟨rfl, hat, hg3⟩
      obtain ⟨q, hq⟩ : ∃ q, q = sh k j := ⟨_, rfl⟩
      rw [← hq] at hs0 hs1 ⊢
      have HQ := Lib.hid hq
      have HA3 := Lib.hid hat
      have HO3 := Lib.hid (HO1.out.kept hg3 (by
        cases hv : Value.ownBlock _ with
        | none => exact .inl rfl
        | some d => have := HO1.out.lt d hv; exact .inr (by simp; omega)))
      have HG3 := Lib.hid (grown_new HG.out hg3 (fun g h => by injection h with h; omega))
      have hsz3 : w1.heap.size ≤ w3.heap.size := Nat.le_trans hsz hg3.size
      clear hat hg3 hq
      have hz : IntKind.u8.wrap (x + q) = (x + q) % 256 := IntKind.wrap_u8 _
      go_wp2_with (at_builtin; go_loud (refine wpList_append_one _ rfl _ _ 22 rfl w1.heap.size 5 i0 (.int .u8 0) 1 Try.underlying22 hi hz0 hz1 hz2 rfl .u8 _ ((cip (1) k X).take j) rfl HO3.out ((x + q) % 256) rfl (u8_mk (by omega)) (by omega) (by decide) hsz3 ?_); intro v4 w4 hown4 hgrow4; have HO4 := Lib.hid hown4; have HG4 := Lib.hid hgrow4; clear hown4 hgrow4)
      go_roundw
      case rel =>
        refine ⟨j + 1, by omega, by go_num, ?_, HA3.out.kept HG4.out (fun g hg => by have := HO3.out.lt g hg; omega), grown_new HG3.out HG4.out (fun c hc => by have := HO3.out.lt c hc; omega), Nat.le_trans hsz3 HG4.out.size⟩
        rw [← HN.out, ← HX.out, ← HQ.out, show x + (1) * q = x + q by omega]; exact HO4
      case measure => simp [intOf]; omega
    · have : j = X.length := by omega
      subst this
      go_wp2
      go_ret
      exact ⟨_, rfl, by have := HO1.out.lower hwb; rwa [List.take_of_length_le (by rw [cip_len]; omega)] at this, HG.out⟩

set_option maxHeartbeats 1000000 in
theorem dec_any (w : World) (k : Int) (v : Value) (X : List Int) (hk : (Lit.int .i64 k).wf = true) (hv : Sees .u8 w v X) (hX : X.length ≤ 100000000000) :
    Calls Try.prog 13 #[.int .i64 k, v] w fun e w' => ∃ u, e = .returned u ∧ Own .u8 5 w' w.heap.size u (cip (-1) k X) ∧ w.grownBy w' none := by
  have HW := Lib.hid hv.wf
  have HK := Lib.hid hk
  have HCW := Lib.hid (cip_wf (-1) k X)
  obtain ⟨a, cap, rfl, hlc, hcm, hnil, hwf, hcell⟩ := hv
  have HC := Lib.hid hcell
  clear hwf hcell hnil hk
  obtain ⟨i0, hi, hz0, hz1, hz2⟩ := info_parts LawsB.info_u8
  go_enter Try.func13, Try.ntmps13
  go_wp2_with fail
  refine (stream_any w k).mono ?_
  rintro e w1 ⟨b1, c1, rfl, hat, hb1, hg1⟩
  have HA1 := Lib.hid hat
  have HG1 := Lib.hid hg1
  clear hat hg1
  go_wp2_with (at_make; refine wpList_make_own _ rfl _ _ 22 rfl w1.heap.size 5 i0 (.int .u8 0) 1 Try.underlying22 hi hz0 hz1 .i64 .i64 _ X.length rfl rfl rfl (by rw [hz2]; omega) (by unfold maxLen; omega) (Nat.le_refl _) ?_; intro w2 hown hgrow; have HO : Hid (Own .u8 5 w2 w1.heap.size (.slice (some ⟨w1.heap.size, 0, none⟩) 0 X.length) []) := ⟨by simpa using hown, by simp⟩; have HG2 := Lib.hid (grownN_trans HG1.out hgrow); have HA2 := Lib.hid (HA1.out.kept hgrow (fun _ h => by cases h)); have hw12 : w1.heap.size ≤ w2.heap.size := hgrow.size; clear hown hgrow)
  have hc1 : c1 < w1.heap.size := lt_of_block HA1.out.2.1
  have hwb : w.heap.size ≤ w1.heap.size := HG1.out.size
  have hbc : b1 < c1 := HA1.out.2.2
  go_loopw [6, 8, 16] (fun u _ i wr => ∃ j : Nat, j ≤ X.length ∧ i = .int .i64 j ∧ Hid (Own .u8 5 wr w1.heap.size u ((cip (-1) k X).take j)) ∧ Hid (At k j wr b1 c1) ∧ Hid (w.grownBy wr none) ∧ w1.heap.size ≤ wr.heap.size)
    (fun _ _ i _ => X.length - (intOf i).toNat)
  case atStart => exact ⟨0, Nat.zero_le _, rfl, by simpa using HO, HA2, HG2, hw12⟩
  case round =>
    obtain ⟨j, hj, rfl, HO1, HA, HG, hsz⟩ := hrel
    by_cases hlt : j < X.length
    · rcases HC.out with hX' | ⟨b, o, rfl, hc⟩
      · simp [hX'] at hlt
      obtain ⟨x, hx⟩ : ∃ x, x = X.getD j 0 := ⟨_, rfl⟩
      have hcj : wr.cell? ⟨b, o + j, none⟩ = some (.int .u8 x) := by
        rw [hx]
        exact HG.out.cell (hc j hlt) (by simp)
      have hb := u8_of (HW.out _ (mem_getD hlt))
      rw [← hx] at hb
      have HN := Lib.hid (cip_next (s := -1) (k := k) hlt)
      have hsh := sh_in k j
      have hl : ((cip (-1) k X).take j).length ≤ 100000000000 := by rw [List.length_take, cip_len]; omega
      obtain ⟨hb0, hb1'⟩ := hb
      obtain ⟨hs0, hs1⟩ := hsh
      have HX := Lib.hid hx
      clear hx hc
      go_wp2_with fail
      refine (next_any wr k j b1 c1 HK.out (by omega) HA.out).mono ?_
      rintro e w3 ⟨rfl, hat, hg3⟩
      obtain ⟨q, hq⟩ : ∃ q, q = sh k j := ⟨_, rfl⟩
      rw [← hq] at hs0 hs1 ⊢
      have HQ := Lib.hid hq
      have HA3 := Lib.hid hat
      have HO3 := Lib.hid (HO1.out.kept hg3 (by
        cases hv : Value.ownBlock _ with
        | none => exact .inl rfl
        | some d => have := HO1.out.lt d hv; exact .inr (by simp; omega)))
      have HG3 := Lib.hid (grown_new HG.out hg3 (fun g h => by injection h with h; omega))
      have hsz3 : w1.heap.size ≤ w3.heap.size := Nat.le_trans hsz hg3.size
      clear hat hg3 hq
      have hz : IntKind.u8.wrap (x - q) = (x - q) % 256 := IntKind.wrap_u8 _
      go_wp2_with (at_builtin; go_loud (refine wpList_append_one _ rfl _ _ 22 rfl w1.heap.size 5 i0 (.int .u8 0) 1 Try.underlying22 hi hz0 hz1 hz2 rfl .u8 _ ((cip (-1) k X).take j) rfl HO3.out ((x - q) % 256) rfl (u8_mk (by omega)) (by omega) (by decide) hsz3 ?_); intro v4 w4 hown4 hgrow4; have HO4 := Lib.hid hown4; have HG4 := Lib.hid hgrow4; clear hown4 hgrow4)
      go_roundw
      case rel =>
        refine ⟨j + 1, by omega, by go_num, ?_, HA3.out.kept HG4.out (fun g hg => by have := HO3.out.lt g hg; omega), grown_new HG3.out HG4.out (fun c hc => by have := HO3.out.lt c hc; omega), Nat.le_trans hsz3 HG4.out.size⟩
        rw [← HN.out, ← HX.out, ← HQ.out, show x + (-1) * q = x - q by omega]; exact HO4
      case measure => simp [intOf]; omega
    · have : j = X.length := by omega
      subst this
      go_wp2
      go_ret
      exact ⟨_, rfl, by have := HO1.out.lower hwb; rwa [List.take_of_length_le (by rw [cip_len]; omega)] at this, HG.out⟩
end Go.Proofs.Ytklbeeloppiknaa.Cip
