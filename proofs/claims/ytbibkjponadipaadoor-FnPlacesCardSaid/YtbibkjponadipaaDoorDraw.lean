/- Contracts of the draws' cursor: each returns a number within its bounds and writes nothing old but the cursor's own block. -/
import Derived.Test.YtbibkjponadipaaDoorMBase
import Derived.Deep.QuietTactic
import Derived.BigQuiet
import Derived.Lib.Hide
namespace Go.Proofs.YtbibkjponadipaaDoor.Draw
open Go.RowKit Kit

/-- Block 'c' is a cursor over a row of bytes that lies in another block. -/
def Cur (w : World) (c : Nat) : Prop :=
  ∃ a len cap z, ∃ i h : Int, w.heap[c]? = some (.cells #[.slice a len cap, .int .i64 i, .int .i64 h] 52 (0, 0)) ∧ 0 ≤ i ∧ i ≤ 9223372036854775807 ∧
    IsRow .u8 w a len cap z ∧ ∀ x, a = some x → 0 < cap → x.block < c

theorem Cur.kept {w w' : World} {c : Nat} (h : Cur w c) (hb : Below w.heap.size w w') : Cur w' c := by
  obtain ⟨a, len, cap, z, i, x, hc, h0, h1, hr, hn⟩ := h
  exact ⟨a, len, cap, z, i, x, (hb.block c (lt_of_block hc)).trans hc, h0, h1, hr.below hb, hn⟩
/-- A cursor stays where rows are written that are younger than it. -/
theorem Cur.kept_row {w w' : World} {c : Nat} {row : Option Nat} (h : Cur w c) (hg : w.grownBy w' row) (hr : ∀ g, row = some g → c < g) : Cur w' c := by
  obtain ⟨a, len, cap, z, i, x, hc, h0, h1, hrow, hn⟩ := h
  refine ⟨a, len, cap, z, i, x, (hg.block c (lt_of_block hc) (fun e => by have := hr c e.symm; omega)).trans hc, h0, h1, ?_, hn⟩
  rcases hrow with h | ⟨y, rfl, g1, g2, g3, g4, g5⟩
  · exact .inl h
  · exact .inr ⟨y, rfl, g1, g2, g3, fun j hj => hg.cell (g4 j hj) (by
      simp only [Addr.add]
      intro e
      have h2 := hr y.block (by split at e <;> simpa using e.symm)
      have h3 := hn y rfl (by omega)
      omega), g5⟩
theorem Cur.lt {w : World} {c : Nat} (h : Cur w c) : c < w.heap.size := by
  obtain ⟨a, len, cap, z, i, x, hc, _⟩ := h
  exact lt_of_block hc

/-- How a draw of a number ends: the number, the cursor stays one, nothing else old is written. -/
def Drawn (c : Nat) (w : World) (P : Int → Prop) (e : Ending) (w' : World) : Prop := ∃ x : Int, P x ∧ e = .returned (.int .i64 x) ∧ Cur w' c ∧ w.grownBy w' (some c)

theorem and_255 (x : Int) : 0 ≤ bits .and .i64 x 255 ∧ bits .and .i64 x 255 ≤ 255 := by
  show 0 ≤ IntKind.i64.wrap ((BitVec.ofInt 64 x &&& BitVec.ofInt 64 255).toNat : Int) ∧ IntKind.i64.wrap ((BitVec.ofInt 64 x &&& BitVec.ofInt 64 255).toNat : Int) ≤ 255
  have h : (BitVec.ofInt 64 x &&& BitVec.ofInt 64 255).toNat ≤ 255 := by
    rw [BitVec.toNat_and]
    exact Nat.and_le_right
  rw [IntKind.wrap_i64]
  omega

/-- The end of a draw that has moved the cursor, and of one that stood at its row's end. -/
theorem byte_end {w W : World} {c len cap : Nat} {a : Option Addr} {z : List Int} {i y : Int} (hr : IsRow .u8 w a len cap z) (hn : ∀ x, a = some x → 0 < cap → x.block < c) (h0 : 0 ≤ i) (h1 : i ≤ 9223372036854775807)
    (hb : W.heap[c]? = some (.cells #[.slice a len cap, .int .i64 i, .int .i64 y] 52 (0, 0))) (hg : w.grownBy W (some c)) : Cur W c :=
  ⟨a, len, cap, z, i, y, hb, h0, h1, hr.kept hg (fun x hx h => Nat.ne_of_lt (hn x hx h)), hn⟩

set_option maxHeartbeats 1000000 in
theorem byte_any (w : World) (c : Nat) (hc : Cur w c) :
    Calls Tryd.prog 28 #[.pointer (some ⟨c, 0, none⟩)] w (Drawn c w fun x => 0 ≤ x ∧ x ≤ 255) := by
  obtain ⟨a, len, cap, z, i, h, hb, h0, h1, hr, hn⟩ := hc
  obtain ⟨k, rfl⟩ : ∃ k : Nat, i = k := ⟨i.toNat, by omega⟩
  have HB := Lib.hid hb
  have HR := Lib.hid hr
  have HN := Lib.hid hn
  obtain ⟨c0, c1, c2⟩ := three_cell hb
  obtain ⟨f0, f1, f2⟩ := three_free hb
  have hll := hr.len_le
  unfold maxLen at hll
  by_cases hk : k < len
  · obtain ⟨b, off, rfl, hcell⟩ := hr.at hk
    have hbyte := hr.bounds k
    have hck := hcell k (by omega)
    have hbc : b ≠ c := Nat.ne_of_lt (hn _ rfl (by omega))
    clear hb hr hn hcell
    go_enter Tryd.func28, Tryd.ntmps28
    go_wp2
    generalize wrap64 (wrap64 (h * 6364136223846793005) + 1442695040888963407) = y
    have hb1 := three_set2 (u := .int .i64 y) HB.out
    have g1 := grown_set w c 2 (.int .i64 y)
    have hck1 := g1.cell hck (by simpa using hbc)
    generalize w.setCell ⟨c, 2, none⟩ (.int .i64 y) = W at *
    obtain ⟨c0, c1, c2⟩ := three_cell hb1
    obtain ⟨f0, f1, f2⟩ := three_free hb1
    have HB1 := Lib.hid hb1
    have HG1 := Lib.hid g1
    clear hb1 g1 hck
    go_quiet (fail)
    go_wp2
    go_quiet (fail)
    go_wp2
    go_quiet (fail)
    go_wp2
    go_ret
    have hg := fun m => grown_trans (grown_drewN HG1.out m) (grown_set (W.drewN m) c 1 (.int .i64 ((k : Int) + 1)))
    exact ⟨_, and_255 _, rfl, byte_end HR.out HN.out (by omega) (by omega) (three_set1 (w := W.drewN _) HB1.out) (hg _), hg _⟩
  · clear hb hr hn
    go_enter Tryd.func28, Tryd.ntmps28
    go_wp2
    generalize wrap64 (wrap64 (h * 6364136223846793005) + 1442695040888963407) = y
    have hb1 := three_set2 (u := .int .i64 y) HB.out
    have g1 := grown_set w c 2 (.int .i64 y)
    generalize w.setCell ⟨c, 2, none⟩ (.int .i64 y) = W at *
    obtain ⟨c0, c1, c2⟩ := three_cell hb1
    obtain ⟨f0, f1, f2⟩ := three_free hb1
    have HB1 := Lib.hid hb1
    have HG1 := Lib.hid g1
    clear hb1 g1
    go_quiet (fail)
    go_wp2
    go_quiet (fail)
    go_wp2
    go_ret
    have hg := fun m n => grown_drewN (grown_drewN HG1.out m) n
    exact ⟨_, and_255 _, rfl, byte_end (W := (W.drewN _).drewN _) HR.out HN.out (by omega) (by omega) HB1.out (hg _ _), hg _ _⟩

/-- A draw below n: nought where n is not above nought. -/
def BelowP (n x : Int) : Prop := (0 < n → 0 ≤ x ∧ x < n) ∧ (n ≤ 0 → x = 0)
set_option maxHeartbeats 1000000 in
theorem below_any (n : Int) (hn : n ≤ 9223372036854775807) (w : World) (c : Nat) (hc : Cur w c) :
    Calls Tryd.prog 18 #[.pointer (some ⟨c, 0, none⟩), .int .i64 n] w (Drawn c w (BelowP n)) := by
  have HC := Lib.hid hc
  clear hc
  by_cases h0 : n ≤ 0
  · go_enter Tryd.func18, Tryd.ntmps18
    go_wp2
    go_ret
    exact ⟨0, ⟨fun h => by omega, fun _ => rfl⟩, rfl, HC.out, grown_refl _ _⟩
  · by_cases h1 : n ≤ 256
    · go_enter Tryd.func18, Tryd.ntmps18
      go_wp2_with (go_at_call 28; refine (byte_any _ _ HC.out).mono ?_; rintro e w1 ⟨x, ⟨hx0, hx1⟩, rfl, hc1, hg1⟩)
      go_ret
      exact ⟨_, ⟨fun _ => ⟨Int.emod_nonneg _ (by omega), Int.emod_lt_of_pos _ (by omega)⟩, fun h => by omega⟩, rfl, hc1, hg1⟩
    · go_enter Tryd.func18, Tryd.ntmps18
      go_wp2_with fail
      refine (byte_any _ _ HC.out).mono ?_
      rintro e w1 ⟨x, ⟨hx0, hx1⟩, rfl, hc1, hg1⟩
      go_wp2_with fail
      refine (byte_any _ _ hc1).mono ?_
      rintro e w2 ⟨y, ⟨hy0, hy1⟩, rfl, hc2, hg2⟩
      go_wp2_with fail
      refine (byte_any _ _ hc2).mono ?_
      rintro e w3 ⟨v, ⟨hv0, hv1⟩, rfl, hc3, hg3⟩
      go_wp2
      go_ret
      exact ⟨_, ⟨fun _ => ⟨Int.emod_nonneg _ (by omega), Int.emod_lt_of_pos _ (by omega)⟩, fun h => by omega⟩, rfl, hc3, grown_trans hg1 (grown_trans hg2 hg3)⟩

theorem list_cells (w : World) (vs : List Value) (T : TypeId) (j : Nat) (hj : j < vs.length) : (w.alloc (.cells vs.toArray T)).cell? ⟨w.heap.size, j, none⟩ = some (vs.getD j undef) := by
  rw [World.cell?_alloc_new]
  simp [hj]

/-- One of a list of numbers that has just been written out. -/
theorem int_list (zs : List Int) (w : World) (c : Nat) (hc : Cur w c) (h0 : 0 < zs.length) (h1 : zs.length ≤ 1000) :
    Calls Tryd.prog 25 #[.pointer (some ⟨c, 0, none⟩), .slice (some ⟨w.heap.size, 0, none⟩) zs.length zs.length] (w.alloc (.cells (zs.map (Value.int .i64)).toArray 3)) (Drawn c w fun x => x ∈ zs) := by
  have HC : Hid (Cur (w.alloc (.cells (zs.map (Value.int .i64)).toArray 3)) c) := hc.kept ((Below.refl _ _).alloc (Nat.le_refl _) _)
  have HL : Hid (∀ j, j < zs.length → (w.alloc (.cells (zs.map (Value.int .i64)).toArray 3)).cell? ⟨w.heap.size, j, none⟩ = some (.int .i64 (zs.getD j 0))) := fun j hj => by
    rw [list_cells w _ _ j (by simpa using hj)]
    simp [hj]
  have hne : w.heap.size ≠ c := by have := hc.lt; omega
  have HG : Hid (w.grownBy (w.alloc (.cells (zs.map (Value.int .i64)).toArray 3)) (some c)) := World.grownBy_alloc _ _ _
  clear hc
  generalize w.alloc (.cells (zs.map (Value.int .i64)).toArray 3) = W at *
  generalize hB : w.heap.size = B at *
  clear hB
  go_enter Tryd.func25, Tryd.ntmps25
  go_wp2_with fail
  refine (below_any _ (by omega) _ _ HC.out).mono ?_
  rintro e w1 ⟨x, HP, rfl, hc1, hg1⟩
  obtain ⟨hx0, hx1⟩ := HP.1 (by omega)
  obtain ⟨j, rfl⟩ : ∃ j : Nat, x = j := ⟨x.toNat, by omega⟩
  have hcell := hg1.cell (HL.out j (by omega)) (by simpa using hne)
  have HM : Hid (zs.getD j 0 ∈ zs) := by
    have hj : j < zs.length := by omega
    have e : zs.getD j 0 = zs[j] := by simp [hj]
    rw [Hid, e]; exact List.getElem_mem hj
  clear HP
  go_wp2
  go_ret
  exact ⟨_, HM.out, by simp, hc1, grown_trans HG.out hg1⟩

end Go.Proofs.YtbibkjponadipaaDoor.Draw
