/- Contracts of the draws' cursor: each returns a number within its bounds and writes nothing old but the cursor's own block. A new cursor over the bytes that came in. How rows of the call's own and a cursor live beside one another. Results that lie in a block: a struct of one-cell fields, alone and ahead of others. No condition. Contracts of the draws of lands. Contract of the draw of any land, valid or not. Contracts of the draws of a land and a cell, and of a land and two cells. Contract of the draw of a land and two cells. What a draw of a land hands out, handed on by another draw. Contract of the draw Near: another draw's land, handed on. Contract of the draw Farthest: another draw's land, handed on. Contract of the draw WayTo: another draw's land, handed on. Contract of the draw Reach: a land, a cell and a number of days. Contract of the draw IsLand. -/
import Derived.Test.YtfccikhmcenanaaMBase
import Derived.Deep.QuietTactic
import Derived.BigQuiet
import Derived.Lib.Hide
import Derived.Laws.Rows
import Derived.IntWalk
import Derived.Deep.AppendLies
import Derived.Deep.RegionLaw
namespace Go.Proofs.Ytfccikhmcenanaa.Draw
open Go.RowKit Kit

/-- Block 'c' is a cursor over a row of bytes that lies in another block. -/
def Cur (w : World) (c : Nat) : Prop :=
  ∃ a len cap z, ∃ i h : Int, w.heap[c]? = some (.cells #[.slice a len cap, .int .i64 i, .int .i64 h] 74 (0, 0)) ∧ 0 ≤ i ∧ i ≤ 9223372036854775807 ∧
    IsRow .u8 w a len cap z ∧ ∀ x, a = some x → 0 < cap → x.block < c

theorem Cur.kept {w w' : World} {c : Nat} (h : Cur w c) (hb : Below w.heap.size w w') : Cur w' c := by
  obtain ⟨a, len, cap, z, i, x, hc, h0, h1, hr, hn⟩ := h
  exact ⟨a, len, cap, z, i, x, (hb.block c (lt_of_block hc)).trans hc, h0, h1, hr.below hb, hn⟩
/-- A cursor stays where rows are written that are younger than it. -/
theorem Cur.kept_row {w w' : World} {c : Nat} {row : Option Nat} (h : Cur w c) (hg : w.grownBy w' row) (hr : ∀ g, row = some g → c < g) : Cur w' c := by
  obtain ⟨a, len, cap, z, i, x, hc, h0, h1, hrow, hn⟩ := h
  refine ⟨a, len, cap, z, i, x, (hg.block c (lt_of_block hc) (fun e => by have := hr c e.symm; omega)).trans hc, h0, h1, ?_, hn⟩
  rcases hrow with h | ⟨y, rfl, g1, g2, g3, g4, g5⟩
  · exact .inl h
  · exact .inr ⟨y, rfl, g1, g2, g3, fun j hj => hg.cell (g4 j hj) (by
      simp only [Addr.add]
      intro e
      have h2 := hr y.block (by split at e <;> simpa using e.symm)
      have h3 := hn y rfl (by omega)
      omega), g5⟩
theorem Cur.lt {w : World} {c : Nat} (h : Cur w c) : c < w.heap.size := by
  obtain ⟨a, len, cap, z, i, x, hc, _⟩ := h
  exact lt_of_block hc

/-- How a draw of a number ends: the number, the cursor stays one, nothing else old is written. -/
def Drawn (c : Nat) (w : World) (P : Int → Prop) (e : Ending) (w' : World) : Prop := ∃ x : Int, P x ∧ e = .returned (.int .i64 x) ∧ Cur w' c ∧ w.grownBy w' (some c)

theorem and_255 (x : Int) : 0 ≤ bits .and .i64 x 255 ∧ bits .and .i64 x 255 ≤ 255 := by
  show 0 ≤ IntKind.i64.wrap ((BitVec.ofInt 64 x &&& BitVec.ofInt 64 255).toNat : Int) ∧ IntKind.i64.wrap ((BitVec.ofInt 64 x &&& BitVec.ofInt 64 255).toNat : Int) ≤ 255
  have h : (BitVec.ofInt 64 x &&& BitVec.ofInt 64 255).toNat ≤ 255 := by
    rw [BitVec.toNat_and]
    exact Nat.and_le_right
  rw [IntKind.wrap_i64]
  omega

/-- The end of a draw that has moved the cursor, and of one that stood at its row's end. -/
theorem byte_end {w W : World} {c len cap : Nat} {a : Option Addr} {z : List Int} {i y : Int} (hr : IsRow .u8 w a len cap z) (hn : ∀ x, a = some x → 0 < cap → x.block < c) (h0 : 0 ≤ i) (h1 : i ≤ 9223372036854775807)
    (hb : W.heap[c]? = some (.cells #[.slice a len cap, .int .i64 i, .int .i64 y] 74 (0, 0))) (hg : w.grownBy W (some c)) : Cur W c :=
  ⟨a, len, cap, z, i, y, hb, h0, h1, hr.kept hg (fun x hx h => Nat.ne_of_lt (hn x hx h)), hn⟩

set_option maxHeartbeats 1000000 in
theorem byte_any (w : World) (c : Nat) (hc : Cur w c) :
    Calls Try.prog 78 #[.pointer (some ⟨c, 0, none⟩)] w (Drawn c w fun x => 0 ≤ x ∧ x ≤ 255) := by
  obtain ⟨a, len, cap, z, i, h, hb, h0, h1, hr, hn⟩ := hc
  obtain ⟨k, rfl⟩ : ∃ k : Nat, i = k := ⟨i.toNat, by omega⟩
  have HB := Lib.hid hb
  have HR := Lib.hid hr
  have HN := Lib.hid hn
  obtain ⟨c0, c1, c2⟩ := three_cell hb
  obtain ⟨f0, f1, f2⟩ := three_free hb
  have hll := hr.len_le
  unfold maxLen at hll
  by_cases hk : k < len
  · obtain ⟨b, off, rfl, hcell⟩ := hr.at hk
    have hbyte := hr.bounds k
    have hck := hcell k (by omega)
    have hbc : b ≠ c := Nat.ne_of_lt (hn _ rfl (by omega))
    clear hb hr hn hcell
    go_enter Try.func78, Try.ntmps78
    go_wp2
    generalize wrap64 (wrap64 (h * 6364136223846793005) + 1442695040888963407) = y
    have hb1 := three_set2 (u := .int .i64 y) HB.out
    have g1 := grown_set w c 2 (.int .i64 y)
    have hck1 := g1.cell hck (by simpa using hbc)
    generalize w.setCell ⟨c, 2, none⟩ (.int .i64 y) = W at *
    obtain ⟨c0, c1, c2⟩ := three_cell hb1
    obtain ⟨f0, f1, f2⟩ := three_free hb1
    have HB1 := Lib.hid hb1
    have HG1 := Lib.hid g1
    clear hb1 g1 hck
    go_quiet (fail)
    go_wp2
    go_quiet (fail)
    go_wp2
    go_quiet (fail)
    go_wp2
    go_ret
    have hg := fun m => grown_trans (grown_drewN HG1.out m) (grown_set (W.drewN m) c 1 (.int .i64 ((k : Int) + 1)))
    exact ⟨_, and_255 _, rfl, byte_end HR.out HN.out (by omega) (by omega) (three_set1 (w := W.drewN _) HB1.out) (hg _), hg _⟩
  · clear hb hr hn
    go_enter Try.func78, Try.ntmps78
    go_wp2
    generalize wrap64 (wrap64 (h * 6364136223846793005) + 1442695040888963407) = y
    have hb1 := three_set2 (u := .int .i64 y) HB.out
    have g1 := grown_set w c 2 (.int .i64 y)
    generalize w.setCell ⟨c, 2, none⟩ (.int .i64 y) = W at *
    obtain ⟨c0, c1, c2⟩ := three_cell hb1
    obtain ⟨f0, f1, f2⟩ := three_free hb1
    have HB1 := Lib.hid hb1
    have HG1 := Lib.hid g1
    clear hb1 g1
    go_quiet (fail)
    go_wp2
    go_quiet (fail)
    go_wp2
    go_ret
    have hg := fun m n => grown_drewN (grown_drewN HG1.out m) n
    exact ⟨_, and_255 _, rfl, byte_end (W := (W.drewN _).drewN _) HR.out HN.out (by omega) (by omega) HB1.out (hg _ _), hg _ _⟩

/-- A draw below n: nought where n is not above nought. -/
def BelowP (n x : Int) : Prop := (0 < n → 0 ≤ x ∧ x < n) ∧ (n ≤ 0 → x = 0)
set_option maxHeartbeats 1000000 in
theorem below_any (n : Int) (hn : n ≤ 9223372036854775807) (w : World) (c : Nat) (hc : Cur w c) :
    Calls Try.prog 59 #[.pointer (some ⟨c, 0, none⟩), .int .i64 n] w (Drawn c w (BelowP n)) := by
  have HC := Lib.hid hc
  clear hc
  by_cases h0 : n ≤ 0
  · go_enter Try.func59, Try.ntmps59
    go_wp2
    go_ret
    exact ⟨0, ⟨fun h => by omega, fun _ => rfl⟩, rfl, HC.out, grown_refl _ _⟩
  · by_cases h1 : n ≤ 256
    · go_enter Try.func59, Try.ntmps59
      go_wp2_with (go_at_call 78; refine (byte_any _ _ HC.out).mono ?_; rintro e w1 ⟨x, ⟨hx0, hx1⟩, rfl, hc1, hg1⟩)
      go_ret
      exact ⟨_, ⟨fun _ => ⟨Int.emod_nonneg _ (by omega), Int.emod_lt_of_pos _ (by omega)⟩, fun h => by omega⟩, rfl, hc1, hg1⟩
    · go_enter Try.func59, Try.ntmps59
      go_wp2_with fail
      refine (byte_any _ _ HC.out).mono ?_
      rintro e w1 ⟨x, ⟨hx0, hx1⟩, rfl, hc1, hg1⟩
      go_wp2_with fail
      refine (byte_any _ _ hc1).mono ?_
      rintro e w2 ⟨y, ⟨hy0, hy1⟩, rfl, hc2, hg2⟩
      go_wp2_with fail
      refine (byte_any _ _ hc2).mono ?_
      rintro e w3 ⟨v, ⟨hv0, hv1⟩, rfl, hc3, hg3⟩
      go_wp2
      go_ret
      exact ⟨_, ⟨fun _ => ⟨Int.emod_nonneg _ (by omega), Int.emod_lt_of_pos _ (by omega)⟩, fun h => by omega⟩, rfl, hc3, grown_trans hg1 (grown_trans hg2 hg3)⟩

theorem list_cells (w : World) (vs : List Value) (T : TypeId) (j : Nat) (hj : j < vs.length) : (w.alloc (.cells vs.toArray T)).cell? ⟨w.heap.size, j, none⟩ = some (vs.getD j undef) := by
  rw [World.cell?_alloc_new]
  simp [hj]

/-- One of a list of numbers that has just been written out. -/
theorem int_list (zs : List Int) (w : World) (c : Nat) (hc : Cur w c) (h0 : 0 < zs.length) (h1 : zs.length ≤ 1000) :
    Calls Try.prog 72 #[.pointer (some ⟨c, 0, none⟩), .slice (some ⟨w.heap.size, 0, none⟩) zs.length zs.length] (w.alloc (.cells (zs.map (Value.int .i64)).toArray 3)) (Drawn c w fun x => x ∈ zs) := by
  have HC : Hid (Cur (w.alloc (.cells (zs.map (Value.int .i64)).toArray 3)) c) := hc.kept ((Below.refl _ _).alloc (Nat.le_refl _) _)
  have HL : Hid (∀ j, j < zs.length → (w.alloc (.cells (zs.map (Value.int .i64)).toArray 3)).cell? ⟨w.heap.size, j, none⟩ = some (.int .i64 (zs.getD j 0))) := fun j hj => by
    rw [list_cells w _ _ j (by simpa using hj)]
    simp [hj]
  have hne : w.heap.size ≠ c := by have := hc.lt; omega
  have HG : Hid (w.grownBy (w.alloc (.cells (zs.map (Value.int .i64)).toArray 3)) (some c)) := World.grownBy_alloc _ _ _
  clear hc
  generalize w.alloc (.cells (zs.map (Value.int .i64)).toArray 3) = W at *
  generalize hB : w.heap.size = B at *
  clear hB
  go_enter Try.func72, Try.ntmps72
  go_wp2_with fail
  refine (below_any _ (by omega) _ _ HC.out).mono ?_
  rintro e w1 ⟨x, HP, rfl, hc1, hg1⟩
  obtain ⟨hx0, hx1⟩ := HP.1 (by omega)
  obtain ⟨j, rfl⟩ : ∃ j : Nat, x = j := ⟨x.toNat, by omega⟩
  have hcell := hg1.cell (HL.out j (by omega)) (by simpa using hne)
  have HM : Hid (zs.getD j 0 ∈ zs) := by
    have hj : j < zs.length := by omega
    have e : zs.getD j 0 = zs[j] := by simp [hj]
    rw [Hid, e]; exact List.getElem_mem hj
  clear HP
  go_wp2
  go_ret
  exact ⟨_, HM.out, by simp, hc1, grown_trans HG.out hg1⟩

end Go.Proofs.Ytfccikhmcenanaa.Draw

namespace Go.Proofs.Ytfccikhmcenanaa.Draw
open Go.RowKit Kit

def I64 (x : Int) : Prop := -9223372036854775808 ≤ x ∧ x ≤ 9223372036854775807
theorem I64.wf {x : Int} (h : I64 x) : (Lit.int .i64 x).wf = true := by
  obtain ⟨h0, h1⟩ := h
  have hmin : IntKind.i64.min = -9223372036854775808 := rfl
  have hmax : IntKind.i64.max = 9223372036854775807 := rfl
  simp only [Lit.wf, Bool.and_eq_true, decide_eq_true_eq]; omega

/-- How the making of a cursor ends: a pointer to a new block. -/
def NewCur (w : World) (e : Ending) (w' : World) : Prop := ∃ c, e = .returned (.pointer (some ⟨c, 0, none⟩)) ∧ Cur w' c ∧ w.heap.size ≤ c ∧ Below w.heap.size w w'

theorem new_end {w : World} {a : Option Addr} {len cap : Nat} {z : List Int} (hr : IsRow .u8 w a len cap z) (y : Int) :
    NewCur w (.returned (.pointer (some ⟨w.heap.size, 0, none⟩))) (w.alloc (.cells #[.slice a len cap, .int .i64 0, .int .i64 y] 74)) := by
  have hb : Below w.heap.size w (w.alloc (.cells #[.slice a len cap, .int .i64 0, .int .i64 y] 74)) := (Below.refl _ _).alloc (Nat.le_refl _) _
  refine ⟨_, rfl, ⟨a, len, cap, z, 0, y, heap_alloc_new _ _, by omega, by omega, hr.below hb, ?_⟩, Nat.le_refl _, hb⟩
  intro x hx h0
  rcases hr with ⟨h, _⟩ | ⟨x', hx', h1, h2, h3, h4, _⟩
  · rw [h] at hx; cases hx
  · rw [hx'] at hx
    injection hx with hx
    subst hx
    have h := World.block_lt_of_cell? w _ (h4 0 (by omega))
    simp only [Addr.add, if_true] at h
    exact h

set_option maxHeartbeats 1000000 in
theorem new_any (w : World) (a : Option Addr) (len cap : Nat) (z : List Int) (hr : IsRow .u8 w a len cap z) :
    Calls Try.prog 58 #[.slice a len cap] w (NewCur w) := by
  have HR := Lib.hid hr
  have hll := hr.len_le
  unfold maxLen at hll
  clear hr
  go_enter Try.func58, Try.ntmps58
  go_wp2
  go_loop [3, 4] (fun h i => ∃ k : Nat, ∃ y : Int, k ≤ len ∧ i = .int .i64 k ∧ h = .int .i64 y) (fun _ i => len - (intOf i).toNat)
  case atStart => exact ⟨0, _, Nat.zero_le _, rfl, rfl⟩
  case round =>
    obtain ⟨k, y, hk, rfl, rfl⟩ := hrel
    by_cases hlt : k < len
    · by_cases h4 : (k : Int) < 4000
      · obtain ⟨b, off, rfl, hcell⟩ := HR.out.at hlt
        have hck := hcell k (by omega)
        have hbyte := HR.out.bounds k
        clear hcell
        go_wp2
        go_round
        case rel => exact ⟨k + 1, _, by omega, by go_num, rfl⟩
        case measure => simp [intOf]; omega
      · go_wp2
        go_ret
        exact new_end HR.out _
    · go_wp2
      go_ret
      exact new_end HR.out _

end Go.Proofs.Ytfccikhmcenanaa.Draw

namespace Go.Proofs.Ytfccikhmcenanaa.Draw
open Go.RowKit Kit Rw

/-- A call that writes one old block, then writes rows of its own. -/
theorem grown_mix {w w1 w2 : World} {r s : Option Nat} (h : w.grownBy w1 r) (k : w1.grownBy w2 s) (hs : ∀ c, s = some c → w.heap.size ≤ c) : w.grownBy w2 r :=
  ⟨k.os.trans h.os, k.tape.trans h.tape, k.output.trans h.output, Nat.le_trans h.size k.size, fun i hi hn => (k.block i (Nat.lt_of_lt_of_le hi h.size) (fun e => by have := hs i e.symm; omega)).trans (h.block i hi hn)⟩

theorem own_cur {k : IntKind} {E : TypeId} {w w' : World} {base c : Nat} {v : Value} {L : List Int} (h : Own k E w base v L) (hc : c < base) (hg : w.grownBy w' (some c)) : Own k E w' base v L :=
  h.kept hg (by
    cases hv : v.ownBlock with
    | none => exact .inl rfl
    | some d => have := h.lt d hv; exact .inr (by simp; omega))

theorem new_grown {w w' : World} (h : Below w.heap.size w w') {c : Nat} (hc : w.heap.size ≤ c) {w2 : World} (h2 : w'.grownBy w2 (some c)) : w.grownBy w2 none :=
  below_grown (h.grown h2 h.size (fun k hk => by injection hk with hk; omega))
end Go.Proofs.Ytfccikhmcenanaa.Draw

namespace Go.Proofs.Ytfccikhmcenanaa.Rw
open Go.RowKit Kit

section
variable {P : Program} {fn : Func} {R : Ending → World → Prop} {a : Act} {w : World} {p u v : Tmp} {ty t : TypeId} {g : Nat} {cs : Array Value} {d : TypeDesc}
theorem ret_box (h : fn.results = #[.cell p ty]) (hp : a.tmps.getD p undef = .pointer (some ⟨g, 0, none⟩)) (hg : Box w g cs t)
    (hu : P.underlying ty = some d) (hd : (match d with | .struct _ | .array _ _ => true | _ => false) = true) (hi : (P.info? ty).map (·.size) = some cs.size)
    (hf : a.defers = []) (hR : R (.returned (.agg cs)) w) : bodyPost P fn R .ret a w := by
  refine bodyPost_ret (v := .agg cs) ?_ hf hR
  have hp' : a.tmps[p]?.getD undef = .pointer (some ⟨g, 0, none⟩) := by simpa using hp
  simp [results, h, hp', asAddr, run_loadVar_row w g t ty cs (0, 0) d hg hu hd hi]
theorem ret_box1 (h : fn.results = #[.cell p ty, .tmp u]) (hp : a.tmps.getD p undef = .pointer (some ⟨g, 0, none⟩)) (hg : Box w g cs t)
    (hu : P.underlying ty = some d) (hd : (match d with | .struct _ | .array _ _ => true | _ => false) = true) (hi : (P.info? ty).map (·.size) = some cs.size)
    (hf : a.defers = []) (hR : R (.returned (.tuple #[.agg cs, a.tmps.getD u undef])) w) : bodyPost P fn R .ret a w := by
  refine bodyPost_ret (v := .tuple #[.agg cs, a.tmps.getD u undef]) ?_ hf hR
  have hp' : a.tmps[p]?.getD undef = .pointer (some ⟨g, 0, none⟩) := by simpa using hp
  simp [results, h, hp', asAddr, run_loadVar_row w g t ty cs (0, 0) d hg hu hd hi]
theorem ret_box2 (h : fn.results = #[.cell p ty, .tmp u, .tmp v]) (hp : a.tmps.getD p undef = .pointer (some ⟨g, 0, none⟩)) (hg : Box w g cs t)
    (hu : P.underlying ty = some d) (hd : (match d with | .struct _ | .array _ _ => true | _ => false) = true) (hi : (P.info? ty).map (·.size) = some cs.size)
    (hf : a.defers = []) (hR : R (.returned (.tuple #[.agg cs, a.tmps.getD u undef, a.tmps.getD v undef])) w) : bodyPost P fn R .ret a w := by
  refine bodyPost_ret (v := .tuple #[.agg cs, a.tmps.getD u undef, a.tmps.getD v undef]) ?_ hf hR
  have hp' : a.tmps[p]?.getD undef = .pointer (some ⟨g, 0, none⟩) := by simpa using hp
  simp [results, h, hp', asAddr, run_loadVar_row w g t ty cs (0, 0) d hg hu hd hi]
end
end Go.Proofs.Ytfccikhmcenanaa.Rw

namespace Go.Proofs.Ytfccikhmcenanaa.Draw
open Go.RowKit Kit Rw Inf Ld

set_option maxHeartbeats 1000000 in
theorem raw_any (w : World) (c : Nat) (hc : Cur w c) :
    Calls Try.prog 77 #[.pointer (some ⟨c, 0, none⟩)] w (Drawn c w I64) := by
  have HC := Lib.hid hc
  clear hc
  have HL := Lib.hid (int_list [-1, 0, 8, 9, 64, 9223372036854775807, -9223372036854775808] w c HC.out (by decide) (by decide))
  go_enter Try.func77, Try.ntmps77
  go_wp2_with (go_at_call 72; refine (HL.out).mono ?_; rintro e w3 ⟨y, hy, rfl, hc3, hg3⟩)
  go_ret
  refine ⟨_, ?_, rfl, hc3, hg3⟩
  simp only [List.mem_cons, List.not_mem_nil, or_false] at hy
  unfold I64; omega

/-- How the draw of a valid land ends. -/
def DrawnLd (c : Nat) (w : World) (e : Ending) (w' : World) : Prop :=
  ∃ W H v X, e = .returned (.agg #[.int .i64 W, .int .i64 H, v]) ∧ (2 ≤ W ∧ W ≤ 6) ∧ (2 ≤ H ∧ H ≤ 5) ∧ (X.length : Int) = W * H ∧ Own .i64 3 w' w.heap.size v X ∧ Cur w' c ∧ w.grownBy w' (some c)

theorem three_set0 {w : World} {b : Nat} {x y z u : Value} {t : TypeId} (h : w.heap[b]? = some (.cells #[x, y, z] t (0, 0))) : (w.setCell ⟨b, 0, none⟩ u).heap[b]? = some (.cells #[u, y, z] t (0, 0)) := by
  have hlt := lt_of_block h
  have h' : w.heap[b] = .cells #[x, y, z] t (0, 0) := by simpa [Array.getElem?_eq_getElem hlt] using h
  show (w.heap.modify b _)[b]? = _
  rw [Array.getElem?_eq_getElem (by simpa using hlt), Array.getElem_modify_self, h']
  rfl
/-- A struct of three cells that is stored whole. -/
def put3 (w : World) (b : Nat) (x y z : Value) : World := ((w.setCell ⟨b, 0, none⟩ x).setCell ⟨b, 1, none⟩ y).setCell ⟨b, 2, none⟩ z
theorem put3_grown (w : World) (b : Nat) (x y z : Value) : w.grownBy (put3 w b x y z) (some b) :=
  grown_trans (grown_trans (grown_set w b 0 x) (grown_set _ b 1 y)) (grown_set _ b 2 z)
theorem put3_box {w : World} {b : Nat} {x y z x' y' z' : Value} {T : TypeId} (h : Box w b #[x, y, z] T) : Box (put3 w b x' y' z') b #[x', y', z'] T := three_set2 (three_set1 (three_set0 h))
/-- .. what is asked at each of its three stores, and what its cells then hold. -/
theorem put3_on {w : World} {b : Nat} {x y z : Value} {T : TypeId} (h : Box w b #[x, y, z] T) (x' y' z' : Value) :
    (w.cell? ⟨b, 0, none⟩ = some x ∧ w.frozen? ⟨b, 0, none⟩ = false) ∧
    ((w.setCell ⟨b, 0, none⟩ x').cell? ⟨b, 1, none⟩ = some y ∧ (w.setCell ⟨b, 0, none⟩ x').frozen? ⟨b, 1, none⟩ = false) ∧
    (((w.setCell ⟨b, 0, none⟩ x').setCell ⟨b, 1, none⟩ y').cell? ⟨b, 2, none⟩ = some z ∧ ((w.setCell ⟨b, 0, none⟩ x').setCell ⟨b, 1, none⟩ y').frozen? ⟨b, 2, none⟩ = false) ∧
    ((((w.setCell ⟨b, 0, none⟩ x').setCell ⟨b, 1, none⟩ y').setCell ⟨b, 2, none⟩ z').cell? ⟨b, 0, none⟩ = some x' ∧ (((w.setCell ⟨b, 0, none⟩ x').setCell ⟨b, 1, none⟩ y').setCell ⟨b, 2, none⟩ z').cell? ⟨b, 1, none⟩ = some y' ∧ (((w.setCell ⟨b, 0, none⟩ x').setCell ⟨b, 1, none⟩ y').setCell ⟨b, 2, none⟩ z').cell? ⟨b, 2, none⟩ = some z') := by
  have b1 : (w.setCell ⟨b, 0, none⟩ x').heap[b]? = _ := three_set0 (u := x') h
  have b2 := three_set1 (u := y') b1
  have b3 := three_set2 (u := z') b2
  exact ⟨⟨(three_cell h).1, (three_free h).1⟩, ⟨(three_cell b1).2.1, (three_free b1).2.1⟩, ⟨(three_cell b2).2.2, (three_free b2).2.2⟩, three_cell b3⟩

/-- Where the draw of a land stands: the result's box, the land's own box B, its cells behind it, the cursor. -/
structure LR (w wr : World) (c B : Nat) (W H : Int) (v : Value) (X : List Int) : Prop where
  box : Box wr B #[.int .i64 W, .int .i64 H, v] 26
  res : Box wr w.heap.size #[.int .i64 0, .int .i64 0, .slice none 0 0] 26
  own : Own .i64 3 wr (B + 1) v X
  cur : Cur wr c
  grown : w.grownBy wr (some c)
  lt : w.heap.size < B
  cl : c < w.heap.size

theorem LR.next {w wr w3 w4 : World} {c B : Nat} {W H z : Int} {v v4 : Value} {X Y : List Int} (h : LR w wr c B W H v X) (hg3 : wr.drew.grownBy w3 (some c)) (hc3 : Cur w3 c) (hgrow4 : (w3.alloc (.cells #[.int .i64 z] 3 (0, 0))).grownBy w4 v.ownBlock)
    (hown4 : Own .i64 3 w4 (B + 1) v4 Y) : LR w (w4.setCell ⟨B, 2, none⟩ v4) c B W H v4 Y := by
  have hcl := h.cl
  have hlt := h.lt
  have hd := grown_drew (World.grownBy.refl wr none)
  have hal := World.grownBy_alloc w3 (.cells #[.int .i64 z] 3 (0, 0)) (none : Option Nat)
  have hset := grown_set w4 B 2 v4
  have hB : Box w4 B #[.int .i64 W, .int .i64 H, v] 26 := (((h.box.grown hd).kept hg3 (by simp; omega)).grown hal).kept hgrow4 (h.own.off (by omega))
  have hR : Box w4 w.heap.size #[.int .i64 0, .int .i64 0, .slice none 0 0] 26 := (((h.res.grown hd).kept hg3 (by simp; omega)).grown hal).kept hgrow4 (h.own.off (by omega))
  have hC : Cur w4 c := (hc3.kept_row hal (fun _ h => by cases h)).kept_row hgrow4 (fun g hg => by have := h.own.lt g hg; omega)
  refine ⟨three_set2 hB, hR.kept hset (by simp; omega), hown4.set (by omega) 2 v4, hC.kept_row hset (fun g hg => by injection hg with hg; omega), ?_, hlt, hcl⟩
  have g1 := grown_mix h.grown hd (fun _ h => by cases h)
  have g2 := grown_trans g1 hg3
  have g3 := grown_mix g2 hal (fun _ h => by cases h)
  have g4 := grown_mix g3 hgrow4 (fun g hg => by have := h.own.lt g hg; omega)
  exact grown_mix g4 hset (fun g hg => by injection hg with hg; omega)

set_option maxRecDepth 100000 in
set_option maxHeartbeats 4000000 in
theorem ldraw_any (w : World) (c : Nat) (hc : Cur w c) :
    Calls Try.prog 82 #[.pointer (some ⟨c, 0, none⟩)] w (DrawnLd c w) := by
  have hlt0 := hc.lt
  have hg0 := World.grownBy_alloc w (.cells #[.int .i64 0, .int .i64 0, .slice none 0 0] 26 (0, 0)) (none : Option Nat)
  have HC : Hid (Cur (w.alloc (.cells #[.int .i64 0, .int .i64 0, .slice none 0 0] 26 (0, 0))) c) := hc.kept_row hg0 (fun _ h => by cases h)
  have HG := Lib.hid hg0
  clear hc hg0
  obtain ⟨i0, hi, hz0, hz1, hz2⟩ := info_parts info_i64
  go_enter Try.func82, Try.ntmps82
  go_wp2_with fail
  refine (below_any 5 (by omega) _ _ HC.out).mono ?_
  rintro e w1 ⟨x, HP, rfl, hc1, hg1⟩
  obtain ⟨hx0, hx1⟩ := HP.1 (by omega)
  clear HP
  go_wp2_with fail
  refine (below_any 4 (by omega) _ _ hc1).mono ?_
  rintro e w2 ⟨y, HP, rfl, hc2, hg2⟩
  obtain ⟨hy0, hy1⟩ := HP.1 (by omega)
  clear HP
  obtain ⟨W, hW⟩ : ∃ W, W = 2 + x := ⟨_, rfl⟩
  obtain ⟨H, hH⟩ : ∃ H, H = 2 + y := ⟨_, rfl⟩
  have hW1 : 2 ≤ W ∧ W ≤ 6 := by omega
  have hH1 : 2 ≤ H ∧ H ≤ 5 := by omega
  have hA := area (W := W) (H := H) (by omega) (by omega)
  obtain ⟨n, hn⟩ : ∃ n : Nat, W * H = n := ⟨(W * H).toNat, by omega⟩
  have hp : IntKind.i64.wrap (W * H) = n := by rw [← hn]; exact IntWalk.i64_in _ (by omega)
  have hn1 : 4 ≤ n ∧ n ≤ 30 := by
    have h1 := Int.mul_le_mul hW1.1 hH1.1 (by omega) (by omega)
    have h2 := Int.mul_le_mul hW1.2 hH1.2 (by omega) (by omega)
    omega
  have hg3 := hg1
  have hr0 : LR w (w2.alloc (.cells #[.int .i64 W, .int .i64 H, .slice none 0 0] 26 (0, 0))) c w2.heap.size W H (.slice none 0 0) [] := by
    have hA1 := World.grownBy_alloc w2 (.cells #[.int .i64 W, .int .i64 H, .slice none 0 0] 26 (0, 0)) (none : Option Nat)
    have hs := Nat.le_trans hg1.size hg2.size
    simp only [World.size_alloc] at hs
    refine ⟨box_new _ _ _, ?_, own_nil _ _, hc2.kept_row hA1 (fun _ h => by cases h), grown_mix (grown_old' HG.out (grown_trans hg1 hg2)) hA1 (fun _ h => by cases h), by omega, hlt0⟩
    exact ((box_new w #[.int .i64 0, .int .i64 0, .slice none 0 0] 26).kept (grown_trans hg1 hg2) (by simp; omega)).grown hA1
  have HR := Lib.hid hr0
  have HWH := Lib.hid hn
  have HW1 := Lib.hid hW1
  have HH1 := Lib.hid hH1
  have HX := Lib.hid hW
  have HY := Lib.hid hH
  clear hr0 hg1 hg2 hg3 hc1 hc2 hA hW1 hH1 hn
  go_wp2
  rw [← HX.out, ← HY.out]
  clear HX HY HC HG hW hH hx0 hx1 hy0 hy1 hlt0
  obtain ⟨B, hB⟩ : ∃ B, B = w2.heap.size := ⟨_, rfl⟩
  rw [← hB] at HR ⊢
  generalize w2.alloc (.cells #[.int .i64 W, .int .i64 H, .slice none 0 0] 26 (0, 0)) = W3 at *
  clear hB
  go_loopw [4] (fun i wr => ∃ (j : Nat) (v : Value) (X : List Int), j ≤ n ∧ i = .int .i64 j ∧ X.length = j ∧ Hid (LR w wr c B W H v X)) (fun i _ => n - (intOf i).toNat)
  case atStart => exact ⟨0, _, [], Nat.zero_le _, rfl, rfl, HR⟩
  case round =>
    obtain ⟨j, v, X, hj, rfl, hX, HR1⟩ := hrel
    obtain ⟨d0, d1, d2⟩ := HR1.out.box.three
    obtain ⟨f0, f1, f2⟩ := three_free HR1.out.box
    by_cases hlt : j < n
    · have HXL := Lib.hid hX
      have hXn : X.length ≤ 30 := by omega
      clear hX HR
      have hdr := grown_drew (World.grownBy.refl wr none)
      have hCd := Lib.hid (HR1.out.cur.kept_row hdr (fun _ h => by cases h))
      have hBd := HR1.out.box.grown hdr
      obtain ⟨k0, k1, k2⟩ := hBd.three
      obtain ⟨q0, q1, q2⟩ := three_free hBd
      have hcB : c < B := Nat.lt_trans HR1.out.cl HR1.out.lt
      have hBw : B < wr.heap.size := HR1.out.box.lt
      go_wp2_with fail
      have kk1 := (World.grownBy_alloc wr.drew (.cells #[.int .i64 0, .int .i64 0, .int .i64 0, .int .i64 0, .int .i64 1, .int .i64 2] 3 (0, 0)) none).cell k2 (by simp)
      go_region_law (first
        | (refine step_append_one _ (by rfl) _ _ _ (by rfl) (B + 1) 3 i0 (.int .i64 0) 8 Try.underlying24 hi hz0 hz1 hz2 rfl .i64 v X (by rfl) ((((HR1.out.own.grown (grown_drew (World.grownBy.refl wr none))).kept hg3 (.inr (HR1.out.own.off (by omega)))).grown (World.grownBy_alloc _ _ none))) z w3.heap.size (by rfl) (cell_of_one (heap_alloc_new _ _)) (i64_mk (by omega)) (by omega) (by decide) (by have h3 := hg3.size; simp only [World.size_alloc] at h3 ⊢; simp only [World.drew] at h3; omega) ?_; intro v4 w4 hown4 hgrow4; have hB4 := ((hBd.kept hg3 (by simp; omega)).grown (World.grownBy_alloc _ (.cells #[.int .i64 z] 3 (0, 0)) none)).kept hgrow4 (HR1.out.own.off (by omega)); have kk4 := hB4.three.2.2; have ff4 := (three_free hB4).2.2; obtain ⟨a4, n4, c4, hv4, HN4⟩ := hown4.sees.shape; subst hv4)
        | (go_simp; go_at_call 72; refine (int_list [0, 0, 0, 0, 1, 2] _ c hCd.out (by decide) (by decide)).mono ?_; rintro e w3 ⟨z, hz, rfl, hc3, hg3⟩; have hzz : 0 ≤ z ∧ z ≤ 2 := (by simp only [List.mem_cons, List.not_mem_nil, or_false] at hz; omega); have kk2 := hg3.cell k2 (by simp; omega); have kk3 := (World.grownBy_alloc w3 (.cells #[.int .i64 z] 3 (0, 0)) none).cell kk2 (by simp)))
      all_goals
        have hnx := HR1.out.next hg3 hc3 hgrow4 hown4
        have HNX := Lib.hid hnx
        have hlen : (X ++ [z]).length = j + 1 := by have := HXL.out; simp; omega
        have HLN := Lib.hid hlen
        clear hnx hlen hown4 hgrow4 hB4 kk4 ff4 kk3 kk2 kk1 hg3 hc3 hz k0 k1 k2 q0 q1 q2 hBd hCd hdr d0 d1 d2 f0 f1 f2
        go_wp2
        go_roundw
        case rel => exact ⟨j + 1, _, _, by omega, by go_num, HLN.out, HNX⟩
        case measure => simp [intOf]; omega
    · have hjn : n = j := by omega
      subst hjn
      obtain ⟨g, cp, hv, hgb, hgl⟩ := HR1.out.own.1.form (by omega)
      rw [hX] at hv
      subst hv
      have hB0 := HR1.out.lt
      have hown := HR1.out.own.1
      rw [hX] at hown
      have hs := own_set (k := .i64) hown 0 0
      have hcell : wr.cell? ⟨g, 0, none⟩ = some (.int .i64 (X.getD 0 0)) := (hown.cellAt 0 (by omega)).trans (getD_map (by omega))
      have hfree := hown.frozenAt 0
      have e0 := hs.2.cell d0 (by simp; omega)
      have e1 := hs.2.cell d1 (by simp; omega)
      have e2 := hs.2.cell d2 (by simp; omega)
      have hR5 := HR1.out.res.kept hs.2 (by simp; omega)
      obtain ⟨⟨p0, r0⟩, ⟨p1, r1⟩, ⟨p2, r2⟩, o0, o1, o2⟩ := put3_on hR5 (.int .i64 W) (.int .i64 H) (.slice (some ⟨g, 0, none⟩) n cp)
      have HS := Lib.hid hs
      have HR5 := Lib.hid hR5
      clear hs hR5
      go_wp2
      try simp only [Exit.inBlock, Exit.then]
      refine ret_box rfl rfl (put3_box (x' := .int .i64 W) (y' := .int .i64 H) (z' := .slice (some ⟨g, 0, none⟩) n cp) HR5.out) Try.underlying26 rfl (by kernel_rfl) rfl ?_
      clear p0 p1 p2 r0 r1 r2 o0 o1 o2 e0 e1 e2 d0 d1 d2 f0 f1 f2 hcell hfree
      have hgS := HS.out.2
      have hP := put3_grown (wr.setCell ⟨g, 0, none⟩ (.int .i64 0)) w.heap.size (.int .i64 W) (.int .i64 H) (.slice (some ⟨g, 0, none⟩) n cp)
      have ho : Own .i64 3 (wr.setCell ⟨g, 0, none⟩ (.int .i64 0)) (B + 1) (.slice (some ⟨g, 0, none⟩) n cp) (X.set 0 0) := by
        refine ⟨by rw [List.length_set, hX]; exact HS.out.1, fun m hm => ?_⟩
        rcases List.mem_or_eq_of_mem_set hm with h' | h'
        · exact HR1.out.own.2 m h'
        · rw [h']; exact i64_mk (by omega)
      have hcl := HR1.out.cl
      refine ⟨W, H, _, X.set 0 0, rfl, HW1.out, HH1.out, by rw [List.length_set, hX]; exact HWH.out.symm, ?_, ?_, ?_⟩
      · exact (ho.kept hP (.inr (by simp [Value.ownBlock]; omega))).lower (by omega)
      · exact (HR1.out.cur.kept_row hgS (fun b hb => by injection hb with hb; omega)).kept_row hP (fun b hb => by injection hb with hb; omega)
      · exact grown_mix (grown_mix HR1.out.grown hgS (fun b hb => by injection hb with hb; omega)) hP (fun b hb => by injection hb with hb; omega)
end Go.Proofs.Ytfccikhmcenanaa.Draw

namespace Go.Proofs.Ytfccikhmcenanaa.Draw
open Go.RowKit Kit Rw Inf Ld

/-- How the draw of any land ends. -/
def DrawnLand (c : Nat) (w : World) (e : Ending) (w' : World) : Prop :=
  ∃ W H v X, e = .returned (.agg #[.int .i64 W, .int .i64 H, v]) ∧ I64 W ∧ I64 H ∧ Sees .i64 w' v X ∧ X.length ≤ 30 ∧ (∀ b, v.ownBlock = some b → w.heap.size ≤ b ∧ b < w'.heap.size) ∧ Cur w' c ∧ w.grownBy w' (some c)

structure LA (w wr : World) (c B : Nat) (W H : Int) (v : Value) (X : List Int) : Prop where
  box : Box wr B #[.int .i64 W, .int .i64 H, v] 26
  res : Box wr w.heap.size #[.int .i64 0, .int .i64 0, .slice none 0 0] 26
  sees : Sees .i64 wr v X
  vb : ∀ b, v.ownBlock = some b → w.heap.size < b ∧ b < B
  cur : Cur wr c
  grown : w.grownBy wr (some c)
  lt : w.heap.size < B
  cl : c < w.heap.size
  iW : I64 W
  iH : I64 H
  len : X.length ≤ 30
section
variable {w wr wy : World} {c B : Nat} {W H z : Int} {v u : Value} {X Y : List Int}
theorem LA.off (h : LA w wr c B W H v X) {b : Nat} (hb : b ≤ w.heap.size ∨ B ≤ b) : v.ownBlock = none ∨ v.ownBlock ≠ some b := by
  cases e : v.ownBlock with
  | none => exact .inl rfl
  | some g => have := h.vb g e; exact .inr (by simp; omega)
theorem LA.call (h : LA w wr c B W H v X) (hg : wr.grownBy wy (some c)) (hc : Cur wy c) : LA w wy c B W H v X := by
  have h1 := h.cl
  have h2 := h.lt
  exact ⟨h.box.kept hg (by simp; omega), h.res.kept hg (by simp; omega), h.sees.kept hg (h.off (by omega)), h.vb, hc, grown_trans h.grown hg, h2, h1, h.iW, h.iH, h.len⟩
theorem LA.on (h : LA w wr c B W H v X) (hg : wr.grownBy wy none) : LA w wy c B W H v X :=
  ⟨h.box.grown hg, h.res.grown hg, h.sees.grown hg, h.vb, h.cur.kept_row hg (fun _ h => by cases h), grown_mix h.grown hg (fun _ h => by cases h), h.lt, h.cl, h.iW, h.iH, h.len⟩
theorem LA.into (h : LA w wr c B W H v X) (j : Nat) (x : Value) : wr.grownBy (wr.setCell ⟨B, j, none⟩ x) (some B) ∧ Box (wr.setCell ⟨B, j, none⟩ x) w.heap.size #[.int .i64 0, .int .i64 0, .slice none 0 0] 26 ∧ Cur (wr.setCell ⟨B, j, none⟩ x) c ∧ w.grownBy (wr.setCell ⟨B, j, none⟩ x) (some c) := by
  have h1 := h.cl
  have h2 := h.lt
  have hs := grown_set wr B j x
  exact ⟨hs, h.res.kept hs (by simp; omega), h.cur.kept_row hs (fun g hg => by injection hg with hg; omega), grown_mix h.grown hs (fun g hg => by injection hg with hg; omega)⟩
theorem LA.set0 (h : LA w wr c B W H v X) (hz : I64 z) : LA w (wr.setCell ⟨B, 0, none⟩ (.int .i64 z)) c B z H v X := by
  obtain ⟨g1, g2, g3, g4⟩ := h.into 0 (.int .i64 z)
  exact ⟨three_set0 h.box, g2, h.sees.kept g1 (h.off (by omega)), h.vb, g3, g4, h.lt, h.cl, hz, h.iH, h.len⟩
theorem LA.set1 (h : LA w wr c B W H v X) (hz : I64 z) : LA w (wr.setCell ⟨B, 1, none⟩ (.int .i64 z)) c B W z v X := by
  obtain ⟨g1, g2, g3, g4⟩ := h.into 1 (.int .i64 z)
  exact ⟨three_set1 h.box, g2, h.sees.kept g1 (h.off (by omega)), h.vb, g3, g4, h.lt, h.cl, h.iW, hz, h.len⟩
theorem LA.set2 (h : LA w wr c B W H v X) (hu : Sees .i64 wr u Y) (hb : ∀ b, u.ownBlock = some b → w.heap.size < b ∧ b < B) (hl : Y.length ≤ 30) : LA w (wr.setCell ⟨B, 2, none⟩ u) c B W H u Y := by
  obtain ⟨g1, g2, g3, g4⟩ := h.into 2 u
  refine ⟨three_set2 h.box, g2, hu.kept g1 ?_, hb, g3, g4, h.lt, h.cl, h.iW, h.iH, hl⟩
  cases e : u.ownBlock with
  | none => exact .inl rfl
  | some g => have := hb g e; exact .inr (by simp; omega)
theorem LA.fin (h : LA w wr c B W H v X) : DrawnLand c w (.returned (.agg #[.int .i64 W, .int .i64 H, v])) (put3 wr w.heap.size (.int .i64 W) (.int .i64 H) v) := by
  have h1 := h.cl
  have hP := put3_grown wr w.heap.size (.int .i64 W) (.int .i64 H) v
  exact ⟨W, H, v, X, rfl, h.iW, h.iH, h.sees.kept hP (h.off (by omega)), h.len, fun b hb => ⟨Nat.le_of_lt (h.vb b hb).1, by have := (h.vb b hb).2; have := h.box.lt; have := hP.size; omega⟩, h.cur.kept_row hP (fun g hg => by injection hg with hg; omega), grown_mix h.grown hP (fun g hg => by injection hg with hg; omega)⟩
end
/-- A row without its first element. -/
theorem sees_tail {k : IntKind} {w : World} {g n cap : Nat} {L : List Int} (h : Sees k w (.slice (some ⟨g, 0, none⟩) n cap) L) (hn : L ≠ []) : Sees k w (.slice (some ⟨g, 1, none⟩) (n - 1) (cap - 1)) L.tail := by
  obtain ⟨a, cap', e, h1, h2, h3, h4, h5⟩ := h
  injection e with e1 e2 e3
  subst e1; subst e2; subst e3
  have hp := List.length_pos_iff.2 hn
  rcases h5 with h5 | ⟨b, o, e, hc⟩
  · exact absurd h5 hn
  · injection e with e
    injection e with e1 e2
    subst e1; subst e2
    refine ⟨_, cap - 1, by simp, by simp; omega, by omega, fun h => by simp at h, fun m hm => h4 m (List.mem_of_mem_tail hm), .inr ⟨g, 1, rfl, fun j hj => ?_⟩⟩
    simp at hj
    have := hc (j + 1) (by omega)
    rw [show 1 + j = 0 + (j + 1) by omega, this]
    congr 2
    rw [List.getD_eq_getElem?_getD, List.getD_eq_getElem?_getD, List.getElem?_tail]
theorem sees_set {w : World} {g n cap base : Nat} {L : List Int} (h : Own .i64 3 w base (.slice (some ⟨g, 0, none⟩) n cap) L) (hn : L.length = n) (j : Nat) (x : Int) (hx : (Lit.int .i64 x).wf = true) : Sees .i64 (w.setCell ⟨g, j, none⟩ (.int .i64 x)) (.slice (some ⟨g, 0, none⟩) n cap) (L.set j x) := by
  have ho := h.1
  rw [hn] at ho
  refine Own.sees (E := 3) (base := base) ⟨by rw [List.length_set, hn]; exact (own_set ho j x).1, fun m hm => ?_⟩
  rcases List.mem_or_eq_of_mem_set hm with h' | h'
  · exact h.2 m h'
  · rw [h']; exact hx

theorem sees_cap {k : IntKind} {w : World} {a : Option Addr} {n cap : Nat} {L : List Int} (h : Sees k w (.slice a n cap) L) : n ≤ cap := by
  obtain ⟨a', cap', e, h1, _⟩ := h
  injection e with e1 e2 e3
  omega
theorem at_own {w : World} {g n cap base : Nat} {L : List Int} (h : Own .i64 3 w base (.slice (some ⟨g, 0, none⟩) n cap) L) (hn : L.length = n) {j : Nat} (hj : j < n) : w.cell? ⟨g, j, none⟩ = some (.int .i64 (L.getD j 0)) := by
  have ho := h.1
  rw [hn] at ho
  exact (ho.cellAt j (by omega)).trans (getD_map (by omega))
theorem free_own {w : World} {g n cap base j : Nat} {L : List Int} (h : Own .i64 3 w base (.slice (some ⟨g, 0, none⟩) n cap) L) (hn : L.length = n) : w.frozen? ⟨g, j, none⟩ = false := by
  have ho := h.1
  rw [hn] at ho
  exact ho.frozenAt j
theorem LA.store {w wr : World} {c B g n cp base : Nat} {W H : Int} {X : List Int} (h : LA w wr c B W H (.slice (some ⟨g, 0, none⟩) n cp) X) (ho : Own .i64 3 wr base (.slice (some ⟨g, 0, none⟩) n cp) X) (hn : X.length = n) (j : Nat) (x : Int) (hx : (Lit.int .i64 x).wf = true) :
    LA w (wr.setCell ⟨g, j, none⟩ (.int .i64 x)) c B W H (.slice (some ⟨g, 0, none⟩) n cp) (X.set j x) := by
  have h1 := h.cl
  have h2 := h.lt
  have h3 := h.vb g rfl
  have hs := grown_set wr g j (.int .i64 x)
  exact ⟨h.box.kept hs (by simp; omega), h.res.kept hs (by simp; omega), sees_set ho hn j x hx, h.vb, h.cur.kept_row hs (fun b hb => by injection hb with hb; omega), grown_mix h.grown hs (fun b hb => by injection hb with hb; omega), h2, h1, h.iW, h.iH, by rw [List.length_set]; exact h.len⟩

set_option maxRecDepth 100000 in
set_option maxHeartbeats 4000000 in
theorem lany_any (w : World) (c : Nat) (hc : Cur w c) :
    Calls Try.prog 67 #[.pointer (some ⟨c, 0, none⟩)] w (DrawnLand c w) := by
  have hlt0 := hc.lt
  have hg0 := World.grownBy_alloc w (.cells #[.int .i64 0, .int .i64 0, .slice none 0 0] 26 (0, 0)) (none : Option Nat)
  have HC : Hid (Cur (w.alloc (.cells #[.int .i64 0, .int .i64 0, .slice none 0 0] 26 (0, 0))) c) := hc.kept_row hg0 (fun _ h => by cases h)
  have HG := Lib.hid hg0
  clear hc hg0
  go_enter Try.func67, Try.ntmps67
  go_wp2_with fail
  refine (ldraw_any _ _ HC.out).mono ?_
  rintro e w1 ⟨W, H, v, X, rfl, hW, hH, hX, ho, hc1, hg1⟩
  have hA := area (W := W) (H := H) (by omega) (by omega)
  have hn1 : 4 ≤ W * H ∧ W * H ≤ 30 := by
    have h1 := Int.mul_le_mul hW.1 hH.1 (by omega) (by omega)
    have h2 := Int.mul_le_mul hW.2 hH.2 (by omega) (by omega)
    omega
  have hX1 : 4 ≤ X.length ∧ X.length ≤ 30 := by omega
  obtain ⟨g, cp, hv, hgb, hgl⟩ := ho.1.form (by omega)
  simp only [World.size_alloc] at hgb
  obtain ⟨n, hn⟩ : ∃ n, n = X.length := ⟨_, rfl⟩
  rw [← hn] at hv hX1
  subst hv
  have hr0 : LA w (w1.alloc (.cells #[.int .i64 W, .int .i64 H, .slice (some ⟨g, 0, none⟩) n cp] 26 (0, 0))) c w1.heap.size W H (.slice (some ⟨g, 0, none⟩) n cp) X := by
    have hA1 := World.grownBy_alloc w1 (.cells #[.int .i64 W, .int .i64 H, .slice (some ⟨g, 0, none⟩) n cp] 26 (0, 0)) (none : Option Nat)
    have hs := hg1.size
    simp only [World.size_alloc] at hs
    refine ⟨box_new _ _ _, ?_, ho.sees.grown hA1, ?_, hc1.kept_row hA1 (fun _ h => by cases h), grown_mix (grown_old' HG.out hg1) hA1 (fun _ h => by cases h), by omega, hlt0, ⟨by omega, by omega⟩, ⟨by omega, by omega⟩, by omega⟩
    · exact ((box_new w #[.int .i64 0, .int .i64 0, .slice none 0 0] 26).kept hg1 (by simp; omega)).grown hA1
    · intro b hb
      simp [Value.ownBlock] at hb
      omega
  have HO := Lib.hid (ho.grown (World.grownBy_alloc w1 (.cells #[.int .i64 W, .int .i64 H, .slice (some ⟨g, 0, none⟩) n cp] 26 (0, 0)) none))
  have HR := Lib.hid hr0
  have HN := Lib.hid hn
  clear hr0 hn hA hn1 ho hc1 hg1 hX hW hH HC HG
  go_wp2_with fail
  refine (below_any 14 (by omega) _ _ HR.out.cur).mono ?_
  rintro e w2 ⟨x, HP, rfl, hc2, hg2⟩
  obtain ⟨hx0, hx1⟩ := HP.1 (by omega)
  have hr2 := HR.out.call hg2 hc2
  have HO2 := Lib.hid (HO.out.kept hg2 (.inr (by have := HR.out.vb g rfl; simp [Value.ownBlock]; omega)))
  clear HP hc2 hg2 HO HR
  have HR2 := Lib.hid hr2
  clear hr2
  generalize w1.heap.size = B at *
  by_cases h0 : x = 0
  · subst h0
    go_wp2_with fail
    refine (raw_any _ _ HR2.out.cur).mono ?_
    rintro e w3 ⟨z, hz, rfl, hc3, hg3⟩
    have hr3 := HR2.out.call hg3 hc3
    have HR3 := Lib.hid hr3
    obtain ⟨d0, d1, d2⟩ := hr3.box.three
    obtain ⟨f0, f1, f2⟩ := three_free hr3.box
    have hr4 := hr3.set0 hz
    have HR4 := Lib.hid hr4
    clear hr3 hr4 hc3 hg3 hz
    obtain ⟨e0, e1, e2⟩ := HR4.out.box.three
    obtain ⟨⟨p0, r0⟩, ⟨p1, r1⟩, ⟨p2, r2⟩, o0, o1, o2⟩ := put3_on HR4.out.res (.int .i64 z) (.int .i64 H) (.slice (some ⟨g, 0, none⟩) n cp)
    go_wp2
    try simp only [Exit.inBlock, Exit.then]
    exact ret_box rfl rfl (put3_box (x' := .int .i64 z) (y' := .int .i64 H) (z' := (.slice (some ⟨g, 0, none⟩) n cp)) HR4.out.res) Try.underlying26 rfl (by kernel_rfl) rfl HR4.out.fin
  by_cases h1 : x = 1
  · subst h1
    go_wp2_with fail
    refine (raw_any _ _ HR2.out.cur).mono ?_
    rintro e w3 ⟨z, hz, rfl, hc3, hg3⟩
    have hr3 := HR2.out.call hg3 hc3
    have HR3 := Lib.hid hr3
    obtain ⟨d0, d1, d2⟩ := hr3.box.three
    obtain ⟨f0, f1, f2⟩ := three_free hr3.box
    have hr4 := hr3.set1 hz
    have HR4 := Lib.hid hr4
    clear hr3 hr4 hc3 hg3 hz
    obtain ⟨e0, e1, e2⟩ := HR4.out.box.three
    obtain ⟨⟨p0, r0⟩, ⟨p1, r1⟩, ⟨p2, r2⟩, o0, o1, o2⟩ := put3_on HR4.out.res (.int .i64 W) (.int .i64 z) (.slice (some ⟨g, 0, none⟩) n cp)
    go_wp2
    try simp only [Exit.inBlock, Exit.then]
    exact ret_box rfl rfl (put3_box (x' := .int .i64 W) (y' := .int .i64 z) (z' := (.slice (some ⟨g, 0, none⟩) n cp)) HR4.out.res) Try.underlying26 rfl (by kernel_rfl) rfl HR4.out.fin
  by_cases h2 : x = 2
  · subst h2
    obtain ⟨d0, d1, d2⟩ := HR2.out.box.three
    have hdr := grown_drew (World.grownBy.refl w2 none)
    have hrd := HR2.out.on hdr
    have HRD := Lib.hid hrd
    have hod := HO2.out.grown hdr
    have HOD := Lib.hid hod
    obtain ⟨k0, k1, k2⟩ := hrd.box.three
    have kk1 := (World.grownBy_alloc w2.drew (.cells #[.int .i64 (-1), .int .i64 2, .int .i64 3] 3 (0, 0)) none).cell k2 (by simp)
    have kk0 := (World.grownBy_alloc w2 (.cells #[.int .i64 (-1), .int .i64 2, .int .i64 3] 3 (0, 0)) none).cell d2 (by simp)
    have hcB : c < B := Nat.lt_trans HR2.out.cl HR2.out.lt
    have hgc : c < g := by have := HR2.out.cl; have := (HR2.out.vb g rfl).1; omega
    have HNX : Hid (X.length = n) := HN.out.symm
    have hn0 : 0 < n := by omega
    have hn0' : (0 : Int) < (n : Int) := by omega
    clear hrd hod hdr
    go_wp2_with fail
    go_region_law (first
      | (go_simp; go_at_call 72; refine (int_list [-1, 2, 3] _ c HRD.out.cur (by decide) (by decide)).mono ?_; rintro e w3 ⟨z, hz, rfl, hc3, hg3⟩; have hz2 : -1 ≤ z ∧ z ≤ 3 := (by simp only [List.mem_cons, List.not_mem_nil, or_false] at hz; omega); have kk2 := hg3.cell k2 (by simp; omega); have ho3 := HOD.out.kept hg3 (.inr (by simp [Value.ownBlock]; omega)); have HO3 := Lib.hid ho3; have kg2 : w3.cell? ⟨g, 0, none⟩ = some (.int .i64 (X.getD 0 0)) := (at_own ho3 HNX.out (by omega)); have kf2 : w3.frozen? ⟨g, 0, none⟩ = false := (free_own ho3 HNX.out); clear ho3))
    all_goals
      have hr3 := HRD.out.call hg3 hc3
      have hr4 := hr3.store HO3.out HNX.out 0 z (i64_mk (by omega))
      have HR4 := Lib.hid hr4
      clear hr4 hr3 kk0 kk1 kk2 kg2 kf2 k0 k1 k2 d0 d1 d2 hg3 hc3 hz
      obtain ⟨e0, e1, e2⟩ := HR4.out.box.three
      obtain ⟨⟨p0, r0⟩, ⟨p1, r1⟩, ⟨p2, r2⟩, o0, o1, o2⟩ := put3_on HR4.out.res (.int .i64 W) (.int .i64 H) (.slice (some ⟨g, 0, none⟩) n cp)
      go_wp2
      try simp only [Exit.inBlock, Exit.then]
      exact ret_box rfl rfl (put3_box (x' := .int .i64 W) (y' := .int .i64 H) (z' := (.slice (some ⟨g, 0, none⟩) n cp)) HR4.out.res) Try.underlying26 rfl (by kernel_rfl) rfl HR4.out.fin
  by_cases h3 : x = 3
  · subst h3
    obtain ⟨d0, d1, d2⟩ := HR2.out.box.three
    obtain ⟨f0, f1, f2⟩ := three_free HR2.out.box
    have hne : X ≠ [] := fun e => by rw [e] at HN; have := HN.out; simp at this; omega
    have hcp : n ≤ cp := sees_cap HR2.out.sees
    have hst := sees_tail HR2.out.sees hne
    have hr4 := HR2.out.set2 hst (by intro b hb; simp [Value.ownBlock] at hb; have := HR2.out.vb g rfl; omega) (by have := HR2.out.len; simp; omega)
    have HR4 := Lib.hid hr4
    clear hr4 hst hne
    obtain ⟨e0, e1, e2⟩ := HR4.out.box.three
    obtain ⟨⟨p0, r0⟩, ⟨p1, r1⟩, ⟨p2, r2⟩, o0, o1, o2⟩ := put3_on HR4.out.res (.int .i64 W) (.int .i64 H) (.slice (some ⟨g, 1, none⟩) (n - 1) (cp - 1))
    go_wp2
    try simp only [Exit.inBlock, Exit.then]
    exact ret_box rfl rfl (put3_box (x' := .int .i64 W) (y' := .int .i64 H) (z' := (.slice (some ⟨g, 1, none⟩) (n - 1) (cp - 1))) HR4.out.res) Try.underlying26 rfl (by kernel_rfl) rfl HR4.out.fin
  have hr4 := HR2.out
  have HR4 := Lib.hid hr4
  clear hr4
  obtain ⟨e0, e1, e2⟩ := HR4.out.box.three
  obtain ⟨⟨p0, r0⟩, ⟨p1, r1⟩, ⟨p2, r2⟩, o0, o1, o2⟩ := put3_on HR4.out.res (.int .i64 W) (.int .i64 H) (.slice (some ⟨g, 0, none⟩) n cp)
  go_wp2
  try simp only [Exit.inBlock, Exit.then]
  exact ret_box rfl rfl (put3_box (x' := .int .i64 W) (y' := .int .i64 H) (z' := (.slice (some ⟨g, 0, none⟩) n cp)) HR4.out.res) Try.underlying26 rfl (by kernel_rfl) rfl HR4.out.fin
end Go.Proofs.Ytfccikhmcenanaa.Draw

namespace Go.Proofs.Ytfccikhmcenanaa.Draw
open Go.RowKit Kit Rw Inf Ld

structure DA (w wr : World) (c B : Nat) (W H : Int) (v : Value) (X : List Int) : Prop where
  box : Box wr B #[.int .i64 W, .int .i64 H, v] 26
  res : Box wr w.heap.size #[.int .i64 0, .int .i64 0, .slice none 0 0] 26
  sees : Sees .i64 wr v X
  vb : ∀ b, v.ownBlock = some b → w.heap.size < b ∧ b ≠ c ∧ b < B
  cur : Cur wr c
  grown : w.grownBy wr none
  lt : w.heap.size < c
  cB : c ≠ B ∧ w.heap.size < B
  iW : I64 W
  iH : I64 H
  len : X.length ≤ 30
section
variable {w wr wy : World} {c B : Nat} {W H z : Int} {v u : Value} {X Y : List Int}
theorem DA.off (h : DA w wr c B W H v X) {b : Nat} (hb : b ≤ w.heap.size ∨ b = c ∨ B ≤ b) : v.ownBlock = none ∨ v.ownBlock ≠ some b := by
  cases e : v.ownBlock with
  | none => exact .inl rfl
  | some g => have := h.vb g e; exact .inr (by simp; omega)
theorem DA.call (h : DA w wr c B W H v X) (hg : wr.grownBy wy (some c)) (hc : Cur wy c) : DA w wy c B W H v X := by
  have h1 := h.cB
  have h2 := h.lt
  exact ⟨h.box.kept hg (by simp; omega), h.res.kept hg (by simp; omega), h.sees.kept hg (h.off (by omega)), h.vb, hc, grown_new h.grown hg (fun b hb => by injection hb with hb; omega), h2, h1, h.iW, h.iH, h.len⟩
theorem DA.on (h : DA w wr c B W H v X) (hg : wr.grownBy wy none) : DA w wy c B W H v X :=
  ⟨h.box.grown hg, h.res.grown hg, h.sees.grown hg, h.vb, h.cur.kept_row hg (fun _ h => by cases h), grownN_trans h.grown hg, h.lt, h.cB, h.iW, h.iH, h.len⟩
/-- What a draw of a land hands out, whatever comes with it. -/
structure LandOut (w w' : World) (W H : Int) (v : Value) (X : List Int) : Prop where
  sees : Sees .i64 w' v X
  vb : ∀ b, v.ownBlock = some b → w.heap.size ≤ b ∧ b < w'.heap.size
  grown : w.grownBy w' none
  iW : I64 W
  iH : I64 H
  len : X.length ≤ 30
theorem DA.fin (h : DA w wr c B W H v X) : LandOut w (put3 wr w.heap.size (.int .i64 W) (.int .i64 H) v) W H v X := by
  have hP := put3_grown wr w.heap.size (.int .i64 W) (.int .i64 H) v
  exact ⟨h.sees.kept hP (h.off (by omega)), fun b hb => ⟨Nat.le_of_lt (h.vb b hb).1, by have := (h.vb b hb).2.2; have := h.box.lt; have := hP.size; omega⟩, grown_new h.grown hP (fun g hg => by injection hg with hg; omega), h.iW, h.iH, h.len⟩
theorem _root_.Go.Proofs.Ytfccikhmcenanaa.Draw.I64.below {n x : Int} (h : BelowP n x) (h0 : 0 < n) (h1 : n ≤ 9223372036854775807) : I64 x := by
  have := h.1 h0
  exact ⟨by omega, by omega⟩
/-- The cells of the land's box, as they are held while an order is drawn. -/
theorem keep3 {x y z : Value} (hg : wr.grownBy wy (some c)) (h : wr.cell? ⟨B, 0, none⟩ = some x ∧ wr.cell? ⟨B, 1, none⟩ = some y ∧ wr.cell? ⟨B, 2, none⟩ = some z) (hne : B ≠ c) :
    wy.cell? ⟨B, 0, none⟩ = some x ∧ wy.cell? ⟨B, 1, none⟩ = some y ∧ wy.cell? ⟨B, 2, none⟩ = some z :=
  ⟨hg.cell h.1 (by simp; exact hne), hg.cell h.2.1 (by simp; exact hne), hg.cell h.2.2 (by simp; exact hne)⟩
end

set_option maxRecDepth 100000 in
set_option maxHeartbeats 4000000 in
theorem dcell_any (w : World) (a : Option Addr) (len cap : Nat) (z : List Int) (hr : IsRow .u8 w a len cap z) :
    Calls Try.prog 57 #[.slice a len cap] w fun e w' => ∃ W H v X y, e = .returned (.tuple #[.agg #[.int .i64 W, .int .i64 H, v], .int .i64 y]) ∧ I64 y ∧ LandOut w w' W H v X := by
  have hg0 := World.grownBy_alloc w (.cells #[.int .i64 0, .int .i64 0, .slice none 0 0] 26 (0, 0)) (none : Option Nat)
  have HR := Lib.hid (hr.below (grown_below hg0 _ (Nat.le_refl _)))
  have HB := Lib.hid (box_new w #[.int .i64 0, .int .i64 0, .slice none 0 0] 26)
  have HG := Lib.hid hg0
  clear hr hg0
  go_enter Try.func57, Try.ntmps57
  go_wp2_with fail
  refine (new_any _ a len cap z HR.out).mono ?_
  rintro e w1 ⟨c, rfl, hc, hlc, hb⟩
  simp only [World.size_alloc] at hlc
  have HB1 := Lib.hid (HB.out.below hb)
  have HG1 := Lib.hid (grownN_trans HG.out (below_grown hb))
  have HC := Lib.hid hc
  clear hc hb HB HG HR
  go_wp2_with fail
  refine (lany_any _ _ HC.out).mono ?_
  rintro e w2 ⟨W, H, v, X, rfl, hW, hH, hs, hl, hvb, hc2, hg2⟩
  obtain ⟨va, vn, vc, hv, HVN⟩ := hs.shape
  subst hv
  have hsz1 := HG1.out.size
  have hcl := HC.out.lt
  have hr0 : DA w (w2.alloc (.cells #[.int .i64 W, .int .i64 H, .slice va vn vc] 26 (0, 0))) c w2.heap.size W H (.slice va vn vc) X := by
    have hA1 := World.grownBy_alloc w2 (.cells #[.int .i64 W, .int .i64 H, .slice va vn vc] 26 (0, 0)) (none : Option Nat)
    have hs2 := hg2.size
    refine ⟨box_new _ _ _, (HB1.out.kept hg2 (by simp; omega)).grown hA1, hs.grown hA1, fun b hb => ?_, hc2.kept_row hA1 (fun _ h => by cases h), grownN_trans (grown_new HG1.out hg2 (fun b hb => by injection hb with hb; omega)) hA1, by omega, ⟨by omega, by omega⟩, hW, hH, hl⟩
    have h1 := hvb b hb
    omega
  have HA := Lib.hid hr0
  have hd0 := grown_drew (World.grownBy.refl (w2.alloc (.cells #[.int .i64 W, .int .i64 H, .slice va vn vc] 26 (0, 0))) none)
  have HD := Lib.hid (hr0.on hd0)
  have hBc : w2.heap.size ≠ c := by have := hr0.cB; omega
  have hrc : w.heap.size ≠ c := by have := hr0.lt; omega
  have hBr : w2.heap.size ≠ w.heap.size := by have := hr0.lt; have := hr0.cB; omega
  clear hr0 hd0 hW hH hs hl hvb hc2 hg2 HC HB1 HG1 hsz1 hcl
  go_wp2_with fail
  generalize w2.alloc (.cells #[.int .i64 W, .int .i64 H, .slice va vn vc] 26 (0, 0)) = w3 at *
  generalize w2.heap.size = B at *
  have hcd := HD.out.cur
  have hd0 := HD.out
  obtain ⟨k0, k1, k2⟩ := HD.out.box.three
  go_region_held3 (fun w' => w'.cell? ⟨B, 0, none⟩ = some (.int .i64 W) ∧ w'.cell? ⟨B, 1, none⟩ = some (.int .i64 H) ∧ w'.cell? ⟨B, 2, none⟩ = some (.slice va vn vc))
    (first | (exact keep3 (by assumption) (by assumption) hBc) | (exact keep3 (put3_grown w6 w.heap.size (.int .i64 W) (.int .i64 H) (.slice va vn vc)) hk6 hBr) | go_keep)
    (first
      | (go_at_call 59; refine (below_any 30 (by omega) _ _ (by assumption)).mono ?_; rintro e w4 ⟨x4, HP4, rfl, hc4, hg4⟩; have hi4 : I64 x4 := (I64.below HP4 (by omega) (by omega)); have hd4 := DA.call (w := w) (B := B) (W := W) (H := H) (v := .slice va vn vc) (X := X) (by assumption) hg4 hc4; clear HP4)
      | (go_at_call 77; refine (raw_any _ _ (by assumption)).mono ?_; rintro e w5 ⟨x5, HP5, rfl, hc5, hg5⟩; have hd5 := DA.call (w := w) (B := B) (W := W) (H := H) (v := .slice va vn vc) (X := X) (by assumption) hg5 hc5; have hk5 := keep3 hg5 (by assumption) hBc)
      | (go_at_call 72; refine (int_list [_, _, _, _] _ _ (by assumption) (by simp) (by simp)).mono ?_; rintro e w6 ⟨x6, HP6, rfl, hc6, hg6⟩; have hk6 := keep3 hg6 hk5 hBc; have hd6 := DA.call (w := w) (B := B) (W := W) (H := H) (v := .slice va vn vc) (X := X) (by assumption) hg6 hc6; obtain ⟨⟨p0, r0⟩, ⟨p1, r1⟩, ⟨p2, r2⟩, o0, o1, o2⟩ := put3_on hd6.res (.int .i64 W) (.int .i64 H) (.slice va vn vc)))
  have HD6 := Lib.hid hd6
  have hi6 : I64 x6 := by
    simp only [List.mem_cons, List.not_mem_nil, or_false] at HP6
    rcases HP6 with rfl | rfl | rfl | rfl
    · assumption
    · assumption
    · exact ⟨by omega, by omega⟩
    · assumption
  have HI6 := Lib.hid hi6
  clear hd6 hk6 hk5 hd5 hd4 hg6 hg5 hg4 hc6 hc5 hc4 p0 p1 p2 r0 r1 r2 o0 o1 o2 HP6 hi6
  go_wp2
  try simp only [Exit.inBlock, Exit.then]
  exact ret_box1 rfl rfl (put3_box (x' := .int .i64 W) (y' := .int .i64 H) (z' := .slice va vn vc) HD6.out.res) Try.underlying26 rfl (by kernel_rfl) rfl ⟨W, H, _, X, x6, rfl, HI6.out, HD6.out.fin⟩
end Go.Proofs.Ytfccikhmcenanaa.Draw

namespace Go.Proofs.Ytfccikhmcenanaa.Draw
open Go.RowKit Kit Rw Inf Ld

set_option maxRecDepth 100000 in
set_option maxHeartbeats 4000000 in
theorem dapart_any (w : World) (a : Option Addr) (len cap : Nat) (z : List Int) (hr : IsRow .u8 w a len cap z) :
    Calls Try.prog 17 #[.slice a len cap] w fun e w' => ∃ W H v X y k, e = .returned (.tuple #[.agg #[.int .i64 W, .int .i64 H, v], .int .i64 y, .int .i64 k]) ∧ I64 y ∧ I64 k ∧ LandOut w w' W H v X := by
  have hg0 := World.grownBy_alloc w (.cells #[.int .i64 0, .int .i64 0, .slice none 0 0] 26 (0, 0)) (none : Option Nat)
  have HR := Lib.hid (hr.below (grown_below hg0 _ (Nat.le_refl _)))
  have HB := Lib.hid (box_new w #[.int .i64 0, .int .i64 0, .slice none 0 0] 26)
  have HG := Lib.hid hg0
  clear hr hg0
  go_enter Try.func17, Try.ntmps17
  go_wp2_with fail
  refine (dcell_any _ a len cap z HR.out).mono ?_
  rintro e w1 ⟨W, H, v, X, y, rfl, hy, hl⟩
  obtain ⟨va, vn, vc, hv, HVN⟩ := hl.sees.shape
  subst hv
  have hA1 := World.grownBy_alloc w1 (.cells #[.int .i64 W, .int .i64 H, .slice va vn vc] 26 (0, 0)) (none : Option Nat)
  have hg2 := grownN_trans hl.grown hA1
  have hs1 := hl.grown.size
  simp only [World.size_alloc] at hs1
  have HX := Lib.hid (box_new w1 #[.int .i64 W, .int .i64 H, .slice va vn vc] 26)
  have HB2 := Lib.hid (HB.out.grown hg2)
  have HR2 := Lib.hid (HR.out.below (grown_below hg2 _ (Nat.le_refl _)))
  have HG2 := Lib.hid (grownN_trans HG.out hg2)
  have HS2 := Lib.hid (hl.sees.grown hA1)
  have HL := Lib.hid hl
  have HY := Lib.hid hy
  clear hl hy hA1 hg2 HR HB HG
  go_wp2_with fail
  refine (new_any _ a len cap z HR2.out).mono ?_
  rintro e w3 ⟨c, rfl, hc, hlc, hb⟩
  simp only [World.size_alloc] at hlc
  have hr0 : DA w w3 c w1.heap.size W H (.slice va vn vc) X := by
    refine ⟨HX.out.below hb, HB2.out.below hb, HS2.out.below hb, fun b hb => ?_, hc, grownN_trans HG2.out (below_grown hb), by omega, ⟨by omega, by omega⟩, HL.out.iW, HL.out.iH, HL.out.len⟩
    have := HL.out.vb b hb
    simp only [World.size_alloc] at this
    omega
  have HA := Lib.hid hr0
  have hd0 := hr0.on (grown_drew (World.grownBy.refl w3 none))
  have hBc : w1.heap.size ≠ c := by omega
  have hBr : w1.heap.size ≠ w.heap.size := by omega
  clear hr0 hc hlc hb HX HB2 HR2 HG2 HS2 hs1
  have HI := Lib.hid (⟨HL.out.iW, HL.out.iH⟩ : I64 W ∧ I64 H)
  clear HL
  go_wp2_with fail
  generalize w1.heap.size = B at *
  have hcd := hd0.cur
  obtain ⟨k0, k1, k2⟩ := hd0.box.three
  go_region_held3 (fun w' => w'.cell? ⟨B, 0, none⟩ = some (.int .i64 W) ∧ w'.cell? ⟨B, 1, none⟩ = some (.int .i64 H) ∧ w'.cell? ⟨B, 2, none⟩ = some (.slice va vn vc))
    (first | (exact keep3 (by assumption) (by assumption) hBc) | (exact keep3 (put3_grown w6 w.heap.size (.int .i64 W) (.int .i64 H) (.slice va vn vc)) hk6 hBr) | go_keep)
    ((go_at_call 59; refine (below_any 30 (by omega) _ _ (by assumption)).mono ?_; rintro e w6 ⟨x6, HP6, rfl, hc6, hg6⟩; have hk6 := keep3 hg6 (by assumption) hBc; have hd6 := DA.call (w := w) (B := B) (W := W) (H := H) (v := .slice va vn vc) (X := X) (by assumption) hg6 hc6; obtain ⟨⟨p0, r0⟩, ⟨p1, r1⟩, ⟨p2, r2⟩, o0, o1, o2⟩ := put3_on hd6.res (.int .i64 W) (.int .i64 H) (.slice va vn vc)))
  have HD6 := Lib.hid hd6
  have HI6 : Hid (I64 x6) := I64.below HP6 (by omega) (by omega)
  clear hd6 hk6 hg6 hc6 p0 p1 p2 r0 r1 r2 o0 o1 o2 HP6 hd0
  go_wp2
  try simp only [Exit.inBlock, Exit.then]
  exact ret_box2 rfl rfl (put3_box (x' := .int .i64 W) (y' := .int .i64 H) (z' := .slice va vn vc) HD6.out.res) Try.underlying26 rfl (by kernel_rfl) rfl ⟨W, H, _, X, y, x6, rfl, HY.out, HI6.out, HD6.out.fin⟩
end Go.Proofs.Ytfccikhmcenanaa.Draw

namespace Go.Proofs.Ytfccikhmcenanaa.Draw
open Go.RowKit Kit Rw Inf Ld

theorem LandOut.wrap {w w1 : World} {o : Obj} {W H : Int} {v : Value} {X : List Int} (h : LandOut (w.alloc o) w1 W H v X) : LandOut w (put3 w1 w.heap.size (.int .i64 W) (.int .i64 H) v) W H v X := by
  have hP := put3_grown w1 w.heap.size (.int .i64 W) (.int .i64 H) v
  have hb : ∀ b, v.ownBlock = some b → w.heap.size < b ∧ b < w1.heap.size := fun b hb => by
    have := h.vb b hb
    simp only [World.size_alloc] at this
    omega
  refine ⟨h.sees.kept hP ?_, fun b h' => ?_, grown_new (grownN_trans (World.grownBy_alloc w o none) h.grown) hP (fun g hg => by injection hg with hg; omega), h.iW, h.iH, h.len⟩
  · cases e : v.ownBlock with
    | none => exact .inl rfl
    | some g => have := hb g e; exact .inr (by simp; omega)
  · have := hb b h'
    have := hP.size
    omega
/-- .. by a draw that makes the cursor itself. -/
theorem LandOut.ofDrawn {w w1 w2 : World} {o : Obj} {c : Nat} {W H : Int} {v : Value} {X : List Int} (hb : Below (w.alloc o).heap.size (w.alloc o) w1) (hc : (w.alloc o).heap.size ≤ c) (hg : w1.grownBy w2 (some c)) (hW : I64 W) (hH : I64 H) (hs : Sees .i64 w2 v X) (hl : X.length ≤ 30)
    (hv : ∀ b, v.ownBlock = some b → w1.heap.size ≤ b ∧ b < w2.heap.size) : LandOut (w.alloc o) w2 W H v X :=
  ⟨hs, fun b h => by have := hv b h; have := hb.size; omega, grown_new (below_grown hb) hg (fun g h => by injection h with h; omega), hW, hH, hl⟩
end Go.Proofs.Ytfccikhmcenanaa.Draw

namespace Go.Proofs.Ytfccikhmcenanaa.Draw
open Go.RowKit Kit Rw Inf Ld

set_option maxRecDepth 100000 in
set_option maxHeartbeats 4000000 in
theorem dNear_any (w : World) (a : Option Addr) (len cap : Nat) (z : List Int) (hr : IsRow .u8 w a len cap z) :
    Calls Try.prog 21 #[.slice a len cap] w fun e w' => ∃ W H v X y, e = .returned (.tuple #[.agg #[.int .i64 W, .int .i64 H, v], .int .i64 y]) ∧ I64 y ∧ LandOut w w' W H v X := by
  have hg0 := World.grownBy_alloc w (.cells #[.int .i64 0, .int .i64 0, .slice none 0 0] 26 (0, 0)) (none : Option Nat)
  have HR := Lib.hid (hr.below (grown_below hg0 _ (Nat.le_refl _)))
  have HB := Lib.hid (box_new w #[.int .i64 0, .int .i64 0, .slice none 0 0] 26)
  clear hr hg0
  go_enter Try.func21, Try.ntmps21
  go_wp2_with fail
  refine (dcell_any _ a len cap z HR.out).mono ?_
  rintro e w1 ⟨W, H, v, X, y, rfl, hy, hl⟩
  obtain ⟨va, vn, vc, hv, HVN⟩ := hl.sees.shape
  subst hv
  have hB1 := HB.out.grown hl.grown
  obtain ⟨⟨p0, r0⟩, ⟨p1, r1⟩, ⟨p2, r2⟩, o0, o1, o2⟩ := put3_on hB1 (.int .i64 W) (.int .i64 H) (.slice va vn vc)
  have HB1 := Lib.hid hB1
  have HL := Lib.hid hl.wrap
  have HY := Lib.hid hy
  clear hl hB1 HB HR hy
  go_wp2
  try simp only [Exit.inBlock, Exit.then]
  exact ret_box1 rfl rfl (put3_box (x' := .int .i64 W) (y' := .int .i64 H) (z' := .slice va vn vc) HB1.out) Try.underlying26 rfl (by kernel_rfl) rfl ⟨W, H, _, X, y, rfl, HY.out, HL.out⟩
end Go.Proofs.Ytfccikhmcenanaa.Draw

namespace Go.Proofs.Ytfccikhmcenanaa.Draw
open Go.RowKit Kit Rw Inf Ld

set_option maxRecDepth 100000 in
set_option maxHeartbeats 4000000 in
theorem dFarthest_any (w : World) (a : Option Addr) (len cap : Nat) (z : List Int) (hr : IsRow .u8 w a len cap z) :
    Calls Try.prog 37 #[.slice a len cap] w fun e w' => ∃ W H v X y, e = .returned (.tuple #[.agg #[.int .i64 W, .int .i64 H, v], .int .i64 y]) ∧ I64 y ∧ LandOut w w' W H v X := by
  have hg0 := World.grownBy_alloc w (.cells #[.int .i64 0, .int .i64 0, .slice none 0 0] 26 (0, 0)) (none : Option Nat)
  have HR := Lib.hid (hr.below (grown_below hg0 _ (Nat.le_refl _)))
  have HB := Lib.hid (box_new w #[.int .i64 0, .int .i64 0, .slice none 0 0] 26)
  clear hr hg0
  go_enter Try.func37, Try.ntmps37
  go_wp2_with fail
  refine (dcell_any _ a len cap z HR.out).mono ?_
  rintro e w1 ⟨W, H, v, X, y, rfl, hy, hl⟩
  obtain ⟨va, vn, vc, hv, HVN⟩ := hl.sees.shape
  subst hv
  have hB1 := HB.out.grown hl.grown
  obtain ⟨⟨p0, r0⟩, ⟨p1, r1⟩, ⟨p2, r2⟩, o0, o1, o2⟩ := put3_on hB1 (.int .i64 W) (.int .i64 H) (.slice va vn vc)
  have HB1 := Lib.hid hB1
  have HL := Lib.hid hl.wrap
  have HY := Lib.hid hy
  clear hl hB1 HB HR hy
  go_wp2
  try simp only [Exit.inBlock, Exit.then]
  exact ret_box1 rfl rfl (put3_box (x' := .int .i64 W) (y' := .int .i64 H) (z' := .slice va vn vc) HB1.out) Try.underlying26 rfl (by kernel_rfl) rfl ⟨W, H, _, X, y, rfl, HY.out, HL.out⟩
end Go.Proofs.Ytfccikhmcenanaa.Draw

namespace Go.Proofs.Ytfccikhmcenanaa.Draw
open Go.RowKit Kit Rw Inf Ld

set_option maxRecDepth 100000 in
set_option maxHeartbeats 4000000 in
theorem dWayTo_any (w : World) (a : Option Addr) (len cap : Nat) (z : List Int) (hr : IsRow .u8 w a len cap z) :
    Calls Try.prog 29 #[.slice a len cap] w fun e w' => ∃ W H v X y k, e = .returned (.tuple #[.agg #[.int .i64 W, .int .i64 H, v], .int .i64 y, .int .i64 k]) ∧ I64 y ∧ I64 k ∧ LandOut w w' W H v X := by
  have hg0 := World.grownBy_alloc w (.cells #[.int .i64 0, .int .i64 0, .slice none 0 0] 26 (0, 0)) (none : Option Nat)
  have HR := Lib.hid (hr.below (grown_below hg0 _ (Nat.le_refl _)))
  have HB := Lib.hid (box_new w #[.int .i64 0, .int .i64 0, .slice none 0 0] 26)
  clear hr hg0
  go_enter Try.func29, Try.ntmps29
  go_wp2_with fail
  refine (dapart_any _ a len cap z HR.out).mono ?_
  rintro e w1 ⟨W, H, v, X, y, k, rfl, hy, hk, hl⟩
  obtain ⟨va, vn, vc, hv, HVN⟩ := hl.sees.shape
  subst hv
  have hB1 := HB.out.grown hl.grown
  obtain ⟨⟨p0, r0⟩, ⟨p1, r1⟩, ⟨p2, r2⟩, o0, o1, o2⟩ := put3_on hB1 (.int .i64 W) (.int .i64 H) (.slice va vn vc)
  have HB1 := Lib.hid hB1
  have HL := Lib.hid hl.wrap
  have HY := Lib.hid hy
  have HK := Lib.hid hk
  clear hl hB1 HB HR hy hk
  go_wp2
  try simp only [Exit.inBlock, Exit.then]
  exact ret_box2 rfl rfl (put3_box (x' := .int .i64 W) (y' := .int .i64 H) (z' := .slice va vn vc) HB1.out) Try.underlying26 rfl (by kernel_rfl) rfl ⟨W, H, _, X, y, k, rfl, HY.out, HK.out, HL.out⟩
end Go.Proofs.Ytfccikhmcenanaa.Draw

namespace Go.Proofs.Ytfccikhmcenanaa.Draw
open Go.RowKit Kit Rw Inf Ld

theorem keep_al {w : World} {o : Obj} {B : Nat} {x y z : Value} (h : w.cell? ⟨B, 0, none⟩ = some x ∧ w.cell? ⟨B, 1, none⟩ = some y ∧ w.cell? ⟨B, 2, none⟩ = some z) : (w.alloc o).cell? ⟨B, 0, none⟩ = some x ∧ (w.alloc o).cell? ⟨B, 1, none⟩ = some y ∧ (w.alloc o).cell? ⟨B, 2, none⟩ = some z :=
  ⟨(World.grownBy_alloc w o none).cell h.1 (by simp), (World.grownBy_alloc w o none).cell h.2.1 (by simp), (World.grownBy_alloc w o none).cell h.2.2 (by simp)⟩
set_option maxRecDepth 100000 in
set_option maxHeartbeats 4000000 in
theorem dReach_any (w : World) (a : Option Addr) (len cap : Nat) (z : List Int) (hr : IsRow .u8 w a len cap z) :
    Calls Try.prog 34 #[.slice a len cap] w fun e w' => ∃ W H v X y k, e = .returned (.tuple #[.agg #[.int .i64 W, .int .i64 H, v], .int .i64 y, .int .i64 k]) ∧ I64 y ∧ (-1 ≤ k ∧ k ≤ 99) ∧ LandOut w w' W H v X := by
  have hg0 := World.grownBy_alloc w (.cells #[.int .i64 0, .int .i64 0, .slice none 0 0] 26 (0, 0)) (none : Option Nat)
  have HR := Lib.hid (hr.below (grown_below hg0 _ (Nat.le_refl _)))
  have HB := Lib.hid (box_new w #[.int .i64 0, .int .i64 0, .slice none 0 0] 26)
  have HG := Lib.hid hg0
  clear hr hg0
  go_enter Try.func34, Try.ntmps34
  go_wp2_with fail
  refine (dcell_any _ a len cap z HR.out).mono ?_
  rintro e w1 ⟨W, H, v, X, y, rfl, hy, hl⟩
  obtain ⟨va, vn, vc, hv, HVN⟩ := hl.sees.shape
  subst hv
  have hA1 := World.grownBy_alloc w1 (.cells #[.int .i64 W, .int .i64 H, .slice va vn vc] 26 (0, 0)) (none : Option Nat)
  have hg2 := grownN_trans hl.grown hA1
  have hs1 := hl.grown.size
  simp only [World.size_alloc] at hs1
  have HX := Lib.hid (box_new w1 #[.int .i64 W, .int .i64 H, .slice va vn vc] 26)
  have HB2 := Lib.hid (HB.out.grown hg2)
  have HR2 := Lib.hid (HR.out.below (grown_below hg2 _ (Nat.le_refl _)))
  have HG2 := Lib.hid (grownN_trans HG.out hg2)
  have HS2 := Lib.hid (hl.sees.grown hA1)
  have HL := Lib.hid hl
  have HY := Lib.hid hy
  clear hl hy hA1 hg2 HR HB HG
  go_wp2_with fail
  refine (new_any _ a len cap z HR2.out).mono ?_
  rintro e w3 ⟨c, rfl, hc, hlc, hb⟩
  simp only [World.size_alloc] at hlc
  have hr0 : DA w w3 c w1.heap.size W H (.slice va vn vc) X := by
    refine ⟨HX.out.below hb, HB2.out.below hb, HS2.out.below hb, fun b hb => ?_, hc, grownN_trans HG2.out (below_grown hb), by omega, ⟨by omega, by omega⟩, HL.out.iW, HL.out.iH, HL.out.len⟩
    have := HL.out.vb b hb
    simp only [World.size_alloc] at this
    omega
  have HA := Lib.hid hr0
  have hd0 := hr0.on (grown_drew (World.grownBy.refl w3 none))
  have hBc : w1.heap.size ≠ c := by omega
  have hBr : w1.heap.size ≠ w.heap.size := by omega
  clear hr0 hc hlc hb HX HB2 HR2 HG2 HS2 hs1
  have HI := Lib.hid (⟨HL.out.iW, HL.out.iH⟩ : I64 W ∧ I64 H)
  clear HL
  go_wp2_with fail
  generalize w1.heap.size = B at *
  have hcd := hd0.cur
  obtain ⟨k0, k1, k2⟩ := hd0.box.three
  have hil : Calls Try.prog 72 #[.pointer (some ⟨c, 0, none⟩), .slice (some ⟨w3.heap.size, 0, none⟩) 6 6] (w3.alloc (.cells #[.int .i64 0, .int .i64 1, .int .i64 2, .int .i64 4, .int .i64 99, .int .i64 (-1)] 3 (0, 0))).drew (Drawn c w3.drew fun x => x ∈ [0, 1, 2, 4, 99, -1]) := int_list [0, 1, 2, 4, 99, -1] w3.drew c hcd (by simp) (by simp)
  have HIL := Lib.hid hil
  clear hil
  go_region_held3 (fun w' => w'.cell? ⟨B, 0, none⟩ = some (.int .i64 W) ∧ w'.cell? ⟨B, 1, none⟩ = some (.int .i64 H) ∧ w'.cell? ⟨B, 2, none⟩ = some (.slice va vn vc))
    (first | (exact keep_al ⟨k0, k1, k2⟩) | (exact keep3 (by assumption) (by assumption) hBc) | (exact keep3 (put3_grown w6 w.heap.size (.int .i64 W) (.int .i64 H) (.slice va vn vc)) hk6 hBr) | go_keep)
    ((go_at_call 72; refine HIL.out.mono ?_; rintro e w6 ⟨x6, HP6, rfl, hc6, hg6⟩; have hk6 := keep3 hg6 ⟨k0, k1, k2⟩ hBc; have hd6 := DA.call (w := w) (B := B) (W := W) (H := H) (v := .slice va vn vc) (X := X) (by assumption) hg6 hc6; obtain ⟨⟨p0, r0⟩, ⟨p1, r1⟩, ⟨p2, r2⟩, o0, o1, o2⟩ := put3_on hd6.res (.int .i64 W) (.int .i64 H) (.slice va vn vc)))
  have HD6 := Lib.hid hd6
  have HI6 : Hid (-1 ≤ x6 ∧ x6 ≤ 99) := by
    simp only [List.mem_cons, List.not_mem_nil, or_false] at HP6
    show _ ∧ _
    omega
  clear hd6 hk6 hg6 hc6 p0 p1 p2 r0 r1 r2 o0 o1 o2 HP6 hd0
  go_wp2
  try simp only [Exit.inBlock, Exit.then]
  exact ret_box2 rfl rfl (put3_box (x' := .int .i64 W) (y' := .int .i64 H) (z' := .slice va vn vc) HD6.out.res) Try.underlying26 rfl (by kernel_rfl) rfl ⟨W, H, _, X, y, x6, rfl, HY.out, HI6.out, HD6.out.fin⟩
end Go.Proofs.Ytfccikhmcenanaa.Draw

namespace Go.Proofs.Ytfccikhmcenanaa.Draw
open Go.RowKit Kit Rw Inf Ld

set_option maxRecDepth 100000 in
set_option maxHeartbeats 4000000 in
theorem dIsLand_any (w : World) (a : Option Addr) (len cap : Nat) (z : List Int) (hr : IsRow .u8 w a len cap z) :
    Calls Try.prog 26 #[.slice a len cap] w fun e w' => ∃ W H v X, e = .returned (.agg #[.int .i64 W, .int .i64 H, v]) ∧ LandOut w w' W H v X := by
  have hg0 := World.grownBy_alloc w (.cells #[.int .i64 0, .int .i64 0, .slice none 0 0] 26 (0, 0)) (none : Option Nat)
  have HR := Lib.hid (hr.below (grown_below hg0 _ (Nat.le_refl _)))
  have HB := Lib.hid (box_new w #[.int .i64 0, .int .i64 0, .slice none 0 0] 26)
  clear hr hg0
  go_enter Try.func26, Try.ntmps26
  go_wp2_with fail
  refine (new_any _ a len cap z HR.out).mono ?_
  rintro e w1 ⟨c, rfl, hc, hlc, hb⟩
  have HB1 := Lib.hid (HB.out.below hb)
  have HC := Lib.hid hc
  have HBL := Lib.hid hb
  have HLC := Lib.hid hlc
  clear hc hb hlc HB HR
  go_wp2_with fail
  refine (lany_any _ _ HC.out).mono ?_
  rintro e w2 ⟨W, H, v, X, rfl, hW, hH, hs, hl, hvb, hc2, hg2⟩
  obtain ⟨va, vn, vc, hv, HVN⟩ := hs.shape
  subst hv
  have hB1 := HB1.out.kept hg2 (by have := HLC.out; simp only [World.size_alloc] at this; simp; omega)
  obtain ⟨⟨p0, r0⟩, ⟨p1, r1⟩, ⟨p2, r2⟩, o0, o1, o2⟩ := put3_on hB1 (.int .i64 W) (.int .i64 H) (.slice va vn vc)
  have HB2 := Lib.hid hB1
  have HL := Lib.hid (LandOut.ofDrawn HBL.out HLC.out hg2 hW hH hs hl hvb).wrap
  clear hB1 HB1 HC HBL HLC hW hH hs hl hvb hc2 hg2
  go_wp2
  try simp only [Exit.inBlock, Exit.then]
  exact ret_box rfl rfl (put3_box (x' := .int .i64 W) (y' := .int .i64 H) (z' := .slice va vn vc) HB2.out) Try.underlying26 rfl (by kernel_rfl) rfl ⟨W, H, _, X, rfl, HL.out⟩
end Go.Proofs.Ytfccikhmcenanaa.Draw
