/- A strings.Builder of the call's own: written rune by rune (ASCII), and read. -/
import Derived.Test.YtoanhnklemlfmaaRowE
import Derived.Test.YtoanhnklemlfmaaMBase
import Derived.Lib.Builder
import Derived.Lib.OthersKept
namespace Go.Proofs.Ytoanhnklemlfmaa.Bld
open Go.RowKit Kit Rw Rg

theorem szB : (Try.prog.info? 37).map (·.size) = some 2 := by kernel_rfl
theorem liesB : liesAt Try.prog Try.prog.depth 37 (2 / Try.prog.cellsOf 37) 0 37 1 = true := by kernel_rfl
theorem info_u8 : (Try.prog.info? 5).map (fun i => (i.zero, i.size, i.bytes)) = some (some (.int .u8 0), 1, 1) := by kernel_rfl
/-- A builder in block b that holds the bytes L; its rows lie behind it. -/
def Bd (w : World) (b : Nat) (L : List Int) : Prop :=
  ∃ p v, (p = .pointer none ∨ p = .pointer (some ⟨b, 0, none⟩)) ∧ Box w b #[p, v] 37 ∧ Own .u8 5 w (b + 1) v L
def Bu (w : World) (b : Nat) (v : Value) (L : List Int) : Prop := Box w b #[.pointer (some ⟨b, 0, none⟩), v] 37 ∧ Own .u8 5 w (b + 1) v L
theorem Bd.new (w : World) : Bd (w.alloc (.cells #[.pointer none, .slice none 0 0] 37 (0, 0))) w.heap.size [] :=
  ⟨_, _, .inl rfl, box_new _ _ _, ⟨World.ownsRow_nil _ _ _ _, by simp⟩⟩
theorem Bu.bd {w : World} {b : Nat} {v : Value} {L : List Int} (h : Bu w b v L) : Bd w b L := ⟨_, v, .inr rfl, h.1, h.2⟩
theorem Bd.lt {w : World} {b : Nat} {L : List Int} (h : Bd w b L) : b < w.heap.size := by obtain ⟨_, _, _, h, _⟩ := h; exact h.lt
theorem set2_0 {w : World} {b : Nat} {x y u : Value} {t : TypeId} (h : Box w b #[x, y] t) : Box (w.setCell ⟨b, 0, none⟩ u) b #[u, y] t := box_set h 0 u
theorem set2_1 {w : World} {b : Nat} {x y u : Value} {t : TypeId} (h : Box w b #[x, y] t) : Box (w.setCell ⟨b, 1, none⟩ u) b #[x, u] t := box_set h 1 u
theorem own_off {w : World} {b : Nat} {v : Value} {L : List Int} (h : Own .u8 5 w (b + 1) v L) : v.ownBlock = none ∨ v.ownBlock ≠ some b := .inr fun e => by have := h.1.lt _ e; omega
theorem grown_below' {w w' : World} {b : Nat} (h : w.grownBy w' (some b)) (hB : b < w.heap.size) : Below b w w' := (Below.refl b w).grown h (Nat.le_of_lt hB) (fun k hk => by injection hk; omega)
theorem ret_one {a : Int} (h : a = 1) : Ending.returned (.tuple #[.int .i64 a, .nilIface]) = .returned (.tuple #[.int .i64 1, .nilIface]) := by rw [h]
/-- How much is written. -/
def bufLen (w : World) (b : Nat) : Nat := match w.cell? ⟨b, 1, none⟩ with
  | some (.slice _ n _) => n
  | _ => 0
theorem Bd.bufLen {w : World} {b : Nat} {L : List Int} (h : Bd w b L) : bufLen w b = L.length := by
  obtain ⟨p, v, _, hb, ho⟩ := h
  obtain ⟨va, vn, vc, rfl, HN⟩ := ho.sees.shape
  unfold Bld.bufLen
  rw [hb.cell 1]
  exact HN.out.symm
/-- Whatever leaves the blocks from the builder on as they were. -/
theorem Bd.kept {w w' : World} {b : Nat} {L : List Int} (h : Bd w b L) (hs : w.heap.size ≤ w'.heap.size) (hk : ∀ k, b ≤ k → k < w.heap.size → w'.heap[k]? = w.heap[k]?) : Bd w' b L := by
  obtain ⟨p, v, hp, hb, ho, hw⟩ := h
  refine ⟨p, v, hp, (hk b (Nat.le_refl _) hb.lt).trans hb, ?_, hw⟩
  obtain ⟨h1, h2⟩ := ho
  refine ⟨h1, ?_⟩
  rcases h2 with h2 | ⟨g, cap, cur, hv, hg, hh, r⟩
  · exact .inl h2
  · have hlt : g < w.heap.size := by
      rcases Nat.lt_or_ge g w.heap.size with h' | h'
      · exact h'
      · rw [Array.getElem?_eq_none h'] at hh; cases hh
    exact .inr ⟨g, cap, cur, hv, hg, (hk g (by omega) hlt).trans hh, r⟩

set_option maxHeartbeats 1000000 in
set_option maxRecDepth 100000 in
theorem check_any (w : World) (b : Nat) (L : List Int) (h : Bd w b L) :
    Calls Try.prog 18 #[.pointer (some ⟨b, 0, none⟩)] w fun e w' => e = .returned (.tuple #[]) ∧ (∃ v, Bu w' b v L) ∧ w.grownBy w' (some b) := by
  obtain ⟨j, hj, hjs⟩ := Option.map_eq_some_iff.1 szB
  obtain ⟨p, v, hp, hb, ho⟩ := h
  have HO := Lib.hid ho
  have HB := Lib.hid hb
  rcases hp with rfl | rfl
  · have h0 : w.cell? ⟨b, 0, none⟩ = some (.pointer none) := hb.cell 0
    have hsh : w.shape? b = some (37, 2) := by
      have h' : w.heap[b]? = _ := hb
      simp [World.shape?, h']
    have hfz := hb.free 0
    clear hb ho
    go_enter Try.func18, Try.ntmps18
    go_wp2
    rw [Lib.run_to_unsafe w ⟨b, 0, none⟩ Try.underlying34 Try.underlying45 hj (by rw [hjs]; decide) hsh (Nat.zero_lt_succ 1)]
    simp only [Result.andThen]
    rw [Oper.upon_value]
    go_wp2
    rw [run_callFunc_extern Try.func19 (by kernel_rfl) (by kernel_rfl) (by kernel_rfl) (e := Extern.AbiNoEscape.same) (by kernel_rfl)]
    rw [Lib.run_noEscape]
    simp only [Result.andThen]
    rw [Oper.upon_value]
    go_wp2
    rw [Lib.run_from_unsafe w ⟨b, 0, none⟩ Try.underlying45 Try.underlying34 hj hsh liesB]
    simp only [Result.andThen]
    rw [Oper.upon_value]
    go_wp2
    go_end0
    exact ⟨rfl, ⟨v, set2_0 HB.out, HO.out.kept (grown_set w b 0 _) (own_off HO.out)⟩, grown_set w b 0 _⟩
  · have h0 : w.cell? ⟨b, 0, none⟩ = some (.pointer (some ⟨b, 0, none⟩)) := hb.cell 0
    clear hb ho
    go_enter Try.func18, Try.ntmps18
    go_wp2
    rw [Lib.run_neq_ptr_same w _ Try.underlying34 hj]
    go_wp2
    go_end0
    exact ⟨rfl, ⟨v, HB.out, HO.out⟩, World.grownBy.refl _ _⟩

end Go.Proofs.Ytoanhnklemlfmaa.Bld
