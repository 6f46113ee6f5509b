/- A new cursor over the bytes that came in. -/
import Derived.Test.YtbibkjponadipaaDoorDraw
namespace Go.Proofs.YtbibkjponadipaaDoor.Draw
open Go.RowKit Kit

def I64 (x : Int) : Prop := -9223372036854775808 ≤ x ∧ x ≤ 9223372036854775807
theorem I64.wf {x : Int} (h : I64 x) : (Lit.int .i64 x).wf = true := by
  obtain ⟨h0, h1⟩ := h
  have hmin : IntKind.i64.min = -9223372036854775808 := rfl
  have hmax : IntKind.i64.max = 9223372036854775807 := rfl
  simp only [Lit.wf, Bool.and_eq_true, decide_eq_true_eq]; omega

/-- How the making of a cursor ends: a pointer to a new block. -/
def NewCur (w : World) (e : Ending) (w' : World) : Prop := ∃ c, e = .returned (.pointer (some ⟨c, 0, none⟩)) ∧ Cur w' c ∧ w.heap.size ≤ c ∧ Below w.heap.size w w'

theorem new_end {w : World} {a : Option Addr} {len cap : Nat} {z : List Int} (hr : IsRow .u8 w a len cap z) (y : Int) :
    NewCur w (.returned (.pointer (some ⟨w.heap.size, 0, none⟩))) (w.alloc (.cells #[.slice a len cap, .int .i64 0, .int .i64 y] 52)) := by
  have hb : Below w.heap.size w (w.alloc (.cells #[.slice a len cap, .int .i64 0, .int .i64 y] 52)) := (Below.refl _ _).alloc (Nat.le_refl _) _
  refine ⟨_, rfl, ⟨a, len, cap, z, 0, y, heap_alloc_new _ _, by omega, by omega, hr.below hb, ?_⟩, Nat.le_refl _, hb⟩
  intro x hx h0
  rcases hr with ⟨h, _⟩ | ⟨x', hx', h1, h2, h3, h4, _⟩
  · rw [h] at hx; cases hx
  · rw [hx'] at hx
    injection hx with hx
    subst hx
    have h := World.block_lt_of_cell? w _ (h4 0 (by omega))
    simp only [Addr.add, if_true] at h
    exact h

set_option maxHeartbeats 1000000 in
theorem new_any (w : World) (a : Option Addr) (len cap : Nat) (z : List Int) (hr : IsRow .u8 w a len cap z) :
    Calls Tryd.prog 15 #[.slice a len cap] w (NewCur w) := by
  have HR := Lib.hid hr
  have hll := hr.len_le
  unfold maxLen at hll
  clear hr
  go_enter Tryd.func15, Tryd.ntmps15
  go_wp2
  go_loop [3, 4] (fun h i => ∃ k : Nat, ∃ y : Int, k ≤ len ∧ i = .int .i64 k ∧ h = .int .i64 y) (fun _ i => len - (intOf i).toNat)
  case atStart => exact ⟨0, _, Nat.zero_le _, rfl, rfl⟩
  case round =>
    obtain ⟨k, y, hk, rfl, rfl⟩ := hrel
    by_cases hlt : k < len
    · by_cases h4 : (k : Int) < 4000
      · obtain ⟨b, off, rfl, hcell⟩ := HR.out.at hlt
        have hck := hcell k (by omega)
        have hbyte := HR.out.bounds k
        clear hcell
        go_wp2
        go_round
        case rel => exact ⟨k + 1, _, by omega, by go_num, rfl⟩
        case measure => simp [intOf]; omega
      · go_wp2
        go_ret
        exact new_end HR.out _
    · go_wp2
      go_ret
      exact new_end HR.out _

end Go.Proofs.YtbibkjponadipaaDoor.Draw
