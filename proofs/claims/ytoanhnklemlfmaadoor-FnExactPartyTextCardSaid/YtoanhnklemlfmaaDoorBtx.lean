/- The text of days: a sign for each, and the builder that holds it. -/
import Derived.Test.YtoanhnklemlfmaaDoorBld
import Derived.Test.YtoanhnklemlfmaaDoorLaySt
namespace Go.Proofs.YtoanhnklemlfmaaDoor.Btx
open Go.RowKit Kit Rw Rg Bld

def code (b : Bool) : Int := if b then 115 else 46
def codes (S : List Bool) : List Int := S.map code
def byte (b : Bool) : UInt8 := if b then 115 else 46
/-- The text of a weather. -/
def text (S : List Bool) : ByteArray := ⟨(S.map byte).toArray⟩
theorem codes_cells (S : List Bool) : (codes S).map (Value.int .u8) = Lib.byteCells (S.map byte) := by
  unfold codes Lib.byteCells
  rw [List.map_map, List.map_map]
  apply List.map_congr_left
  intro b _
  cases b <;> rfl
theorem codes_len (S : List Bool) : (codes S).length = S.length := by simp [codes]
theorem codes_next (S : List Bool) (b : Bool) : codes (S ++ [b]) = codes S ++ [code b] := by simp [codes]
theorem isB {w : World} {b : Nat} {S : List Bool} (h : Bd w b (codes S)) : Lib.IsBuilder 134 5 b b (Lib.byteCells (S.map byte)) w := by
  obtain ⟨p, v, hp, hb, ho⟩ := h
  have hown : w.ownsRow b 5 1 v (Lib.byteCells (S.map byte)).length (Lib.byteCells (S.map byte)) := by
    have h1 := ho.1
    rw [codes_cells] at h1
    have hl : (codes S).length = (Lib.byteCells (S.map byte)).length := by rw [← codes_cells]; simp
    rw [hl] at h1
    obtain ⟨h1, h2⟩ := h1
    refine ⟨h1, ?_⟩
    rcases h2 with h2 | ⟨g, cap, cur, hv, hg, r⟩
    · exact .inl h2
    · exact .inr ⟨g, cap, cur, hv, by omega, r⟩
  have hne : v.ownBlock ≠ some b := fun e => by have := ho.1.lt _ e; omega
  rcases hp with rfl | rfl
  · exact .inl ⟨Nat.le_refl _, v, hb, hown, hne⟩
  · exact .inr ⟨Nat.le_refl _, v, hb, hown, hne⟩
theorem string_any (w : World) (b : Nat) (S : List Bool) (h : Bd w b (codes S)) :
    Calls Tryd.prog 106 #[.pointer (some ⟨b, 0, none⟩)] w fun e w' => e = .returned (.string (text S)) ∧ Below b w w' :=
  Any.Builder_String_any Tryd.lays169 Tryd.Builder_Extra_169 b b (S.map byte) w (isB h) (Nat.le_of_lt h.lt)

theorem ret_str {S T : List Bool} (h : S = T) : Ending.returned (.string (text S)) = .returned (.string (text T)) := by rw [h]
end Go.Proofs.YtoanhnklemlfmaaDoor.Btx
