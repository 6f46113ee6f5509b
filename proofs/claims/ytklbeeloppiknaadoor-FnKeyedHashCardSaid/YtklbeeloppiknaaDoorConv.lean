/- '[]byte(s)' of a string: a row that reads as its bytes. -/
import Derived.Test.YtklbeeloppiknaaDoorRow
import Derived.Lib.ConvBytes
namespace Go.Proofs.YtklbeeloppiknaaDoor.Rw
open Go.RowKit Kit Go.Lib

/-- A string's bytes as numbers. -/
def bytesOf (s : ByteArray) : List Int := s.data.toList.map fun b => (b.toNat : Int)
theorem bytesOf_len (s : ByteArray) : (bytesOf s).length = s.size := by simp [bytesOf]
theorem conv_bytes {P : Program} (w : World) (src dst e : TypeId) (s : ByteArray) (hs : P.underlying src = some .string) (hd : P.underlying dst = some (.slice e)) (he : P.underlying e = some (.int .u8)) (hl : s.size ≤ maxLen) :
    ∃ v W, (convert src dst (.string s)).run P w = .ok v W ∧ Sees .u8 W v (bytesOf s) ∧ w.grownBy W none := by
  refine ⟨_, _, Go.Lib.run_convert_string_bytes w src dst e s hs hd he, ?_, ?_⟩
  · refine ⟨some ⟨w.heap.size, 0, none⟩, grownCap w s.size 0 e, by rw [bytesOf_len], by rw [bytesOf_len]; exact grownCap_ge _ _ _ _, grownCap_le_maxLen _ _ _ _ hl, (fun h => by cases h), ?_, .inr ⟨_, _, rfl, fun j hj => ?_⟩⟩
    · intro n hn
      simp only [bytesOf, List.mem_map] at hn
      obtain ⟨b, _, rfl⟩ := hn
      have := b.toNat_lt
      exact u8_mk (by omega)
    · rw [bytesOf_len] at hj
      rw [Nat.zero_add, bytesWorld_cell w e s j hj]
      have hj' : j < s.data.toList.length := by simpa using hj
      simp [bytesOf, List.getD_eq_getElem?_getD, hj]
  · exact ⟨rfl, rfl, rfl, by rw [bytesWorld_size]; omega, fun i hi _ => bytesWorld_at_old w e s i hi⟩
end Go.Proofs.YtklbeeloppiknaaDoor.Rw
