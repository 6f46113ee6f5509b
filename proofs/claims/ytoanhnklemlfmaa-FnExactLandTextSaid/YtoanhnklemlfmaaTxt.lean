/- Texts as lists of bytes; a strings.Builder of the call's own written by whole texts; parts joined with a separator. -/
import Derived.Test.YtoanhnklemlfmaaBld
import Derived.Test.YtoanhnklemlfmaaLaySt
import Derived.Lib.AppendStr
import Derived.Laws.Concat
import Derived.IntWalk
import Derived.WalkKit
namespace Go.Proofs.Ytoanhnklemlfmaa.Txt
open Go.RowKit Kit Rw Rg Bld

def cod (t : ByteArray) : List Int := t.data.toList.map fun b => (b.toNat : Int)
theorem cod_len (t : ByteArray) : (cod t).length = t.size := by rw [cod, List.length_map, Array.length_toList]; rfl
theorem cod_nil : cod ⟨#[]⟩ = [] := rfl
theorem app_data (s t : ByteArray) : (s ++ t).data = s.data ++ t.data := ByteArray.data_append
theorem cod_app (s t : ByteArray) : cod (s ++ t) = cod s ++ cod t := by unfold cod; rw [app_data, Array.toList_append, List.map_append]
theorem size_app (s t : ByteArray) : (s ++ t).size = s.size + t.size := ByteArray.size_append
theorem cod_wf (t : ByteArray) : ∀ n ∈ cod t, (Lit.int .u8 n).wf = true := fun n hn => by
  obtain ⟨b, _, rfl⟩ := List.mem_map.1 hn
  exact u8_mk ⟨by omega, by have := b.toNat_lt; omega⟩
theorem cod_cells (t : ByteArray) : (cod t).map (Value.int .u8) = Lib.byteCells t.data.toList := by
  unfold cod Lib.byteCells
  rw [List.map_map]; rfl
theorem cod_str (t : ByteArray) : (cod t).map (Value.int .u8) = Lib.strCells t := cod_cells t
/-- An owned row of bytes that has had a text appended. -/
theorem own_str {w : World} {base : Nat} {v : Value} {L : List Int} {s : ByteArray} (hL : ∀ n ∈ L, (Lit.int .u8 n).wf = true) (h : w.ownsRow base 5 1 v (L.length + s.size) (L.map (Value.int .u8) ++ Lib.strCells s)) : Own .u8 5 w base v (L ++ cod s) := by
  refine ⟨?_, fun n hn => (List.mem_append.1 hn).elim (hL n) (cod_wf s n)⟩
  rw [List.length_append, cod_len, List.map_append, cod_str]
  exact h
theorem isB {w : World} {b : Nat} {t : ByteArray} (h : Bd w b (cod t)) : Lib.IsBuilder 37 5 b b (Lib.byteCells t.data.toList) w := by
  obtain ⟨p, v, hp, hb, ho⟩ := h
  have hown : w.ownsRow b 5 1 v (Lib.byteCells t.data.toList).length (Lib.byteCells t.data.toList) := by
    have h1 := ho.1
    rw [cod_cells] at h1
    have hl : (cod t).length = (Lib.byteCells t.data.toList).length := by rw [← cod_cells]; simp
    rw [hl] at h1
    obtain ⟨h1, h2⟩ := h1
    refine ⟨h1, ?_⟩
    rcases h2 with h2 | ⟨g, cap, cur, hv, hg, r⟩
    · exact .inl h2
    · exact .inr ⟨g, cap, cur, hv, by omega, r⟩
  have hne : v.ownBlock ≠ some b := fun e => by have := ho.1.lt _ e; omega
  rcases hp with rfl | rfl
  · exact .inl ⟨Nat.le_refl _, v, hb, hown, hne⟩
  · exact .inr ⟨Nat.le_refl _, v, hb, hown, hne⟩
theorem string_any (w : World) (b : Nat) (t : ByteArray) (h : Bd w b (cod t)) :
    Calls Try.prog 14 #[.pointer (some ⟨b, 0, none⟩)] w fun e w' => e = .returned (.string t) ∧ Below b w w' :=
  Any.Builder_String_any Try.lays169 Try.Builder_Extra_169 b b t.data.toList w (isB h) (Nat.le_of_lt h.lt)

theorem ret_s {a b : ByteArray} (h : a = b) : Ending.returned (.string a) = .returned (.string b) := by rw [h]

/-- Texts as elements of a row. -/
def encS : Enc ByteArray where
  size := 1
  cells := fun t => [.string t]
  dflt := ⟨#[]⟩
  ok := fun _ => True
  pos := by decide
  len := fun _ => rfl
  one := fun x v hv => by simp at hv; subst hv; rfl
/-- The first parts, the separator between them. -/
def part (sep : ByteArray) (L : List ByteArray) : Nat → ByteArray
  | 0 => ⟨#[]⟩
  | j + 1 => (if j = 0 then part sep L j else part sep L j ++ sep) ++ L.getD j ⟨#[]⟩
def joinB (sep : ByteArray) (L : List ByteArray) : ByteArray := part sep L L.length
theorem part_size {sep : ByteArray} {L : List ByteArray} (hs : sep.size ≤ 100) (hL : ∀ x ∈ L, x.size ≤ 100) : ∀ j, (part sep L j).size ≤ 200 * j
  | 0 => by simp [part, ByteArray.size]
  | j + 1 => by
    have ih := part_size hs hL j
    have hx : (L.getD j ⟨#[]⟩).size ≤ 100 := by
      rw [List.getD_eq_getElem?_getD]
      rcases h : L[j]? with _ | x
      · simp [ByteArray.size]
      · exact hL x (List.mem_of_getElem? h)
    unfold part
    rw [size_app]
    split
    · omega
    · rw [size_app]; omega

end Go.Proofs.Ytoanhnklemlfmaa.Txt
