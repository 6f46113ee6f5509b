/- The words that the program makes of a land, of where one was and of what one sees: plain facts. -/
import Derived.Test.YtbibkjponadipaaDoorPcg
namespace Go.Proofs.YtbibkjponadipaaDoor.Pc
open Go.RowKit Kit Rw Ld Bfs Wf

def setW (f : Nat → Bool) : Nat → Nat
  | 0 => 0
  | j + 1 => if f j = true then setW f j ||| 2 ^ j else setW f j
theorem setW_yes {f : Nat → Bool} {j : Nat} (h : f j = true) : setW f (j + 1) = setW f j ||| 2 ^ j := if_pos h
theorem setW_no {f : Nat → Bool} {j : Nat} (h : ¬ f j = true) : setW f (j + 1) = setW f j := if_neg h
theorem setW_bit (f : Nat → Bool) : ∀ j n, (setW f j).testBit n = true ↔ n < j ∧ f n = true
  | 0, n => by unfold setW; simp
  | j + 1, n => by
    have ih := setW_bit f j n
    by_cases h : f j = true
    · rw [setW_yes h, with_bit, Bool.or_eq_true, ih, decide_eq_true_eq]
      constructor
      · rintro (⟨h1, h2⟩ | h1)
        · exact ⟨by omega, h2⟩
        · subst h1; exact ⟨by omega, h⟩
      · rintro ⟨h1, h2⟩
        by_cases hnj : j = n
        · exact .inr hnj
        · exact .inl ⟨by omega, h2⟩
    · rw [setW_no h, ih]
      constructor
      · rintro ⟨h1, h2⟩; exact ⟨by omega, h2⟩
      · rintro ⟨h1, h2⟩
        by_cases hnj : j = n
        · subst hnj; exact absurd h2 h
        · exact ⟨by omega, h2⟩
theorem setW_lt (f : Nat → Bool) : ∀ {j}, j ≤ 64 → setW f j < 2 ^ 64
  | 0, _ => by unfold setW; decide
  | j + 1, h => by
    have ih := setW_lt f (j := j) (by omega)
    by_cases hf : f j = true
    · rw [setW_yes hf]; exact with_lt ih (by omega)
    · rw [setW_no hf]; exact ih
def opF (X : List Int) (n : Nat) : Bool := decide (X.getD n 0 ≠ 2)
def lmF (W : Int) (n : Nat) : Bool := decide ((n : Int) % W = 0)
def rmF (W : Int) (n : Nat) : Bool := decide ((n : Int) % W = W - 1)
def opW (X : List Int) : Nat := setW (opF X) X.length
def lmW (W : Int) (X : List Int) : Nat := setW (lmF W) X.length
def rmW (W : Int) (X : List Int) : Nat := setW (rmF W) X.length
theorem len64 {W H : Int} {X : List Int} (hL : isLand W H X = true) : X.length ≤ 64 := by
  obtain ⟨hW, hH, hLen, _⟩ := isLand_of hL
  have := area hW hH; omega
theorem gnd {W H : Int} {X : List Int} (hL : isLand W H X = true) : Gnd W X (opW X) (lmW W X) (rmW W X) := by
  have h := len64 hL
  refine ⟨setW_lt _ h, setW_lt _ h, setW_lt _ h, fun i _ => ?_, fun i _ => ?_, fun i _ => ?_⟩
  · show (setW _ _).testBit i = true ↔ _
    rw [setW_bit]; unfold opF; rw [decide_eq_true_eq]
  · show (setW _ _).testBit i = true ↔ _
    rw [setW_bit]; unfold lmF; rw [decide_eq_true_eq]
  · show (setW _ _).testBit i = true ↔ _
    rw [setW_bit]; unfold rmF; rw [decide_eq_true_eq]
/-- The word of the open ones of the first so many cells. -/
def fromW (W H : Int) (X F : List Int) : Nat → Nat
  | 0 => 0
  | j + 1 => if isOpen W H X (F.getD j 0) = true then fromW W H X F j ||| 2 ^ (F.getD j 0).toNat else fromW W H X F j
theorem open_lt {W H a : Int} {X : List Int} (h : isOpen W H X a = true) : 0 ≤ a ∧ a < 64 ∧ a < X.length := by
  obtain ⟨_, _, n, _, _, e, hn, _, h64, _⟩ := open_nat h
  omega
theorem fromW_lt (W H : Int) (X F : List Int) : ∀ j, fromW W H X F j < 2 ^ 64
  | 0 => by unfold fromW; decide
  | j + 1 => by
    have ih := fromW_lt W H X F j
    unfold fromW
    split
    · rename_i h
      have := open_lt h
      exact with_lt ih (by omega)
    · exact ih
theorem fromW_bit (W H : Int) (X F : List Int) : ∀ j n, (fromW W H X F j).testBit n = true ↔ ∃ i, i < j ∧ F.getD i 0 = n ∧ isOpen W H X n = true
  | 0, n => by unfold fromW; simp
  | j + 1, n => by
    have ih := fromW_bit W H X F j n
    unfold fromW
    split
    · rename_i h
      have h9 := open_lt h
      rw [with_bit, Bool.or_eq_true, ih, decide_eq_true_eq]
      constructor
      · rintro (⟨i, h1, h2, h3⟩ | h1)
        · exact ⟨i, by omega, h2, h3⟩
        · have e : F.getD j 0 = (n : Int) := by omega
          exact ⟨j, by omega, e, by rw [← e]; exact h⟩
      · rintro ⟨i, h1, h2, h3⟩
        by_cases hij : i = j
        · subst hij; exact .inr (by omega)
        · exact .inl ⟨i, by omega, h2, h3⟩
    · rename_i h
      rw [ih]
      constructor
      · rintro ⟨i, h1, h2, h3⟩; exact ⟨i, by omega, h2, h3⟩
      · rintro ⟨i, h1, h2, h3⟩
        by_cases hij : i = j
        · subst hij; rw [h2] at h; exact absurd h3 h
        · exact ⟨i, by omega, h2, h3⟩
theorem from_zero {W H : Int} {X F : List Int} : ∀ i, i < 64 → ((fromW W H X F F.length).testBit i = true ↔ Within W H X F 0 i) := fun n _ => by
  rw [fromW_bit, within_zero]
  constructor
  · rintro ⟨i, h1, h2, h3⟩
    refine ⟨?_, h3⟩
    rw [← h2, List.getD_eq_getElem?_getD, List.getElem?_eq_getElem h1]
    exact List.getElem_mem h1
  · rintro ⟨h1, h2⟩
    obtain ⟨i, hi, he⟩ := List.getElem_of_mem h1
    exact ⟨i, hi, by rw [List.getD_eq_getElem?_getD, List.getElem?_eq_getElem hi]; exact he, h2⟩
/-- What a walk of so many steps leads to, and what one sees from. -/
def walkW (W H : Int) (X F : List Int) (s : Int) : Nat := if s < 0 then 0 else stepN W.toNat (opW X) (lmW W X) (rmW W X) s.toNat (fromW W H X F F.length)
def sightF (W H : Int) (X : List Int) (m f : Int) (n : Nat) : Bool := decide (apart W H X n m = f)
def sightW (W H : Int) (X : List Int) (m f : Int) : Nat := if isCell W H X m = true then setW (sightF W H X m f) X.length &&& opW X else 0
noncomputable def withinB (W H : Int) (X F : List Int) (s : Int) (k : Nat) : Bool := F.any (fun f => decide (0 ≤ daysOf W H X f k ∧ daysOf W H X f k ≤ s))
noncomputable def canBeTo (W H : Int) (X F : List Int) (s : Int) (k : Nat) : List Int := ((List.range k).filter (withinB W H X F s)).map (fun n : Nat => (n : Int))
noncomputable def canBe (W H : Int) (X F : List Int) (s : Int) : List Int := if isLand W H X = true ∧ 0 ≤ s then canBeTo W H X F s X.length else []
def seesB (W H : Int) (X : List Int) (m f : Int) (k : Nat) : Bool := isOpen W H X k && decide (apart W H X m k = f)
def seenTo (W H : Int) (X : List Int) (m f : Int) (k : Nat) : List Int := ((List.range k).filter (seesB W H X m f)).map (fun n : Nat => (n : Int))
def seen (W H : Int) (X : List Int) (m f : Int) : List Int := if isCell W H X m = true then seenTo W H X m f X.length else []
theorem filt_next (f : Nat → Bool) (k : Nat) : ((List.range (k + 1)).filter f).map (fun n : Nat => (n : Int)) = ((List.range k).filter f).map (fun n : Nat => (n : Int)) ++ (if f k = true then [(k : Int)] else []) := by
  rw [List.range_succ, List.filter_append, List.map_append]
  congr 1
  by_cases h : f k = true
  · rw [if_pos h]; simp [h]
  · rw [if_neg h]; simp [h]
theorem filt_len (f : Nat → Bool) (k : Nat) : (((List.range k).filter f).map (fun n : Nat => (n : Int))).length ≤ k := by
  rw [List.length_map]; exact Nat.le_trans (List.length_filter_le _ _) (by simp)
theorem filt_64 {f : Nat → Bool} {k : Nat} (hk : k ≤ 64) : (List.range 64).filter (fun n => decide (n < k) && f n) = (List.range k).filter f := by
  have h := List.range_eq_range' (n := 64)
  have h2 := @List.range'_append 0 k (64 - k) 1
  simp only [Nat.zero_add, Nat.one_mul] at h2
  rw [h, show (64 : Nat) = k + (64 - k) by omega, ← h2, List.filter_append, ← List.range_eq_range']
  have e1 : (List.range' k (64 - k)).filter (fun n => decide (n < k) && f n) = [] := by
    rw [List.filter_eq_nil_iff]; intro a ha; rw [List.mem_range'_1] at ha; simp; omega
  have e2 : (List.range k).filter (fun n => decide (n < k) && f n) = (List.range k).filter f := by
    apply List.filter_congr; intro a ha; rw [List.mem_range] at ha; simp [ha]
  rw [e1, e2, List.append_nil]
theorem els_filt {p : Nat} {f : Nat → Bool} {k : Nat} (hk : k ≤ 64) (h : ∀ i, i < 64 → (p.testBit i = true ↔ i < k ∧ f i = true)) : els p = ((List.range k).filter f).map (fun n : Nat => (n : Int)) := by
  rw [els_by (f := fun n => decide (n < k) && f n) (fun i hi => ?_), filt_64 hk]
  rw [Bool.eq_iff_iff, h i hi]; simp
theorem canBe_els {W H : Int} {X F : List Int} {s : Int} (hL : isLand W H X = true) : els (opW X &&& walkW W H X F s) = canBe W H X F s := by
  unfold walkW canBe
  by_cases hs : s < 0
  · rw [if_pos hs, if_neg (fun h => by omega), Nat.and_zero, els_zero]
  · rw [if_neg hs, if_pos ⟨hL, by omega⟩]
    have hW := (isLand_of hL).1
    have hH := (isLand_of hL).2.1
    refine els_filt (len64 hL) fun i hi => ?_
    have hg := gnd hL
    have eW : ((W.toNat : Nat) : Int) = W := by omega
    have eH : ((H.toNat : Nat) : Int) = H := by omega
    have hb := (stepN_bit (W := W.toNat) (H := H.toNat) (op := opW X) (lm := lmW W X) (rm := rmW W X) (p := fromW W H X F F.length) (X := X) (F := F) (by rw [eW, eH]; exact hL) (by rw [eW]; exact hg) (fromW_lt _ _ _ _ _) (by rw [eW, eH]; exact from_zero) s.toNat).2 i hi
    rw [eW, eH] at hb
    rw [Nat.testBit_and, Bool.and_eq_true, hb, hg.opb i hi]
    unfold withinB
    rw [List.any_eq_true]
    constructor
    · rintro ⟨⟨h1, h2⟩, f, hf, h3, h4⟩
      exact ⟨h1, f, hf, decide_eq_true ⟨h3, by omega⟩⟩
    · rintro ⟨h1, f, hf, hd⟩
      have hd := of_decide_eq_true hd
      obtain ⟨_, o2, _⟩ := days_at hd.1
      exact ⟨⟨h1, by have := (isOpen_of o2).2; simpa using this⟩, f, hf, hd.1, by omega⟩
theorem seen_els {W H : Int} {X : List Int} {m f : Int} (hL : isLand W H X = true) : els (opW X &&& sightW W H X m f) = seen W H X m f := by
  unfold sightW seen
  by_cases hc : isCell W H X m = true
  · rw [if_pos hc, if_pos hc]
    refine els_filt (len64 hL) fun i hi => ?_
    have hg := gnd hL
    rw [Nat.testBit_and, Nat.testBit_and, Bool.and_eq_true, Bool.and_eq_true, setW_bit, hg.opb i hi]
    unfold sightF seesB
    rw [Bool.and_eq_true, decide_eq_true_eq, decide_eq_true_eq, apart_comm W H X m i]
    constructor
    · rintro ⟨⟨h1, h2⟩, ⟨_, h3⟩, _⟩
      exact ⟨h1, isOpen_mk (isCell_mk hL (by omega) (by omega)) (by simpa using h2), h3⟩
    · rintro ⟨h1, h2, h3⟩
      have h4 := (isOpen_of h2).2
      have h5 : X.getD i 0 ≠ 2 := by simpa using h4
      exact ⟨⟨h1, h5⟩, ⟨h1, h3⟩, h1, h5⟩
  · rw [if_neg hc, if_neg hc, Nat.and_zero, els_zero]
theorem canBe_len (W H : Int) (X F : List Int) (s : Int) : (canBe W H X F s).length ≤ X.length := by
  unfold canBe; split
  · exact filt_len _ _
  · simp
theorem seen_len (W H : Int) (X : List Int) (m f : Int) : (seen W H X m f).length ≤ X.length := by
  unfold seen; split
  · exact filt_len _ _
  · simp
theorem canBe_no {W H : Int} {X F : List Int} {s : Int} (h : ¬ isLand W H X = true) : canBe W H X F s = [] := by unfold canBe; rw [if_neg (fun e => h e.1)]
theorem seen_no {W H : Int} {X : List Int} {m f : Int} (h : ¬ isLand W H X = true) : seen W H X m f = [] := by
  unfold seen; rw [if_neg (fun e => h (isCell_of e).1)]
theorem walkW_lt {W H : Int} {X F : List Int} {s : Int} (hL : isLand W H X = true) : walkW W H X F s < 2 ^ 64 := by
  unfold walkW; split
  · decide
  · cases h : s.toNat with
    | zero => exact fromW_lt _ _ _ _ _
    | succ k => exact stepW_lt (gnd hL).opl
theorem sightW_lt {W H : Int} {X : List Int} {m f : Int} (hL : isLand W H X = true) : sightW W H X m f < 2 ^ 64 := by
  unfold sightW; split
  · exact Nat.lt_of_le_of_lt Nat.and_le_right (gnd hL).opl
  · decide
end Go.Proofs.YtbibkjponadipaaDoor.Pc
