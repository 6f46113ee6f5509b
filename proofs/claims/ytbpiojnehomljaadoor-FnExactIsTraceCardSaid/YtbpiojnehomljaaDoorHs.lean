/- The hash of a list of numbers: plain facts, and the contracts of Hash and KeyedHash of the program and of the model. -/
import Derived.Test.YtbpiojnehomljaaDoorMo
import Derived.Test.YtbpiojnehomljaaDoorMBase
namespace Go.Proofs.YtbpiojnehomljaaDoor.Hs
open Go.RowKit Kit Rw Md

/-- One number more. -/
def hs1 (d v : Int) : Int := (d * 1000003 + v % 2147483647 + 13) % 2147483647
/-- A hash goes on over a list. -/
def hs (d : Int) (L : List Int) : Int := L.foldl hs1 d
/-- The keyed hash. -/
def kh (k : Int) (L : List Int) : Int := hs 11 (k :: (L ++ [k]))
def InM (d : Int) : Prop := 0 ≤ d ∧ d ≤ 2147483646
theorem hs1_in (d v : Int) : InM (hs1 d v) := by unfold InM hs1; omega
theorem hs_in {d : Int} (L : List Int) (h : InM d) : InM (hs d L) := by
  induction L generalizing d with
  | nil => exact h
  | cons v L ih => exact ih (hs1_in d v)
theorem kh_in (k : Int) (L : List Int) : InM (kh k L) := hs_in _ (by unfold InM; omega)
theorem hs_append (d : Int) (A B : List Int) : hs d (A ++ B) = hs (hs d A) B := by simp [hs, List.foldl_append]
theorem hs_nil (d : Int) : hs d [] = d := rfl
theorem hs_one (d v : Int) : hs d [v] = hs1 d v := rfl
theorem hs_take {L : List Int} {j : Nat} (d : Int) (hj : j < L.length) : hs d (L.take (j + 1)) = hs1 (hs d (L.take j)) (L.getD j 0) := by
  have e : L.take (j + 1) = L.take j ++ [L.getD j 0] := by
    rw [List.take_add_one]
    simp [hj]
  rw [e, hs_append, hs_one]
theorem kh_parts (k : Int) (L : List Int) : kh k L = hs (hs (hs 11 [k]) L) [k] := by
  rw [kh, ← List.singleton_append, hs_append, hs_append]

set_option maxHeartbeats 400000 in
theorem hashOn_any (w : World) (d : Int) (v : Value) (L : List Int) (hv : Sees .i64 w v L) (hd : InM d) :
    Calls Tryd.prog 70 #[.int .i64 d, v] w fun e w' => e = .returned (.int .i64 (hs d L)) ∧ w = w' := by
  have hl := hv.len
  obtain ⟨a, cap, rfl, _, _, _, _, hcell⟩ := hv
  have HC := Lib.hid hcell
  have HD := Lib.hid hd
  clear hcell hd
  go_enter Tryd.func70, Tryd.ntmps70
  go_wp2
  go_loop [0, 6, 9] (fun h _ i => ∃ j : Nat, j ≤ L.length ∧ i = .int .i64 j ∧ h = .int .i64 (hs d (L.take j)))
    (fun _ _ i => L.length - (intOf i).toNat)
  case atStart => exact ⟨0, Nat.zero_le _, rfl, rfl⟩
  case round =>
    obtain ⟨j, hj, rfl, rfl⟩ := hrel
    by_cases hlt : j < L.length
    · rcases HC.out with hX | ⟨b, o, rfl, hc⟩
      · simp [hX] at hlt
      have hcj := hc j hlt
      have HT := Lib.hid (hs_take d hlt)
      have hin : InM (hs d (L.take j)) := hs_in _ HD.out
      obtain ⟨x, hx⟩ : ∃ x, x = L.getD j 0 := ⟨_, rfl⟩
      obtain ⟨y, hy⟩ : ∃ y, y = hs d (L.take j) := ⟨_, rfl⟩
      rw [← hx] at hcj
      rw [← hy] at hin ⊢
      have HX := Lib.hid hx
      have HY := Lib.hid hy
      clear hx hy hc
      obtain ⟨hy0, hy1⟩ := hin
      have hm0 : 0 ≤ x % 2147483647 := Int.emod_nonneg _ (by omega)
      have hm1 : x % 2147483647 ≤ 2147483646 := by omega
      go_wp2_with fail
      refine (mod_any x 2147483647 _ (by omega) (by omega)).mono ?_
      rintro e w' ⟨rfl, rfl⟩
      go_wp2
      go_round
      case rel => exact ⟨j + 1, by omega, by go_num, by rw [HT.out, ← HX.out, ← HY.out]; rfl⟩
      case measure => simp [intOf]; omega
    · have : j = L.length := by omega
      subst this
      rw [List.take_length]
      go_wp2
      go_ret
      exact ⟨rfl, rfl⟩

theorem hash_any (w : World) (v : Value) (L : List Int) (hv : Sees .i64 w v L) :
    Calls Tryd.prog 68 #[v] w fun e w' => e = .returned (.int .i64 (hs 11 L)) ∧ w = w' := by
  have HV := Lib.hid hv
  clear hv
  go_enter Tryd.func68, Tryd.ntmps68
  go_wp2_with fail
  refine (hashOn_any w 11 v L HV.out (by unfold InM; omega)).mono ?_
  rintro e w' ⟨rfl, rfl⟩
  go_wp2
  go_ret
  exact ⟨rfl, rfl⟩

set_option maxHeartbeats 400000 in
theorem sHash_any (w : World) (v : Value) (L : List Int) (hv : Sees .i64 w v L) :
    Calls Tryd.prog 59 #[v] w fun e w' => e = .returned (.int .i64 (hs 11 L)) ∧ w = w' := by
  have hl := hv.len
  obtain ⟨a, cap, rfl, _, _, _, _, hcell⟩ := hv
  have HC := Lib.hid hcell
  clear hcell
  go_enter Tryd.func59, Tryd.ntmps59
  go_wp2
  go_loop [3, 4] (fun h i => ∃ j : Nat, j ≤ L.length ∧ i = .int .i64 j ∧ h = .int .i64 (hs 11 (L.take j)))
    (fun _ i => L.length - (intOf i).toNat)
  case atStart => exact ⟨0, Nat.zero_le _, rfl, rfl⟩
  case round =>
    obtain ⟨j, hj, rfl, rfl⟩ := hrel
    by_cases hlt : j < L.length
    · rcases HC.out with hX | ⟨b, o, rfl, hc⟩
      · simp [hX] at hlt
      have hcj := hc j hlt
      have HT := Lib.hid (hs_take 11 hlt)
      have hin : InM (hs 11 (L.take j)) := hs_in _ (by unfold InM; omega)
      obtain ⟨x, hx⟩ : ∃ x, x = L.getD j 0 := ⟨_, rfl⟩
      obtain ⟨y, hy⟩ : ∃ y, y = hs 11 (L.take j) := ⟨_, rfl⟩
      rw [← hx] at hcj
      rw [← hy] at hin ⊢
      have HX := Lib.hid hx
      have HY := Lib.hid hy
      clear hx hy hc
      obtain ⟨hy0, hy1⟩ := hin
      have hm0 : 0 ≤ x % 2147483647 := Int.emod_nonneg _ (by omega)
      have hm1 : x % 2147483647 ≤ 2147483646 := by omega
      go_wp2_with fail
      refine (sMod_any x 2147483647 _ (by omega) (by omega)).mono ?_
      rintro e w' ⟨rfl, rfl⟩
      go_wp2
      go_round
      case rel => exact ⟨j + 1, by omega, by go_num, by rw [HT.out, ← HX.out, ← HY.out]; rfl⟩
      case measure => simp [intOf]; omega
    · have : j = L.length := by omega
      subst this
      rw [List.take_length]
      go_wp2
      go_ret
      exact ⟨rfl, rfl⟩

theorem hash_grown (w : World) (v : Value) (L : List Int) (hv : Sees .i64 w v L) :
    Calls Tryd.prog 68 #[v] w fun e w' => e = .returned (.int .i64 (hs 11 L)) ∧ w.grownBy w' none :=
  (hash_any w v L hv).mono fun _ _ ⟨he, hw⟩ => ⟨he, hw ▸ World.grownBy.refl _ _⟩
theorem sHash_grown (w : World) (v : Value) (L : List Int) (hv : Sees .i64 w v L) :
    Calls Tryd.prog 59 #[v] w fun e w' => e = .returned (.int .i64 (hs 11 L)) ∧ w.grownBy w' none :=
  (sHash_any w v L hv).mono fun _ _ ⟨he, hw⟩ => ⟨he, hw ▸ World.grownBy.refl _ _⟩
end Go.Proofs.YtbpiojnehomljaaDoor.Hs
