/- Plain facts on depots: no program. Contracts of the program's and of the model's FoodAt and TotalFood. -/
import Derived.Test.YtoanhnklemlfmaaDoorG2
import Derived.Test.YtoanhnklemlfmaaDoorRowM
import Derived.Test.YtoanhnklemlfmaaDoorG15
import Derived.IntWalk
namespace Go.Proofs.YtoanhnklemlfmaaDoor.Dep
def dP : Int × Int := (0, 0)
def foodAt : List (Int × Int) → Int → Int
  | [], _ => 0
  | d :: L, c => if d.1 = c then d.2 else foodAt L c
theorem foodAt_at : ∀ {L : List (Int × Int)} {c : Int} {j : Nat}, j < L.length → (∀ k, k < j → (L.getD k dP).1 ≠ c) → (L.getD j dP).1 = c → foodAt L c = (L.getD j dP).2
  | [], _, _, h, _, _ => by simp at h
  | d :: L, c, 0, _, _, h => by
    have h : d.1 = c := h
    show (if d.1 = c then d.2 else foodAt L c) = d.2
    rw [if_pos h]
  | d :: L, c, j + 1, hj, hn, h => by
    have h0 : d.1 ≠ c := hn 0 (by omega)
    show (if d.1 = c then d.2 else foodAt L c) = _
    rw [if_neg h0]
    exact foodAt_at (L := L) (by simpa using hj) (fun k hk => hn (k + 1) (by omega)) h
theorem foodAt_none : ∀ {L : List (Int × Int)} {c : Int}, (∀ k, k < L.length → (L.getD k dP).1 ≠ c) → foodAt L c = 0
  | [], _, _ => rfl
  | d :: L, c, hn => by
    have h0 : d.1 ≠ c := hn 0 (by simp)
    show (if d.1 = c then d.2 else foodAt L c) = 0
    rw [if_neg h0]
    exact foodAt_none (L := L) (fun k hk => hn (k + 1) (by simpa using hk))
/-- What a depot counts for. -/
def cl (x : Int) : Int := if x < 0 then 0 else if 10000 < x then 10000 else x
theorem cl_b (x : Int) : 0 ≤ cl x ∧ cl x ≤ 10000 := by unfold cl; split <;> (try split) <;> omega
def tot (L : List (Int × Int)) (j : Nat) : Int := ((L.take j).map (fun d => cl d.2)).sum
theorem tot_zero (L : List (Int × Int)) : tot L 0 = 0 := by simp [tot]
theorem tot_next {L : List (Int × Int)} {j : Nat} (hj : j < L.length) : tot L (j + 1) = tot L j + cl (L.getD j dP).2 := by
  unfold tot
  rw [List.take_add_one, List.map_append, List.sum_append]
  congr 1
  simp [hj]
theorem tot_b {L : List (Int × Int)} : ∀ j, j ≤ L.length → 0 ≤ tot L j ∧ tot L j ≤ j * 10000
  | 0, _ => by rw [tot_zero]; simp
  | j + 1, hj => by
    have h1 := tot_b (L := L) j (by omega)
    have h2 := cl_b (L.getD j dP).2
    rw [tot_next (by omega)]
    omega
end Go.Proofs.YtoanhnklemlfmaaDoor.Dep

namespace Go.Proofs.YtoanhnklemlfmaaDoor.DepI
open Go.RowKit Kit Rw Rg Dep Mn

def smax (a b : Int) : Int := if a < b then b else a
theorem smax_any (a b : Int) (w : World) :
    Calls Tryd.prog 120 #[.int .i64 a, .int .i64 b] w fun e w' => e = .returned (.int .i64 (smax a b)) ∧ w = w' := by
  by_cases h : a < b
  · have hm : smax a b = b := if_pos h
    rw [hm]
    go_enter Tryd.func120, Tryd.ntmps120
    go_wp2
    go_ret
    exact ⟨rfl, rfl⟩
  · have hm : smax a b = a := if_neg h
    rw [hm]
    go_enter Tryd.func120, Tryd.ntmps120
    go_wp2
    go_ret
    exact ⟨rfl, rfl⟩
def smin (a b : Int) : Int := if b < a then b else a
theorem smin_any (a b : Int) (w : World) :
    Calls Tryd.prog 121 #[.int .i64 a, .int .i64 b] w fun e w' => e = .returned (.int .i64 (smin a b)) ∧ w = w' := by
  by_cases h : b < a
  · have hm : smin a b = b := if_pos h
    rw [hm]
    go_enter Tryd.func121, Tryd.ntmps121
    go_wp2
    go_ret
    exact ⟨rfl, rfl⟩
  · have hm : smin a b = a := if_neg h
    rw [hm]
    by_cases h2 : a < b
    · go_enter Tryd.func121, Tryd.ntmps121
      go_wp2
      go_ret
      exact ⟨rfl, rfl⟩
    · have h3 : a = b := by omega
      subst h3
      go_enter Tryd.func121, Tryd.ntmps121
      go_wp2
      go_ret
      exact ⟨rfl, rfl⟩
theorem s_cl (x : Int) : smax 0 (smin 10000 x) = cl x := by unfold smax smin cl; split <;> split <;> (try split) <;> (try split) <;> omega
theorem i_cl (x : Int) : most 0 (least x 10000) = cl x := by unfold most least cl; split <;> split <;> (try split) <;> (try split) <;> omega

set_option maxRecDepth 20000 in
set_option maxHeartbeats 1000000 in
theorem sTotal_any (w : World) (v : Value) (L : List (Int × Int)) (hv : SeesG encP w v L) (hn : L.length ≤ 1000000000) :
    Calls Tryd.prog 88 #[v] w fun e w' => e = .returned (.int .i64 (tot L L.length)) ∧ w.grownBy w' none := by
  have HV := Lib.hid hv
  obtain ⟨a, cap, rfl, _⟩ := hv
  go_enter Tryd.func88, Tryd.ntmps88
  go_wp2
  go_loopw [3, 4] (fun s i wr => ∃ j : Nat, j ≤ L.length ∧ i = .int .i64 j ∧ s = .int .i64 (tot L j) ∧ Hid (w.grownBy wr none)) (fun _ i _ => L.length - (intOf i).toNat)
  case atStart => exact ⟨0, Nat.zero_le _, rfl, by rw [tot_zero], World.grownBy.refl _ _⟩
  case round =>
    obtain ⟨j, hj, rfl, rfl, HG⟩ := hrel
    have hb := tot_b (L := L) j hj
    obtain ⟨y, hy⟩ : ∃ y, y = tot L j := ⟨_, rfl⟩
    rw [← hy] at hb ⊢
    have HY := Lib.hid hy
    clear hy
    by_cases hlt : j < L.length
    · obtain ⟨b, o, rfl, _, _⟩ := HV.out.at_row hlt
      obtain ⟨x, hx⟩ : ∃ x, L.getD j (0, 0) = x := ⟨_, rfl⟩
      obtain ⟨d0, d1⟩ := atP_in HV.out HG.out hlt hx
      have hn1 := tot_next hlt
      rw [show dP = (0, 0) from rfl, hx] at hn1
      obtain ⟨xc, xf⟩ := x
      dsimp only at d0 d1 hn1
      have hc := cl_b xf
      obtain ⟨q, hq⟩ : ∃ q, q = smin 10000 xf := ⟨_, rfl⟩
      have hm1 := fun w => smin_any 10000 xf w
      rw [← hq] at hm1
      obtain ⟨z, hz⟩ : ∃ z, z = cl xf := ⟨_, rfl⟩
      have hm2 := fun w => smax_any 0 q w
      rw [hq, s_cl, ← hz, ← hq] at hm2
      rw [← hz] at hc hn1
      have HN := Lib.hid hn1
      have HM1 := Lib.hid hm1
      have HM2 := Lib.hid hm2
      clear hx hn1 hm1 hm2 hq hz
      go_wp2_with fail
      refine (HM1.out _).mono ?_
      rintro e w2 ⟨rfl, rfl⟩
      go_wp2_with fail
      refine (HM2.out _).mono ?_
      rintro e w2 ⟨rfl, rfl⟩
      go_wp2
      go_roundw
      case rel => exact ⟨j + 1, by omega, by go_num, by rw [HN.out, ← HY.out], HG⟩
      case measure => simp [intOf]; omega
    · have : j = L.length := by omega
      subst this
      go_wp2
      go_ret
      exact ⟨ret_i64 HY.out, HG.out⟩

set_option maxHeartbeats 1000000 in
theorem counted_any (f : Int) (w : World) :
    Calls Tryd.prog 130 #[.int .i64 f] w fun e w' => e = .returned (.int .i64 (cl f)) ∧ w.grownBy w' none := by
  obtain ⟨q, hq⟩ : ∃ q, q = least f 10000 := ⟨_, rfl⟩
  have hm1 := fun w => min_any f 10000 w
  rw [← hq] at hm1
  obtain ⟨z, hz⟩ : ∃ z, z = cl f := ⟨_, rfl⟩
  have hm2 := fun w => max_any 0 q w
  rw [hq, i_cl, ← hz, ← hq] at hm2
  rw [← hz]
  have HM1 := Lib.hid hm1
  have HM2 := Lib.hid hm2
  clear hm1 hm2 hq hz
  go_enter Tryd.func130, Tryd.ntmps130
  go_wp2_with fail
  refine (HM1.out _).mono ?_
  rintro e w2 ⟨rfl, hg⟩
  have HG2 := Lib.hid hg
  clear hg
  go_wp2_with fail
  refine (HM2.out _).mono ?_
  rintro e w3 ⟨rfl, hg⟩
  have HG3 := Lib.hid (grownN_trans HG2.out hg)
  clear hg
  go_wp2
  go_ret
  exact ⟨rfl, HG3.out⟩

set_option maxRecDepth 20000 in
set_option maxHeartbeats 1000000 in
theorem iTotal_any (w : World) (v : Value) (L : List (Int × Int)) (hv : SeesG encP w v L) (hn : L.length ≤ 1000000000) :
    Calls Tryd.prog 122 #[v] w fun e w' => e = .returned (.int .i64 (tot L L.length)) ∧ w.grownBy w' none := by
  have HV := Lib.hid hv
  obtain ⟨a, cap, rfl, _⟩ := hv
  go_enter Tryd.func122, Tryd.ntmps122
  go_wp2
  go_loopw [3, 8] (fun s i wr => ∃ j : Nat, j ≤ L.length ∧ i = .int .i64 j ∧ s = .int .i64 (tot L j) ∧ Hid (w.grownBy wr none)) (fun _ i _ => L.length - (intOf i).toNat)
  case atStart => exact ⟨0, Nat.zero_le _, rfl, by rw [tot_zero], World.grownBy.refl _ _⟩
  case round =>
    rename_i wr
    obtain ⟨j, hj, rfl, rfl, HG⟩ := hrel
    have hb := tot_b (L := L) j hj
    obtain ⟨y, hy⟩ : ∃ y, y = tot L j := ⟨_, rfl⟩
    rw [← hy] at hb ⊢
    have HY := Lib.hid hy
    clear hy
    by_cases hlt : j < L.length
    · obtain ⟨b, o, rfl, _, _⟩ := HV.out.at_row hlt
      obtain ⟨x, hx⟩ : ∃ x, L.getD j (0, 0) = x := ⟨_, rfl⟩
      obtain ⟨d0, d1⟩ := atP_in HV.out HG.out hlt hx
      have hn1 := tot_next hlt
      rw [show dP = (0, 0) from rfl, hx] at hn1
      obtain ⟨xc, xf⟩ := x
      dsimp only at d0 d1 hn1
      have hc := cl_b xf
      obtain ⟨z, hz⟩ : ∃ z, z = cl xf := ⟨_, rfl⟩
      have hm2 := fun w => counted_any xf w
      rw [← hz] at hc hn1 hm2
      have HN := Lib.hid hn1
      have HM2 := Lib.hid hm2
      have HG1 := Lib.hid (grownN_trans HG.out (World.grownBy_alloc wr (.cells #[.int .i64 xc, .int .i64 xf] 102 (0, 0)) none))
      clear hx hn1 hm2 hz
      go_wp2_with fail
      refine (HM2.out _).mono ?_
      rintro e w3 ⟨rfl, hg⟩
      have HG3 := Lib.hid (grownN_trans HG1.out hg)
      clear hg
      go_wp2
      go_roundw
      case rel => exact ⟨j + 1, by omega, by go_num, by rw [HN.out, ← HY.out], HG3⟩
      case measure => simp [intOf]; omega
    · have : j = L.length := by omega
      subst this
      go_wp2
      go_ret
      exact ⟨ret_i64 HY.out, HG.out⟩
end Go.Proofs.YtoanhnklemlfmaaDoor.DepI
