/- Contracts of the program's Days and Farthest. -/
import Derived.Test.YtbpiojnehomljaaSrN
import Derived.Test.YtbpiojnehomljaaG19
import Derived.Test.YtbpiojnehomljaaG14
namespace Go.Proofs.Ytbpiojnehomljaa.WayI
open Go.RowKit Kit Rw Ld Gr GrI Bfs Wf Sr LandI

/-- Where a function of chapter 5 stands: the land in its box, nothing old written. -/
structure WB (w wr : World) (W H : Int) (v : Value) (X : List Int) : Prop where
  box : Box wr w.heap.size #[.int .i64 W, .int .i64 H, v] 29
  row : Sees .i64 wr v X
  grown : w.grownBy wr none
  lt : v.ownBlock = none ∨ ∃ b, v.ownBlock = some b ∧ b < w.heap.size ∨ X = []
/-- What begin leaves, up to more days than there can be. -/
theorem cut64 {p h f : Nat} {X : List Int} (hL : isLand p h X = true) (hf : f < X.length) (h64 : X.length ≤ 64) : cut 64 (distL p X f) = distL p X f :=
  cut_all (fun n n0 n1 => by
    have hd := dist_is hL (a := (f : Int)) (by omega) (by omega)
    rw [hd.len] at n1
    have := dist_lt hL (a := (f : Int)) (by omega) (by omega) n0 n1
    omega)
theorem dist_bnd {p h f : Nat} {X : List Int} (hL : isLand p h X = true) (hf : f < X.length) (h64 : X.length ≤ 64) : ∀ m : Int, 0 ≤ m → m < X.length → -1 ≤ at' (distL p X f) m ∧ at' (distL p X f) m ≤ 64 := fun m m0 m1 => by
  have hd := dist_is hL (a := (f : Int)) (by omega) (by omega)
  have := dist_lt hL (a := (f : Int)) (by omega) (by omega) m0 m1
  have := hd.low m m0 m1
  omega
theorem sq_100 {p h n : Nat} {X : List Int} (hL : isLand p h X = true) (hn : n < X.length) : (1 ≤ p ∧ p ≤ 8) ∧ sq p n < 100 := by
  obtain ⟨hW, hH, hLen, _⟩ := isLand_of hL
  have hxl : X.length = p * h := by exact_mod_cast hLen
  have := sq_lt (p := p) (h := h) (n := n) (by omega) (by omega) (by omega)
  exact ⟨by omega, by omega⟩

theorem search_on {w wx wy : World} {bb : Nat} (hg : w.grownBy wx none) (hle : w.heap.size ≤ bb) (hb : Below bb wx wy) : w.grownBy wy none :=
  below_grown ((grown_below hg _ (Nat.le_refl _)).trans (Below.mono hb hle))

set_option maxRecDepth 100000 in
set_option maxHeartbeats 1000000 in
theorem days_any (w : World) (W H a b : Int) (v : Value) (X : List Int) (hv : Sees .i64 w v X) :
    Calls Try.prog 92 #[.agg #[.int .i64 W, .int .i64 H, v], .int .i64 a, .int .i64 b] w fun e w' => e = .returned (.int .i64 (daysOf W H X a b)) ∧ w.grownBy w' none := by
  obtain ⟨hb0, hv0, hg0⟩ := wb_new (W := W) (H := H) hv
  obtain ⟨c0, c1, c2⟩ := hb0.three
  have HB0 := Lib.hid hb0
  have HV0 := Lib.hid hv0
  have HG0 := Lib.hid hg0
  obtain ⟨va, vn, vc, hvv, HVN⟩ := hv.shape
  subst hvv
  have hs := isOpen_any _ W H a _ X hv0
  clear hv hb0 hv0 hg0
  by_cases hA : isOpen W H X a = true
  · rw [hA] at hs
    have HS := Lib.hid hs
    have HA := Lib.hid hA
    clear hs hA
    go_enter Try.func92, Try.ntmps92
    go_wp2_with fail
    refine HS.out.mono ?_
    rintro e w2 ⟨rfl, hg⟩
    have HB2 := Lib.hid (HB0.out.grown hg)
    have HV2 := Lib.hid (HV0.out.grown hg)
    have HG2 := Lib.hid (grownN_trans HG0.out hg)
    clear hg c0 c1 c2
    obtain ⟨c0, c1, c2⟩ := HB2.out.three
    have hs := isOpen_any w2 W H b _ X HV2.out
    by_cases hB : isOpen W H X b = true
    · rw [hB] at hs
      have HS := Lib.hid hs
      have HBO := Lib.hid hB
      clear hs hB
      go_wp2_with fail
      refine HS.out.mono ?_
      rintro e w3 ⟨rfl, hg⟩
      have HB3 := Lib.hid (HB2.out.grown hg)
      have HV3 := Lib.hid (HV2.out.grown hg)
      have HG3 := Lib.hid (grownN_trans HG2.out hg)
      have HE : Hid (daysOf W H X a b = at' (distL W X a) b) := by show _ = _; unfold daysOf; rw [if_pos ⟨HA.out, HBO.out⟩]
      obtain ⟨p, h, n, rfl, rfl, rfl, hn, hL, h64, _⟩ := open_nat HA.out
      obtain ⟨p', h', m, hp', hh', rfl, hm, _, _, _⟩ := open_nat HBO.out
      have HL : Hid (isLand p h X = true ∧ n < X.length ∧ m < X.length ∧ X.length ≤ 64) := ⟨hL, hn, hm, h64⟩
      clear hg c0 c1 c2 hL hn hm h64 hp' hh'
      obtain ⟨c0, c1, c2⟩ := HB3.out.three
      go_wp2_with fail
      refine (searchIn_any w3 p h _ X HV3.out HL.out.1).mono ?_
      rintro e w4 ⟨bb, rfl, hle, hS, hg⟩
      have HG4 := Lib.hid (grownN_trans HG3.out hg)
      have HS4 := Lib.hid hS
      have HLE : Hid (w.heap.size ≤ bb) := Nat.le_trans HG3.out.size hle
      clear hle hS hg c0 c1 c2
      go_wp2_with fail
      refine (begin_any w4 bb p h n X 64 [] _ _ HS4.out HL.out.1 HL.out.2.1 (by omega)).mono ?_
      rintro e w5 ⟨rfl, qv, Q, M, hS, hM, hb⟩
      rw [cut64 HL.out.1 HL.out.2.1 HL.out.2.2.2] at hM
      have HS5 := Lib.hid hS
      have HM5 := Lib.hid hM
      have HG5 := Lib.hid (search_on HG4.out HLE.out hb)
      clear hS hM hb
      have hk := dist_bnd HL.out.1 HL.out.2.1 HL.out.2.2.2 m (by omega) (by have := HL.out.2.2.1; omega)
      have HK := Lib.hid hk
      clear hk
      go_wp2_with fail
      refine (daysTo_any w5 bb p m _ Q M qv _ HS5.out (sq_100 HL.out.1 HL.out.2.2.1).1 (by have := HL.out; omega) (sq_100 HL.out.1 HL.out.2.2.1).2 (HM5.out.at_ m HL.out.2.2.1) (by have := HK.out; omega)).mono ?_
      rintro e w6 ⟨rfl, hg⟩
      go_wp2
      go_ret
      exact ⟨ret_i64 HE.out.symm, grownN_trans HG5.out hg⟩
    · have hB2 : isOpen W H X b = false := by simpa using hB
      rw [hB2] at hs
      have HS := Lib.hid hs
      have HE : Hid (daysOf W H X a b = -1) := by show _ = _; unfold daysOf; rw [if_neg (fun h => hB h.2)]
      clear hs hB hB2
      go_wp2_with fail
      refine HS.out.mono ?_
      rintro e w3 ⟨rfl, hg⟩
      have HG3 := Lib.hid (grownN_trans HG2.out hg)
      clear hg
      go_wp2
      go_ret
      exact ⟨ret_i64 HE.out.symm, HG3.out⟩
  · have hA2 : isOpen W H X a = false := by simpa using hA
    rw [hA2] at hs
    have HS := Lib.hid hs
    have HE : Hid (daysOf W H X a b = -1) := by show _ = _; unfold daysOf; rw [if_neg (fun h => hA h.1)]
    clear hs hA hA2
    go_enter Try.func92, Try.ntmps92
    go_wp2_with fail
    refine HS.out.mono ?_
    rintro e w2 ⟨rfl, hg⟩
    have HG2 := Lib.hid (grownN_trans HG0.out hg)
    clear hg
    go_wp2
    go_ret
    exact ⟨ret_i64 HE.out.symm, HG2.out⟩

end Go.Proofs.Ytbpiojnehomljaa.WayI
