/- Contracts of the program's Days and Farthest. -/
import Derived.Test.YtfccikhmcenanaaSrN
import Derived.Test.YtfccikhmcenanaaLandI
import Derived.Test.YtfccikhmcenanaaWayG
namespace Go.Proofs.Ytfccikhmcenanaa.WayI
open Go.RowKit Kit Rw Ld Gr GrI Bfs Wf Sr LandI

/-- Where a function of chapter 5 stands: the land in its box, nothing old written. -/
structure WB (w wr : World) (W H : Int) (v : Value) (X : List Int) : Prop where
  box : Box wr w.heap.size #[.int .i64 W, .int .i64 H, v] 26
  row : Sees .i64 wr v X
  grown : w.grownBy wr none
  lt : v.ownBlock = none ∨ ∃ b, v.ownBlock = some b ∧ b < w.heap.size ∨ X = []
/-- What begin leaves, up to more days than there can be. -/
theorem cut64 {p h f : Nat} {X : List Int} (hL : isLand p h X = true) (hf : f < X.length) (h64 : X.length ≤ 64) : cut 64 (distL p X f) = distL p X f :=
  cut_all (fun n n0 n1 => by
    have hd := dist_is hL (a := (f : Int)) (by omega) (by omega)
    rw [hd.len] at n1
    have := dist_lt hL (a := (f : Int)) (by omega) (by omega) n0 n1
    omega)
theorem dist_bnd {p h f : Nat} {X : List Int} (hL : isLand p h X = true) (hf : f < X.length) (h64 : X.length ≤ 64) : ∀ m : Int, 0 ≤ m → m < X.length → -1 ≤ at' (distL p X f) m ∧ at' (distL p X f) m ≤ 64 := fun m m0 m1 => by
  have hd := dist_is hL (a := (f : Int)) (by omega) (by omega)
  have := dist_lt hL (a := (f : Int)) (by omega) (by omega) m0 m1
  have := hd.low m m0 m1
  omega
theorem sq_100 {p h n : Nat} {X : List Int} (hL : isLand p h X = true) (hn : n < X.length) : (1 ≤ p ∧ p ≤ 8) ∧ sq p n < 100 := by
  obtain ⟨hW, hH, hLen, _⟩ := isLand_of hL
  have hxl : X.length = p * h := by exact_mod_cast hLen
  have := sq_lt (p := p) (h := h) (n := n) (by omega) (by omega) (by omega)
  exact ⟨by omega, by omega⟩

theorem search_on {w wx wy : World} {bb : Nat} (hg : w.grownBy wx none) (hle : w.heap.size ≤ bb) (hb : Below bb wx wy) : w.grownBy wy none :=
  below_grown ((grown_below hg _ (Nat.le_refl _)).trans (Below.mono hb hle))

set_option maxRecDepth 100000 in
set_option maxHeartbeats 1000000 in
theorem days_any (w : World) (W H a b : Int) (v : Value) (X : List Int) (hv : Sees .i64 w v X) :
    Calls Try.prog 30 #[.agg #[.int .i64 W, .int .i64 H, v], .int .i64 a, .int .i64 b] w fun e w' => e = .returned (.int .i64 (daysOf W H X a b)) ∧ w.grownBy w' none := by
  obtain ⟨hb0, hv0, hg0⟩ := wb_new (W := W) (H := H) hv
  obtain ⟨c0, c1, c2⟩ := hb0.three
  have HB0 := Lib.hid hb0
  have HV0 := Lib.hid hv0
  have HG0 := Lib.hid hg0
  obtain ⟨va, vn, vc, hvv, HVN⟩ := hv.shape
  subst hvv
  have hs := isOpen_any _ W H a _ X hv0
  clear hv hb0 hv0 hg0
  by_cases hA : isOpen W H X a = true
  · rw [hA] at hs
    have HS := Lib.hid hs
    have HA := Lib.hid hA
    clear hs hA
    go_enter Try.func30, Try.ntmps30
    go_wp2_with fail
    refine HS.out.mono ?_
    rintro e w2 ⟨rfl, hg⟩
    have HB2 := Lib.hid (HB0.out.grown hg)
    have HV2 := Lib.hid (HV0.out.grown hg)
    have HG2 := Lib.hid (grownN_trans HG0.out hg)
    clear hg c0 c1 c2
    obtain ⟨c0, c1, c2⟩ := HB2.out.three
    have hs := isOpen_any w2 W H b _ X HV2.out
    by_cases hB : isOpen W H X b = true
    · rw [hB] at hs
      have HS := Lib.hid hs
      have HBO := Lib.hid hB
      clear hs hB
      go_wp2_with fail
      refine HS.out.mono ?_
      rintro e w3 ⟨rfl, hg⟩
      have HB3 := Lib.hid (HB2.out.grown hg)
      have HV3 := Lib.hid (HV2.out.grown hg)
      have HG3 := Lib.hid (grownN_trans HG2.out hg)
      have HE : Hid (daysOf W H X a b = at' (distL W X a) b) := by show _ = _; unfold daysOf; rw [if_pos ⟨HA.out, HBO.out⟩]
      obtain ⟨p, h, n, rfl, rfl, rfl, hn, hL, h64, _⟩ := open_nat HA.out
      obtain ⟨p', h', m, hp', hh', rfl, hm, _, _, _⟩ := open_nat HBO.out
      have HL : Hid (isLand p h X = true ∧ n < X.length ∧ m < X.length ∧ X.length ≤ 64) := ⟨hL, hn, hm, h64⟩
      clear hg c0 c1 c2 hL hn hm h64 hp' hh'
      obtain ⟨c0, c1, c2⟩ := HB3.out.three
      go_wp2_with fail
      refine (searchIn_any w3 p h _ X HV3.out HL.out.1).mono ?_
      rintro e w4 ⟨bb, rfl, hle, hS, hg⟩
      have HG4 := Lib.hid (grownN_trans HG3.out hg)
      have HS4 := Lib.hid hS
      have HLE : Hid (w.heap.size ≤ bb) := Nat.le_trans HG3.out.size hle
      clear hle hS hg c0 c1 c2
      go_wp2_with fail
      refine (begin_any w4 bb p h n X 64 [] _ _ HS4.out HL.out.1 HL.out.2.1 (by omega)).mono ?_
      rintro e w5 ⟨rfl, qv, Q, M, hS, hM, hb⟩
      rw [cut64 HL.out.1 HL.out.2.1 HL.out.2.2.2] at hM
      have HS5 := Lib.hid hS
      have HM5 := Lib.hid hM
      have HG5 := Lib.hid (search_on HG4.out HLE.out hb)
      clear hS hM hb
      have hk := dist_bnd HL.out.1 HL.out.2.1 HL.out.2.2.2 m (by omega) (by have := HL.out.2.2.1; omega)
      have HK := Lib.hid hk
      clear hk
      go_wp2_with fail
      refine (daysTo_any w5 bb p m _ Q M qv _ HS5.out (sq_100 HL.out.1 HL.out.2.2.1).1 (by have := HL.out; omega) (sq_100 HL.out.1 HL.out.2.2.1).2 (HM5.out.at_ m HL.out.2.2.1) (by have := HK.out; omega)).mono ?_
      rintro e w6 ⟨rfl, hg⟩
      go_wp2
      go_ret
      exact ⟨ret_i64 HE.out.symm, grownN_trans HG5.out hg⟩
    · have hB2 : isOpen W H X b = false := by simpa using hB
      rw [hB2] at hs
      have HS := Lib.hid hs
      have HE : Hid (daysOf W H X a b = -1) := by show _ = _; unfold daysOf; rw [if_neg (fun h => hB h.2)]
      clear hs hB hB2
      go_wp2_with fail
      refine HS.out.mono ?_
      rintro e w3 ⟨rfl, hg⟩
      have HG3 := Lib.hid (grownN_trans HG2.out hg)
      clear hg
      go_wp2
      go_ret
      exact ⟨ret_i64 HE.out.symm, HG3.out⟩
  · have hA2 : isOpen W H X a = false := by simpa using hA
    rw [hA2] at hs
    have HS := Lib.hid hs
    have HE : Hid (daysOf W H X a b = -1) := by show _ = _; unfold daysOf; rw [if_neg (fun h => hA h.1)]
    clear hs hA hA2
    go_enter Try.func30, Try.ntmps30
    go_wp2_with fail
    refine HS.out.mono ?_
    rintro e w2 ⟨rfl, hg⟩
    have HG2 := Lib.hid (grownN_trans HG0.out hg)
    clear hg
    go_wp2
    go_ret
    exact ⟨ret_i64 HE.out.symm, HG2.out⟩

set_option maxRecDepth 100000 in
set_option maxHeartbeats 1000000 in
theorem farthest_any (w : World) (W H a : Int) (v : Value) (X : List Int) (hv : Sees .i64 w v X) :
    Calls Try.prog 38 #[.agg #[.int .i64 W, .int .i64 H, v], .int .i64 a] w fun e w' => e = .returned (.int .i64 (farOf W H X a)) ∧ w.grownBy w' none := by
  obtain ⟨hb0, hv0, hg0⟩ := wb_new (W := W) (H := H) hv
  obtain ⟨c0, c1, c2⟩ := hb0.three
  have HB0 := Lib.hid hb0
  have HV0 := Lib.hid hv0
  have HG0 := Lib.hid hg0
  have hs := isOpen_any _ W H a _ X hv0
  obtain ⟨va, vn, vc, hvv, HVN⟩ := hv.shape
  subst hvv
  have hvl : va = none ∨ X = [] ∨ ∃ vb vo, va = some ⟨vb, vo, none⟩ ∧ vb < w.heap.size := by
    by_cases hx : X = []
    · exact .inr (.inl hx)
    · obtain ⟨vb, vo, e, hc⟩ := hv.at_row (j := 0) (List.length_pos_iff.2 hx)
      exact .inr (.inr ⟨vb, vo, e, World.block_lt_of_cell? w _ hc⟩)
  have HVL := Lib.hid hvl
  have HV := Lib.hid hv
  clear hv hb0 hv0 hg0 hvl
  by_cases hA : isOpen W H X a = true
  · rw [hA] at hs
    have HS := Lib.hid hs
    have HA := Lib.hid hA
    clear hs hA
    go_enter Try.func38, Try.ntmps38
    go_wp2_with fail
    refine HS.out.mono ?_
    rintro e w2 ⟨rfl, hg⟩
    have HB2 := Lib.hid (HB0.out.grown hg)
    have HV2 := Lib.hid (HV0.out.grown hg)
    have HG2 := Lib.hid (grownN_trans HG0.out hg)
    obtain ⟨p, h, n, rfl, rfl, rfl, hn, hL, h64, _⟩ := open_nat HA.out
    have HL : Hid (isLand p h X = true ∧ n < X.length ∧ X.length ≤ 64) := ⟨hL, hn, h64⟩
    clear hg c0 c1 c2 hL hn h64
    obtain ⟨c0, c1, c2⟩ := HB2.out.three
    go_wp2_with fail
    refine (searchIn_any w2 p h _ X HV2.out HL.out.1).mono ?_
    rintro e w4 ⟨bb, rfl, hle, hS, hg⟩
    have HG4 := Lib.hid (grownN_trans HG2.out hg)
    have HS4 := Lib.hid hS
    have HB4 := Lib.hid (HB2.out.grown hg)
    have HLE : Hid (w.heap.size + 1 ≤ bb) := Nat.le_trans (by have := HB2.out.lt; omega) hle
    clear hle hS hg c0 c1 c2
    go_wp2_with fail
    refine (begin_any w4 bb p h n X 64 [] _ _ HS4.out HL.out.1 HL.out.2.1 (by omega)).mono ?_
    rintro e w5 ⟨rfl, qv, Q, M, hS, hM, hb⟩
    rw [cut64 HL.out.1 HL.out.2.1 HL.out.2.2] at hM
    have HS5 := Lib.hid hS
    have HM5 := Lib.hid hM
    have HG5 := Lib.hid (search_on HG4.out (Nat.le_of_succ_le HLE.out) hb)
    have HB5 : Hid (Box w5 w.heap.size #[.int .i64 (p : Int), .int .i64 (h : Int), .slice va vn vc] 26) := (hb.block _ (by have := HLE.out; omega)).trans HB4.out
    clear hS hM hb
    obtain ⟨c0, c1, c2⟩ := HB5.out.three
    have hvn64 : vn ≤ 64 := by rw [← HVN.out]; exact HL.out.2.2
    go_wp2_with fail
    go_loopw [6, 21] (fun s6 s21 wz => ∃ (k r : Nat), k ≤ vn ∧ s21 = .int .i64 k ∧ s6 = .int .i64 r ∧ r < vn ∧ Hid (SB wz bb p (grid p X) qv Q M ∧ w5.grownBy wz none) ∧ Hid ((r = n ∨ r < k) ∧ at' (distL p X n) (n : Int) ≤ at' (distL p X n) (r : Int) ∧ (∀ i : Nat, i < k → at' (distL p X n) (i : Int) ≤ at' (distL p X n) (r : Int)) ∧ (∀ i : Nat, i < k → i < r → at' (distL p X n) (i : Int) < at' (distL p X n) (r : Int)))) (fun _ s21 _ => vn - (intOf s21).toNat)
    case atStart => exact ⟨0, n, Nat.zero_le _, rfl, rfl, by rw [← HVN.out]; exact HL.out.2.1, ⟨HS5.out, World.grownBy.refl _ _⟩, ⟨.inl rfl, Int.le_refl _, fun i hi => absurd hi (Nat.not_lt_zero _), fun i hi => absurd hi (Nat.not_lt_zero _)⟩⟩
    case round =>
      obtain ⟨k, r, hk, rfl, rfl, hr, HZ, HF⟩ := hrel
      by_cases hlt : k < vn
      · have HKX : Hid (k < X.length ∧ r < X.length) := by rw [HVN.out]; exact ⟨hlt, hr⟩
        have hk1 := dist_bnd HL.out.1 HL.out.2.1 HL.out.2.2 (k : Int) (by omega) (by have := HKX.out; omega)
        have hr1 := dist_bnd HL.out.1 HL.out.2.1 HL.out.2.2 (r : Int) (by omega) (by have := HKX.out; omega)
        obtain ⟨y, hy⟩ : ∃ y, y = at' (distL p X n) (k : Int) := ⟨_, rfl⟩
        obtain ⟨z, hz⟩ : ∃ z, z = at' (distL p X n) (r : Int) := ⟨_, rfl⟩
        rw [← hy] at hk1
        rw [← hz] at hr1
        have HY := Lib.hid hy
        have HZZ := Lib.hid hz
        have HK1 := Lib.hid hk1
        have HR1 := Lib.hid hr1
        clear hy hz hk1 hr1
        go_wp2_with fail
        refine (daysTo_any wr bb p k _ Q M qv y HZ.out.1 (sq_100 HL.out.1 HKX.out.1).1 (by omega) (sq_100 HL.out.1 HKX.out.1).2 (by rw [HM5.out.at_ k HKX.out.1, HY.out]) (by have := HK1.out; omega)).mono ?_
        rintro e w6 ⟨rfl, hg6⟩
        have HZ6 : Hid (SB w6 bb p (grid p X) qv Q M ∧ w5.grownBy w6 none) := ⟨HZ.out.1.on hg6, grownN_trans HZ.out.2 hg6⟩
        clear hg6
        go_wp2_with fail
        refine (daysTo_any w6 bb p r _ Q M qv z HZ6.out.1 (sq_100 HL.out.1 HKX.out.2).1 (by omega) (sq_100 HL.out.1 HKX.out.2).2 (by rw [HM5.out.at_ r HKX.out.2, HZZ.out]) (by have := HR1.out; omega)).mono ?_
        rintro e w7 ⟨rfl, hg7⟩
        have HZ7 : Hid (SB w7 bb p (grid p X) qv Q M ∧ w5.grownBy w7 none) := ⟨HZ6.out.1.on hg7, grownN_trans HZ6.out.2 hg7⟩
        clear hg7
        by_cases hyz : z < y
        · go_wp2
          go_roundw
          case rel =>
            refine ⟨k + 1, k, by omega, by go_num, rfl, hlt, HZ7, .inr (by omega), ?_, fun i hi => ?_, fun i hi hik => ?_⟩
            · have := HF.out.2.1; rw [← HY.out]; rw [← HZZ.out] at this; omega
            · by_cases e : i = k
              · subst e; exact Int.le_refl _
              · have := HF.out.2.2.1 i (by omega); rw [← HY.out]; rw [← HZZ.out] at this; omega
            · have := HF.out.2.2.1 i (by omega); rw [← HY.out]; rw [← HZZ.out] at this; omega
          case measure => simp [intOf]; omega
        · go_wp2
          go_roundw
          case rel =>
            refine ⟨k + 1, r, by omega, by go_num, rfl, hr, HZ7, ?_, HF.out.2.1, fun i hi => ?_, fun i hi hir => ?_⟩
            · rcases HF.out.1 with h | h
              · exact .inl h
              · exact .inr (by omega)
            · by_cases e : i = k
              · subst e; rw [← HY.out, ← HZZ.out]; omega
              · exact HF.out.2.2.1 i (by omega)
            · by_cases e : i = k
              · subst e
                rcases HF.out.1 with h | h
                · subst h
                  have hd := dist_is HL.out.1 (a := (r : Int)) (by omega) (by have := HL.out.2.1; omega)
                  by_cases c : 0 ≤ at' (distL p X r) (i : Int)
                  · obtain ⟨m, _, _, m2, _, m4⟩ := hd.pre (i : Int) (by omega) (by have := HKX.out.1; omega) (by omega) c
                    have := hd.src
                    have h1 := HY.out
                    have h2 := HZZ.out
                    omega
                  · have := hd.src; omega
                · omega
              · exact HF.out.2.2.2 i (by omega) hir
          case measure => simp [intOf]; omega
      · have hkk : k = vn := by omega
        have HE : Hid (farOf p h X n = (r : Int)) := farOf_eq HA.out (by
          have hd := dist_is HL.out.1 (a := (n : Int)) (by omega) (by have := HL.out.2.1; omega)
          have hl := hd.len
          rw [← HVN.out] at hr hkk
          refine ⟨by omega, by omega, fun i i0 i1 => ?_, fun i i0 i1 => ?_⟩
          · have := HF.out.2.2.1 i.toNat (by omega); rwa [show ((i.toNat : Nat) : Int) = i by omega] at this
          · have := HF.out.2.2.2 i.toNat (by omega) (by omega); rwa [show ((i.toNat : Nat) : Int) = i by omega] at this)
        go_wp2
        go_ret
        exact ⟨ret_i64 HE.out.symm, grownN_trans HG5.out HZ.out.2⟩
  · have hA2 : isOpen W H X a = false := by simpa using hA
    rw [hA2] at hs
    have HS := Lib.hid hs
    have HE : Hid (farOf W H X a = -1) := by show _ = _; unfold farOf; rw [if_neg hA]
    clear hs hA hA2
    go_enter Try.func38, Try.ntmps38
    go_wp2_with fail
    refine HS.out.mono ?_
    rintro e w2 ⟨rfl, hg⟩
    have HG2 := Lib.hid (grownN_trans HG0.out hg)
    clear hg
    go_wp2
    go_ret
    exact ⟨ret_i64 HE.out.symm, HG2.out⟩
end Go.Proofs.Ytfccikhmcenanaa.WayI
