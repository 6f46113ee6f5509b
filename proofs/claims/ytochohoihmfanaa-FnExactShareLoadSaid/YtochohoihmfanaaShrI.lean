/- Contracts of how a load is shared, and whether it can be carried: the program's, with its function value that counts down what is left. -/
import Derived.Test.YtochohoihmfanaaShr
namespace Go.Proofs.Ytochohoihmfanaa.Shr
open Go.RowKit Kit Rw Rg Crw Mn

theorem weakG {w w' : World} {r : Option Nat} (h : w.grownBy w' none) : w.grownBy w' r := ⟨h.os, h.tape, h.output, h.size, fun k hk _ => h.block k hk (by simp)⟩
theorem newG {w w1 w2 : World} {r s : Option Nat} (h : w.grownBy w1 r) (k : w1.grownBy w2 s) (hs : ∀ c, s = some c → w.heap.size ≤ c) : w.grownBy w2 r :=
  ⟨k.os.trans h.os, k.tape.trans h.tape, k.output.trans h.output, Nat.le_trans h.size k.size, fun i hi hr => (k.block i (Nat.lt_of_lt_of_le hi h.size) (fun e => by have := hs i e.symm; omega)).trans (h.block i hi hr)⟩

set_option maxRecDepth 20000 in
set_option maxHeartbeats 2000000 in
theorem one_any (w : World) (K : Nat) (xi xs xn q : Int) (xb : Bool) (hK : Box w K #[.int .i64 q] 3) (hq : 0 ≤ q ∧ q ≤ 800) (hz : 0 ≤ least (carries ⟨xi, xs, xn, xb⟩) q ∧ least (carries ⟨xi, xs, xn, xb⟩) q ≤ 100) :
    Calls Try.prog 70 #[.agg #[.int .i64 xi, .int .i64 xs, .int .i64 xn, .bool xb], .pointer (some ⟨K, 0, none⟩)] w fun e w' => e = .returned (.int .i64 (least (carries ⟨xi, xs, xn, xb⟩) q)) ∧ ∃ w1, w.grownBy w1 none ∧ w' = w1.setCell ⟨K, 0, none⟩ (.int .i64 (q - least (carries ⟨xi, xs, xn, xb⟩) q)) := by
  have g0 := World.grownBy_alloc w (.cells #[.int .i64 xi, .int .i64 xs, .int .i64 xn, .bool xb] 75 (0, 0)) (none : Option Nat)
  have HB := Lib.hid (box_new w #[.int .i64 xi, .int .i64 xs, .int .i64 xn, .bool xb] 75)
  have HK := Lib.hid (hK.grown g0)
  have HG0 := Lib.hid g0
  obtain ⟨c, hc⟩ : ∃ c, c = carries ⟨xi, xs, xn, xb⟩ := ⟨_, rfl⟩
  have hcar := fun w' => CrI.carries_m w' xi xs xn xb
  rw [← hc] at hcar hz ⊢
  obtain ⟨z, hzE⟩ : ∃ z, z = least c q := ⟨_, rfl⟩
  have hmin := fun w' => Mn.min_any c q w'
  rw [← hzE] at hmin hz ⊢
  have HCAR := Lib.hid hcar
  have HMIN := Lib.hid hmin
  have hqz : IntKind.i64.wrap (q - z) = q - z := IntWalk.i64_in _ (by omega)
  clear hcar hmin hc hzE hK g0
  go_enter Try.func70, Try.ntmps70
  go_wp2_with fail
  generalize w.alloc (.cells #[.int .i64 xi, .int .i64 xs, .int .i64 xn, .bool xb] 75 (0, 0)) = W1 at *
  have hD := fun w' (hg : W1.grownBy w' none) => And.intro (And.intro ((HB.out.grown hg).cell 0) (And.intro ((HB.out.grown hg).cell 1) (And.intro ((HB.out.grown hg).cell 2) ((HB.out.grown hg).cell 3)))) ((HK.out.grown hg).cell 0)
  have HD := Lib.hid hD
  have HG4 := Lib.hid (grown_drew (World.grownBy.refl W1 none))
  clear hD
  refine wp_region_held_drew (S := fun w' => (w'.cell? ⟨w.heap.size, 0, none⟩ = some (.int .i64 xi) ∧ w'.cell? ⟨w.heap.size, 1, none⟩ = some (.int .i64 xs) ∧ w'.cell? ⟨w.heap.size, 2, none⟩ = some (.int .i64 xn) ∧ w'.cell? ⟨w.heap.size, 3, none⟩ = some (.bool xb)) ∧ w'.cell? ⟨K, 0, none⟩ = some (.int .i64 q)) (by kernel_rfl) (HD.out _ HG4.out) (fun hHeld => ?_)
  refine wpAnyH_take (i := 0) (v := ?_) rfl (by kernel_rfl) (by kernel_rfl) (by kernel_rfl) (fun _ _ _ h => h) (Or.inl ⟨by rfl, ?_⟩) (by assumption) ?_; rotate_left; (focus (intro wS hSw; (try dsimp only at hSw); go_simp <;> with_reducible rfl)); (try simp only [Act.put, List.getElem_toArray, List.getElem_cons_succ, List.getElem_cons_zero, List.setIfInBounds_toArray, List.set_cons_zero, List.set_cons_succ])
  refine wpAnyH_take (i := 2) (v := ?_) rfl (by kernel_rfl) (by kernel_rfl) (by kernel_rfl) (fun _ _ _ h => h) (Or.inl ⟨by rfl, ?_⟩) (by assumption) ?_; rotate_left; (focus (intro wS hSw; (try dsimp only at hSw); go_simp <;> with_reducible rfl)); (try simp only [Act.put, List.getElem_toArray, List.getElem_cons_succ, List.getElem_cons_zero, List.setIfInBounds_toArray, List.set_cons_zero, List.set_cons_succ])
  refine wpAnyH_ready (rs := [1]) (by kernel_rfl) (by simp) ?_; refine AllReadyH.cons rfl (fun K hK => ?_) AllReadyH.nil; go_simp; (go_at_call 72; refine (HCAR.out _).mono ?_; rintro e w5 ⟨rfl, hg5⟩; have HG5 := Lib.hid (grownN_trans HG4.out hg5); clear hg5)
  refine hK.out _ _ ?_ (fun hHeld => ?_)
  · exact HD.out _ HG5.out
  clear hK K
  (try simp only [Act.put, List.getElem_toArray, List.getElem_cons_succ, List.getElem_cons_zero, List.setIfInBounds_toArray, List.set_cons_zero, List.set_cons_succ])
  refine wpAnyH_ready (rs := [3]) (by kernel_rfl) (by simp) ?_; refine AllReadyH.cons rfl (fun K hK => ?_) AllReadyH.nil; go_simp; (go_at_call 71; refine (HMIN.out _).mono ?_; rintro e w6 ⟨rfl, hg6⟩; have HG6 := Lib.hid (grownN_trans HG5.out hg6); clear hg6)
  refine hK.out _ _ ?_ (fun hHeld => ?_)
  · exact HD.out _ HG6.out
  clear hK K
  (try simp only [Act.put, List.getElem_toArray, List.getElem_cons_succ, List.getElem_cons_zero, List.setIfInBounds_toArray, List.set_cons_zero, List.set_cons_succ])
  refine wpAnyH_take (i := 4) (v := ?_) rfl (by kernel_rfl) (by kernel_rfl) (by kernel_rfl) (fun _ _ _ h => h) (Or.inl ⟨by rfl, ?_⟩) (by assumption) ?_; rotate_left; (focus (intro wS hSw; (try dsimp only at hSw); go_simp <;> with_reducible rfl)); (try simp only [Act.put, List.getElem_toArray, List.getElem_cons_succ, List.getElem_cons_zero, List.setIfInBounds_toArray, List.set_cons_zero, List.set_cons_succ])
  refine wpAnyH_done (by kernel_rfl) ?_ _
  (try simp only [Act.put, List.getElem_toArray, List.getElem_cons_succ, List.getElem_cons_zero, List.setIfInBounds_toArray, List.set_cons_zero, List.set_cons_succ])
  have k0 := (HK.out.grown HG6.out).cell 0
  have y0 := (HK.out.grown HG6.out).free 0
  have k0 : World.cell? w6 ⟨K, 0, none⟩ = some (.int .i64 q) := (HK.out.grown HG6.out).cell 0
  go_wp2
  go_ret
  exact ⟨rfl, w6, grownN_trans HG0.out HG6.out, rfl⟩

/-- Where portionsOf stands. -/
structure PO (w wr : World) (b o vn vc K : Nat) (L : List Mem) (n : Int) (u : Value) (j : Nat) : Prop where
  own : Rw.Own .i64 3 wr w.heap.size u (loads L n j)
  box : Box wr K #[.int .i64 (leftT L n j)] 3
  sees : SeesG encM wr (.slice (some ⟨b, o, none⟩) vn vc) L
  grown : w.grownBy wr (some K)
section
variable {w wr wy : World} {b o vn vc K : Nat} {L : List Mem} {n : Int} {u : Value} {j : Nat}
theorem PO.on (h : PO w wr b o vn vc K L n u j) (hg : wr.grownBy wy none) : PO w wy b o vn vc K L n u j := ⟨h.own.grown hg, h.box.grown hg, h.sees.grown hg, grownN_trans h.grown (weakG hg)⟩
end

set_option maxRecDepth 20000 in
set_option maxHeartbeats 2000000 in
theorem portions_any (w : World) (b o vn vc K : Nat) (L : List Mem) (n : Int) (hv : SeesG encM w (.slice (some ⟨b, o, none⟩) vn vc) L) (hb : b < w.heap.size) (hbK : b ≠ K) (hK : Box w K #[.int .i64 n] 3) (hc : areCrew L = true) (hn : 0 ≤ n ∧ n ≤ 800) :
    Calls Try.prog 69 #[.slice (some ⟨b, o, none⟩) vn vc, .func (.func 70) #[] #[.pointer (some ⟨K, 0, none⟩)]] w fun e w' => ∃ u, e = .returned u ∧ Rw.Own .i64 3 w' w.heap.size u (loads L n L.length) ∧ w.grownBy w' (some K) := by
  have hvn : L.length = vn := by obtain ⟨_, _, he, _⟩ := hv; injection he with _ h2 _; exact h2.symm
  have h8 := crew_len hc
  have hvn8 : vn ≤ 8 := by omega
  obtain ⟨i0, hi, hz0, hz1, hz2⟩ := info_parts info_int
  have HV := Lib.hid hv
  have HK0 := Lib.hid hK
  have HC := Lib.hid hc
  have HN := Lib.hid hn
  have HVN := Lib.hid hvn
  have hKl := hK.lt
  have HKL := Lib.hid hKl
  have HBK := Lib.hid hbK
  have HBL := Lib.hid hb
  clear hv hK hc h8 hvn hbK hb hKl
  go_enter Try.func69, Try.ntmps69
  go_wp2_with (at_make; refine wpList_make_own _ rfl _ _ 90 rfl w.heap.size 3 i0 (.int .i64 0) 1 Try.underlying90 hi hz0 hz1 .i64 .i64 _ vn rfl rfl rfl (by rw [hz2]; omega) (by unfold maxLen; omega) (Nat.le_refl _) ?_; intro w1 hown hgrow; have HO : Hid (Rw.Own .i64 3 w1 w.heap.size (.slice (some ⟨w.heap.size, 0, none⟩) 0 vn) []) := ⟨by simpa using hown, by simp⟩; have HG1 := Lib.hid hgrow; clear hown hgrow)
  have HP0 : Hid (PO w w1 b o vn vc K L n (.slice (some ⟨w.heap.size, 0, none⟩) 0 vn) 0) := ⟨HO.out, HK0.out.grown HG1.out, HV.out.grown HG1.out, weakG HG1.out⟩
  clear HO HG1
  go_loopw [5, 13] (fun u i wr => ∃ j : Nat, j ≤ vn ∧ i = .int .i64 j ∧ Hid (PO w wr b o vn vc K L n u j)) (fun _ i _ => vn - (intOf i).toNat)
  case atStart => exact ⟨0, Nat.zero_le _, rfl, HP0⟩
  case round =>
    obtain ⟨j, hj, rfl, HP⟩ := hrel
    by_cases hlt : j < vn
    · have hjl : j < L.length := by rw [HVN.out]; exact hlt
      have hlb := left_bd HC.out HN.out.1 j (by omega)
      have hld := load_bd HC.out HN.out.1 hjl
      obtain ⟨x, hx⟩ : ∃ x, L.getD j zM = x := ⟨_, rfl⟩
      obtain ⟨d0, d1, d2, d3⟩ := atM_in HP.out.sees (World.grownBy.refl wr none) hjl hx
      obtain ⟨q, hq⟩ : ∃ q, q = leftT L n j := ⟨_, rfl⟩
      have hzx : loadJ L n j = least (carries x) q := by rw [hq, ← hx]; rfl
      have HNL : Hid (leftT L n (j + 1) = q - least (carries x) q) := by show _ = _; rw [leftT_next, ← hq, hzx]
      have HNZ : Hid (loads L n (j + 1) = loads L n j ++ [least (carries x) q]) := by show _ = _; rw [← hzx]; rfl
      rw [hzx] at hld
      rw [← hq] at hlb
      have HLL := Lib.hid (loads_len L n j)
      have HBX : Hid (Box wr K #[.int .i64 q] 3) := by show Box _ _ _ _; rw [hq]; exact HP.out.box
      have HLB := Lib.hid (And.intro hlb hld)
      clear hx hq hzx hjl
      obtain ⟨xi, xs, xn, xb⟩ := x
      dsimp only at d0 d1 d2 d3
      have ga := World.grownBy_alloc wr (.cells #[.int .i64 xi, .int .i64 xs, .int .i64 xn, .bool xb] 75 (0, 0)) (none : Option Nat)
      have HGA := Lib.hid ga
      clear ga hlb hld
      go_wp2_with fail
      refine (one_any _ K xi xs xn q xb (HBX.out.grown HGA.out) (by have := HLB.out.1; have := HN.out; omega) HLB.out.2).mono ?_
      rintro e w' ⟨rfl, w1', hg, rfl⟩
      obtain ⟨z, hz⟩ : ∃ z, z = least (carries ⟨xi, xs, xn, xb⟩) q := ⟨_, rfl⟩
      rw [← hz]
      rw [← hz] at HNL HNZ HLB
      have hga := grownN_trans HGA.out hg
      have hset := grown_set w1' K 0 (.int .i64 (q - z))
      have HBX2 : Hid (Box (w1'.setCell ⟨K, 0, none⟩ (.int .i64 (q - z))) K #[.int .i64 (q - z)] 3) := by
        show Box _ _ _ _
        have := box_set (HBX.out.grown hga) 0 (.int .i64 (q - z))
        simpa using this
      have HOW := Lib.hid ((HP.out.own.grown hga).kept hset (.inr (HP.out.own.off HKL.out)))
      have HSE := Lib.hid ((HP.out.sees.grown hga).kept hset (.inr (by intro e; injection e with e; exact HBK.out e)))
      have HGR := Lib.hid (grownN_trans (grownN_trans HP.out.grown (weakG hga)) hset)
      have hzb := HLB.out.2
      clear hz hg hga hset d0 d1 d2 d3 HBX HP
      generalize w1'.setCell ⟨K, 0, none⟩ (.int .i64 (q - z)) = W2 at *
      go_wp2_with (at_builtin; go_loud (refine wpList_append_one _ rfl _ _ 90 rfl w.heap.size 3 i0 (.int .i64 0) 8 Try.underlying90 hi hz0 hz1 hz2 rfl .i64 _ (loads L n j) rfl HOW.out z rfl (i64_mk (by omega)) (by have := HLL.out; omega) (by decide) HGR.out.size ?_); intro v4 w4 hown4 hgrow4; have HO6 : Hid (PO w w4 b o vn vc K L n v4 (j + 1)) := ⟨by rw [HNZ.out]; exact hown4, by rw [HNL.out]; exact HBX2.out.kept hgrow4 (HOW.out.off HKL.out), HSE.out.kept hgrow4 (by by_cases hu : (Value.slice (some ⟨b, o, none⟩) vn vc).ownBlock = none; exact .inl hu; exact .inr (fun e => by have := HOW.out.lt b e.symm; have := HBL.out; omega)), newG HGR.out hgrow4 (fun c hc => (HOW.out.lt c hc).1)⟩; clear hown4 hgrow4)
      go_roundw
      case rel => exact ⟨j + 1, by omega, by go_num, HO6⟩
      case measure => simp [intOf]; omega
    · have hju : vn = j := by omega
      subst hju
      go_wp2
      go_ret
      exact ⟨_, rfl, by rw [HVN.out]; exact HP.out.own, HP.out.grown⟩

set_option maxRecDepth 20000 in
set_option maxHeartbeats 2000000 in
theorem iShare_any (w : World) (v : Value) (L : List Mem) (n : Int) (hv : SeesG encM w v L) :
    Calls Try.prog 24 #[v, .int .i64 n] w fun e w' => ∃ u, e = .returned u ∧ Rw.Own .i64 3 w' w.heap.size u (share L n) ∧ w.grownBy w' none := by
  have hmf : ∀ (fn : Fn) (first cap : Array Value) (w : World), (Instr.makeFunc fn first cap).run Try.prog w = .ok (.func fn first cap) w := fun _ _ _ _ => rfl
  obtain ⟨va, vn, vc, rfl, HVN⟩ := hv.shape
  have HV := Lib.hid hv
  clear hv
  cases hc : areCrew L
  · have HR : Hid (share L n = []) := share_no (fun h => by rw [h.1] at hc; cases hc)
    have HCR := Lib.hid (show ∀ w' hv, _ from fun w' hv => CrI.iAreCrew_any w' (.slice va vn vc) L hv)
    rw [hc] at HCR
    clear hc
    go_enter Try.func24, Try.ntmps24
    go_wp2_with fail
    refine (HCR.out _ HV.out).mono ?_
    rintro e w2 ⟨rfl, hg⟩
    have HG2 := Lib.hid hg
    have HO2 := Lib.hid (own_empty (k := .i64) (E := 3) w2)
    have HG3 := Lib.hid (grownN_trans hg (World.grownBy_alloc w2 (.cells #[] 3 (0, 0)) none))
    clear hg
    go_wp2
    go_ret
    exact ⟨_, rfl, by rw [HR.out]; exact HO2.out.lower HG2.out.size, HG3.out⟩
  · have HC := Lib.hid hc
    have HCR := Lib.hid (show ∀ w' hv, _ from fun w' hv => CrI.iAreCrew_any w' (.slice va vn vc) L hv)
    rw [hc] at HCR
    clear hc
    by_cases hn : 0 ≤ n ∧ n ≤ capOf L
    · have HR : Hid (share L n = loads L n L.length) := share_yes ⟨HC.out, hn⟩
      have hcb := cap_bd L
      have HN0 := Lib.hid (show 0 ≤ n ∧ n ≤ 800 by omega)
      have HN := Lib.hid hn
      have hl8 := crew_len HC.out
      obtain ⟨b, o, rfl, hbw, _⟩ := HV.out.at_row (j := 0) (by omega)
      have HBW := Lib.hid hbw
      clear hcb hn hl8 hbw
      go_enter Try.func24, Try.ntmps24
      go_wp2_with fail
      refine (HCR.out _ HV.out).mono ?_
      rintro e w2 ⟨rfl, hg⟩
      have HG2 := Lib.hid hg
      clear hg
      go_wp2_with fail
      refine (CrI.iCapOf_any _ _ L (HV.out.grown HG2.out)).mono ?_
      rintro e w3 ⟨rfl, hg⟩
      have HG3 := Lib.hid (grownN_trans HG2.out hg)
      clear hg
      go_wp2_with fail
      refine (LandI.inRange_yes _ HN.out).mono ?_
      rintro e w4 ⟨rfl, rfl⟩
      have ga := World.grownBy_alloc w3 (.cells #[.int .i64 n] 3 (0, 0)) (none : Option Nat)
      have HBX := Lib.hid (box_new w3 #[.int .i64 n] 3)
      have HG4 := Lib.hid (grownN_trans HG3.out ga)
      have HZ := Lib.hid HG3.out.size
      clear ga
      go_wp2_with fail
      generalize w3.alloc (.cells #[.int .i64 n] 3 (0, 0)) = W4 at *
      refine (portions_any W4 b o vn vc w3.heap.size L n (HV.out.grown HG4.out) (Nat.lt_of_lt_of_le HBW.out HG4.out.size) (by have := HBW.out; have := HZ.out; omega) HBX.out HC.out HN0.out).mono ?_
      rintro e w5 ⟨u, rfl, ho, hg⟩
      have HO := Lib.hid (ho.lower HG4.out.size)
      have HG5 := Lib.hid (grown_new HG4.out hg (fun c e => by injection e with e; have := HZ.out; omega))
      clear ho hg
      go_wp2
      go_ret
      exact ⟨_, rfl, by rw [HR.out]; exact HO.out, HG5.out⟩
    · have HR : Hid (share L n = []) := share_no (fun h => hn h.2)
      have HN := Lib.hid hn
      clear hn
      go_enter Try.func24, Try.ntmps24
      go_wp2_with fail
      refine (HCR.out _ HV.out).mono ?_
      rintro e w2 ⟨rfl, hg⟩
      have HG2 := Lib.hid hg
      clear hg
      go_wp2_with fail
      refine (CrI.iCapOf_any _ _ L (HV.out.grown HG2.out)).mono ?_
      rintro e w3 ⟨rfl, hg⟩
      have HG3 := Lib.hid (grownN_trans HG2.out hg)
      clear hg
      go_wp2_with fail
      refine (LandI.inRange_no _ HN.out).mono ?_
      rintro e w4 ⟨rfl, rfl⟩
      have HO2 := Lib.hid (own_empty (k := .i64) (E := 3) w3)
      have HG4 := Lib.hid (grownN_trans HG3.out (World.grownBy_alloc w3 (.cells #[] 3 (0, 0)) none))
      go_wp2
      go_ret
      exact ⟨_, rfl, by rw [HR.out]; exact HO2.out.lower HG3.out.size, HG4.out⟩

theorem share_pos {L : List Mem} {n : Int} {u : Nat} (h : (share L n).length = u) : decide (0 < u) = decide (can L n) := by
  by_cases hc : can L n
  · rw [share_yes hc, loads_len] at h
    have := (crew_len hc.1).1
    rw [decide_eq_true hc, decide_eq_true (by omega)]
  · rw [share_no hc] at h
    simp at h
    rw [decide_eq_false hc, decide_eq_false (by omega)]
set_option maxHeartbeats 1000000 in
theorem sCan_any (w : World) (v : Value) (L : List Mem) (n : Int) (hv : SeesG encM w v L) :
    Calls Try.prog 25 #[v, .int .i64 n] w fun e w' => e = .returned (.bool (decide (can L n))) ∧ w.grownBy w' none := by
  have HC := Lib.hid (sShare_any w v L n hv)
  obtain ⟨va, vn, vc, rfl, HVN⟩ := hv.shape
  clear hv
  go_enter Try.func25, Try.ntmps25
  go_wp2_with fail
  refine HC.out.mono ?_
  rintro e w2 ⟨u, rfl, ho, hg⟩
  obtain ⟨ua, un, uc, hu', HUN⟩ := ho.sees.shape
  subst hu'
  have HP := Lib.hid (share_pos HUN.out)
  have HG := Lib.hid hg
  clear ho hg
  go_wp2
  go_ret
  exact ⟨by rw [← HP.out]; rfl, HG.out⟩

set_option maxHeartbeats 1000000 in
theorem iCan_any (w : World) (v : Value) (L : List Mem) (n : Int) (hv : SeesG encM w v L) :
    Calls Try.prog 26 #[v, .int .i64 n] w fun e w' => e = .returned (.bool (decide (can L n))) ∧ w.grownBy w' none := by
  have HC := Lib.hid (iShare_any w v L n hv)
  obtain ⟨va, vn, vc, rfl, HVN⟩ := hv.shape
  clear hv
  go_enter Try.func26, Try.ntmps26
  go_wp2_with fail
  refine HC.out.mono ?_
  rintro e w2 ⟨u, rfl, ho, hg⟩
  obtain ⟨ua, un, uc, hu', HUN⟩ := ho.sees.shape
  subst hu'
  have HP := Lib.hid (share_pos HUN.out)
  have HG := Lib.hid hg
  clear ho hg
  go_wp2
  go_ret
  exact ⟨by rw [← HP.out]; rfl, HG.out⟩

end Go.Proofs.Ytochohoihmfanaa.Shr
