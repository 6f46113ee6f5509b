/- How food is shared: the program's contracts. -/
import Derived.Test.YtochohoihmfanaaShf
import Derived.Test.YtochohoihmfanaaApp
import Derived.Test.YtochohoihmfanaaRes
namespace Go.Proofs.Ytochohoihmfanaa.Shf
open Go.RowKit Kit Rw Rg Crw App

theorem two {w : World} {b : Nat} {x y : Value} {T : TypeId} (h : Box w b #[x, y] T) : w.cell? ⟨b, 0, none⟩ = some x ∧ w.cell? ⟨b, 1, none⟩ = some y := ⟨h.cell 0, h.cell 1⟩
theorem two_set0 {w : World} {b : Nat} {x y u : Value} {t : TypeId} (h : Box w b #[x, y] t) : Box (w.setCell ⟨b, 0, none⟩ u) b #[u, y] t := by
  have hlt := h.lt
  have h' : w.heap[b] = .cells #[x, y] t (0, 0) := by have h := h; unfold Box at h; simpa [Array.getElem?_eq_getElem hlt] using h
  show (w.heap.modify b _)[b]? = _
  rw [Array.getElem?_eq_getElem (by simpa using hlt), Array.getElem_modify_self, h']
  rfl
theorem two_set1 {w : World} {b : Nat} {x y u : Value} {t : TypeId} (h : Box w b #[x, y] t) : Box (w.setCell ⟨b, 1, none⟩ u) b #[x, u] t := by
  have hlt := h.lt
  have h' : w.heap[b] = .cells #[x, y] t (0, 0) := by have h := h; unfold Box at h; simpa [Array.getElem?_eq_getElem hlt] using h
  show (w.heap.modify b _)[b]? = _
  rw [Array.getElem?_eq_getElem (by simpa using hlt), Array.getElem_modify_self, h']
  rfl
/-- A struct of two cells that is stored whole. -/
def put2 (w : World) (b : Nat) (x y : Value) : World := (w.setCell ⟨b, 0, none⟩ x).setCell ⟨b, 1, none⟩ y
theorem put2_grown (w : World) (b : Nat) (x y : Value) : w.grownBy (put2 w b x y) (some b) := grown_trans (grown_set w b 0 x) (grown_set _ b 1 y)
theorem put2_box {w : World} {b : Nat} {x y x' y' : Value} {T : TypeId} (h : Box w b #[x, y] T) : Box (put2 w b x' y') b #[x', y'] T := two_set1 (two_set0 h)
theorem put2_on {w : World} {b : Nat} {x y : Value} {T : TypeId} (h : Box w b #[x, y] T) (x' y' : Value) :
    (w.cell? ⟨b, 0, none⟩ = some x ∧ w.frozen? ⟨b, 0, none⟩ = false) ∧
    ((w.setCell ⟨b, 0, none⟩ x').cell? ⟨b, 1, none⟩ = some y ∧ (w.setCell ⟨b, 0, none⟩ x').frozen? ⟨b, 1, none⟩ = false) ∧
    (((w.setCell ⟨b, 0, none⟩ x').setCell ⟨b, 1, none⟩ y').cell? ⟨b, 0, none⟩ = some x' ∧ ((w.setCell ⟨b, 0, none⟩ x').setCell ⟨b, 1, none⟩ y').cell? ⟨b, 1, none⟩ = some y') := by
  have b1 := two_set0 (u := x') h
  have b2 := two_set1 (u := y') b1
  exact ⟨⟨h.cell 0, h.free 0⟩, ⟨b1.cell 1, b1.free 1⟩, two b2⟩

theorem weakG {w w' : World} {r : Option Nat} (h : w.grownBy w' none) : w.grownBy w' r := ⟨h.os, h.tape, h.output, h.size, fun k hk _ => h.block k hk (by simp)⟩
theorem info_div : (Try.prog.info? 83).map (fun i => (i.zero, i.size, i.bytes)) = some (some (.agg #[.int .i64 0, .int .i64 0]), 2, 16) := by kernel_rfl

set_option maxRecDepth 20000 in
set_option maxHeartbeats 4000000 in
theorem one_any (w : World) (K1 K2 : Nat) (xi xs xn n N : Int) (xb : Bool) (hK1 : Box w K1 #[.int .i64 n] 3) (hK2 : Box w K2 #[.int .i64 N] 3) (hb : 0 ≤ n * xn ∧ n * xn ≤ 100000) (hN : 0 < N ∧ N ≤ 800) :
    Calls Try.prog 61 #[.agg #[.int .i64 xi, .int .i64 xs, .int .i64 xn, .bool xb], .pointer (some ⟨K1, 0, none⟩), .pointer (some ⟨K2, 0, none⟩)] w fun e w' => e = .returned (.agg #[.int .i64 (n * xn / N), .int .i64 (n * xn % N)]) ∧ w.grownBy w' none := by
  have g0 := World.grownBy_alloc w (.cells #[.int .i64 xi, .int .i64 xs, .int .i64 xn, .bool xb] 75 (0, 0)) (none : Option Nat)
  have g1 := World.grownBy_alloc (w.alloc (.cells #[.int .i64 xi, .int .i64 xs, .int .i64 xn, .bool xb] 75 (0, 0))) (.cells #[.int .i64 0, .int .i64 0] 83 (0, 0)) (none : Option Nat)
  have hM := (box_new w #[.int .i64 xi, .int .i64 xs, .int .i64 xn, .bool xb] 75).grown g1
  have hT := box_new (w.alloc (.cells #[.int .i64 xi, .int .i64 xs, .int .i64 xn, .bool xb] 75 (0, 0))) #[.int .i64 0, .int .i64 0] 83
  rw [World.size_alloc] at hT
  have h1 := (hK1.grown g0).grown g1
  have h2 := (hK2.grown g0).grown g1
  have l1 := hK1.lt
  have l2 := hK2.lt
  have HE := Lib.hid (show ∀ w', Calls Try.prog 62 #[.agg #[.int .i64 xi, .int .i64 xs, .int .i64 xn, .bool xb]] w' fun e w'' => e = .returned (.int .i64 xn) ∧ w'.grownBy w'' none from fun w' => CrI.eats_m w' xi xs xn xb)
  have HG1 := Lib.hid (grownN_trans g0 g1)
  obtain ⟨p, hp⟩ : ∃ p, p = n * xn := ⟨_, rfl⟩
  rw [← hp] at hb ⊢
  have hmul : IntKind.i64.wrap (n * xn) = p := by rw [← hp]; exact IntWalk.i64_in _ (by omega)
  obtain ⟨a, ha⟩ : ∃ a, a = p / N := ⟨_, rfl⟩
  obtain ⟨r, hr⟩ : ∃ r, r = p % N := ⟨_, rfl⟩
  have hdiv : p.tdiv N = a := by rw [ha]; exact Int.tdiv_eq_ediv_of_nonneg hb.1
  have hmod : p.tmod N = r := by rw [hr]; exact Int.tmod_eq_emod_of_nonneg hb.1
  have ha1 : 0 ≤ a := by rw [ha]; exact Int.ediv_nonneg hb.1 (by omega)
  have ha2 : a ≤ p := by rw [ha]; exact Int.ediv_le_self _ hb.1
  have hr1 : 0 ≤ r := by rw [hr]; exact Int.emod_nonneg _ (by omega)
  have hr2 : r < N := by rw [hr]; exact Int.emod_lt_of_pos _ hN.1
  have hza : IntKind.i64.wrap a = a := IntWalk.i64_in _ (by omega)
  have hzr : IntKind.i64.wrap r = r := IntWalk.i64_in _ (by omega)
  have hN0 : (N == 0) = false := by simp; omega
  have hN1 : ¬ N = 0 := by omega
  rw [← ha, ← hr]
  clear g0 g1 hK1 hK2 hp ha hr ha1 ha2 hr1 hr2 hb hN
  go_enter Try.func61, Try.ntmps61
  go_wp2_with fail
  generalize (w.alloc (.cells #[.int .i64 xi, .int .i64 xs, .int .i64 xn, .bool xb] 75 (0, 0))).alloc (.cells #[.int .i64 0, .int .i64 0] 83 (0, 0)) = W1 at *
  have HD : Hid (∀ W, W1.grownBy W (some (w.heap.size + 1)) → (W.cell? ⟨w.heap.size, 0, none⟩ = some (.int .i64 xi) ∧ W.cell? ⟨w.heap.size, 1, none⟩ = some (.int .i64 xs) ∧ W.cell? ⟨w.heap.size, 2, none⟩ = some (.int .i64 xn) ∧ W.cell? ⟨w.heap.size, 3, none⟩ = some (.bool xb)) ∧ W.cell? ⟨K1, 0, none⟩ = some (.int .i64 n) ∧ W.cell? ⟨K2, 0, none⟩ = some (.int .i64 N)) := fun W hg => by
    have m := hM.kept hg (by simp)
    exact ⟨⟨m.cell 0, m.cell 1, m.cell 2, m.cell 3⟩, (h1.kept hg (by simp; omega)).cell 0, (h2.kept hg (by simp; omega)).cell 0⟩
  have HT := Lib.hid hT
  have HGD := Lib.hid (grown_drew (World.grownBy.refl W1 none))
  clear hM h1 h2 hT l1 l2
  go_region_held_law (fun w' => (w'.cell? ⟨w.heap.size, 0, none⟩ = some (.int .i64 xi) ∧ w'.cell? ⟨w.heap.size, 1, none⟩ = some (.int .i64 xs) ∧ w'.cell? ⟨w.heap.size, 2, none⟩ = some (.int .i64 xn) ∧ w'.cell? ⟨w.heap.size, 3, none⟩ = some (.bool xb)) ∧ w'.cell? ⟨K1, 0, none⟩ = some (.int .i64 n) ∧ w'.cell? ⟨K2, 0, none⟩ = some (.int .i64 N)) (first | exact HD.out _ (grown_trans (weakG HG6.out) (grown_trans (grown_set _ _ _ _) (grown_set _ _ _ _))) | exact HD.out _ (weakG HG6.out) | exact HD.out _ (weakG HG5.out) | exact HD.out _ (weakG HGD.out)) (first | (go_at_call 62; refine (HE.out _).mono ?_; rintro e w6 ⟨rfl, hg6⟩; have HG6 := Lib.hid (grownN_trans HG5.out hg6); clear hg6; obtain ⟨⟨p0, r0⟩, ⟨p1, r1⟩, o0, o1⟩ := put2_on (HT.out.grown HG6.out) (.int .i64 a) (.int .i64 r)) | (go_at_call 62; refine (HE.out _).mono ?_; rintro e w5 ⟨rfl, hg5⟩; have HG5 := Lib.hid (grownN_trans HGD.out hg5); clear hg5))
  all_goals
    go_wp2
    try simp only [Exit.inBlock, Exit.then]
    refine ret_box rfl rfl (put2_box (x' := .int .i64 a) (y' := .int .i64 r) (HT.out.grown HG6.out)) Try.underlying83 rfl (by kernel_rfl) rfl ?_
    exact ⟨rfl, grown_new (grownN_trans HG1.out HG6.out) (put2_grown w6 (w.heap.size + 1) (.int .i64 a) (.int .i64 r)) (fun c e => by injection e with e; omega)⟩

def prs (L : List Mem) (n : Int) : Nat → List (Int × Int)
  | 0 => []
  | j + 1 => prs L n j ++ [(shJ L n j, rmJ L n j)]
theorem prs_len (L : List Mem) (n : Int) : ∀ j, (prs L n j).length = j
  | 0 => rfl
  | j + 1 => by simp [prs, prs_len L n j]
theorem prs_at (L : List Mem) (n : Int) : ∀ {m j : Nat}, j < m → (prs L n m).getD j (0, 0) = (shJ L n j, rmJ L n j)
  | m + 1, j, h => by
    by_cases e : j = m
    · subst e; simp [prs, prs_len]
    · have h1 := prs_at L n (show j < m by omega)
      have h2 : j < (prs L n m).length := by rw [prs_len]; omega
      show (prs L n m ++ [_]).getD j (0, 0) = _
      rw [← h1, List.getD_eq_getElem?_getD, List.getD_eq_getElem?_getD, List.getElem?_append_left h2]

set_option maxRecDepth 20000 in
set_option maxHeartbeats 2000000 in
theorem portions_any (w : World) (va : Option Addr) (vn vc K1 K2 : Nat) (L : List Mem) (n : Int) (hv : SeesG encM w (.slice va vn vc) L) (hK1 : Box w K1 #[.int .i64 n] 3) (hK2 : Box w K2 #[.int .i64 (needOf L)] 3) (hc : areCrew L = true) (hn : 0 ≤ n ∧ n ≤ 10000) :
    Calls Try.prog 60 #[.slice va vn vc, .func (.func 61) #[] #[.pointer (some ⟨K1, 0, none⟩), .pointer (some ⟨K2, 0, none⟩)]] w fun e w' => ∃ u, e = .returned u ∧ OwnG encP 83 w' w.heap.size u (prs L n L.length) ∧ w.grownBy w' none := by
  have hvn : L.length = vn := by obtain ⟨_, _, he, _⟩ := hv; injection he with _ h2 _; exact h2.symm
  have h8 := crew_len hc
  have hvn8 : vn ≤ 8 := by omega
  obtain ⟨i0, hi, hz0, hz1, hz2⟩ := info_parts info_div
  have HV := Lib.hid hv
  have HK1 := Lib.hid hK1
  have HK2 := Lib.hid hK2
  have HC := Lib.hid hc
  have HN := Lib.hid hn
  have HVN := Lib.hid hvn
  clear hv hK1 hK2 hc h8 hvn
  go_enter Try.func60, Try.ntmps60
  go_wp2_with (at_make; refine wpList_make_own _ rfl _ _ 80 rfl w.heap.size 83 i0 (.agg #[.int .i64 0, .int .i64 0]) 2 Try.underlying80 hi hz0 hz1 .i64 .i64 _ vn rfl rfl rfl (by rw [hz2]; omega) (by unfold maxLen; omega) (Nat.le_refl _) ?_; intro w1 hown hgrow; have HO : Hid (OwnG encP 83 w1 w.heap.size (.slice (some ⟨w.heap.size, 0, none⟩) 0 vn) (prs L n 0)) := ⟨hown, by simp [prs]⟩; have HG1 := Lib.hid hgrow; clear hown hgrow)
  go_loopw [5, 13] (fun u i wr => ∃ j : Nat, j ≤ vn ∧ i = .int .i64 j ∧ Hid (OwnG encP 83 wr w.heap.size u (prs L n j)) ∧ Hid (w.grownBy wr none)) (fun _ i _ => vn - (intOf i).toNat)
  case atStart => exact ⟨0, Nat.zero_le _, rfl, HO, HG1⟩
  case round =>
    rename_i _ wr
    obtain ⟨j, hj, rfl, HO2, HG⟩ := hrel
    by_cases hlt : j < vn
    · have hjl : j < L.length := by rw [HVN.out]; exact hlt
      have hsb := sh_bd HC.out HN.out hjl
      obtain ⟨b, o, rfl, _, _⟩ := HV.out.at_row hjl
      obtain ⟨x, hx⟩ : ∃ x, L.getD j zM = x := ⟨_, rfl⟩
      obtain ⟨d0, d1, d2, d3⟩ := atM_in HV.out HG.out hjl hx
      have hpp : n * (L.getD j dM).need = n * x.need := by rw [← hx]; rfl
      have hp1 : n * x.need / needOf L = shJ L n j := by rw [← hpp]; rfl
      have hp2 : n * x.need % needOf L = rmJ L n j := by rw [← hpp]; rfl
      rw [hpp] at hsb
      have HNN : Hid (0 < needOf L ∧ needOf L ≤ 800) := ⟨needOf_pos HC.out, (needOf_bound L).2⟩
      have HSB := Lib.hid hsb
      have HP1 := Lib.hid hp1
      have HP2 := Lib.hid hp2
      have HNX : Hid (prs L n (j + 1) = prs L n j ++ [(shJ L n j, rmJ L n j)]) := rfl
      have HLL := Lib.hid (prs_len L n j)
      obtain ⟨xi, xs, xn, xb⟩ := x
      dsimp only at d0 d1 d2 d3 HSB HP1 HP2
      have HGA := Lib.hid (World.grownBy_alloc wr (.cells #[.int .i64 xi, .int .i64 xs, .int .i64 xn, .bool xb] 75 (0, 0)) none)
      have HGW := Lib.hid (grownN_trans HG.out HGA.out)
      have HB8 : Hid (j < 8) := by show j < 8; omega
      clear hx hjl hsb hpp hp1 hp2
      go_wp2_with fail
      refine (one_any _ K1 K2 xi xs xn n (needOf L) xb (HK1.out.grown HGW.out) (HK2.out.grown HGW.out) ⟨HSB.out.1, HSB.out.2.1⟩ HNN.out).mono ?_
      rintro e w' ⟨rfl, hg⟩
      rw [HP1.out, HP2.out]
      have HO3 := Lib.hid (HO2.out.grown (grownN_trans HGA.out hg))
      have HG3 := Lib.hid (grownN_trans HGW.out hg)
      have HW1 := Lib.hid (i64_mk (n := shJ L n j) (by have := HSB.out; omega))
      have HW2 := Lib.hid (i64_mk (n := rmJ L n j) (by have := HSB.out; have := HNN.out; omega))
      obtain ⟨z1, hz1'⟩ : ∃ z1, z1 = shJ L n j := ⟨_, rfl⟩
      obtain ⟨z2, hz2'⟩ : ∃ z2, z2 = rmJ L n j := ⟨_, rfl⟩
      rw [← hz1', ← hz2'] at HNX
      rw [← hz1'] at HW1 ⊢
      rw [← hz2'] at HW2 ⊢
      clear hg d0 d1 d2 d3 HO2 HP1 HP2 HSB hz1' hz2'
      go_wp2_with (at_builtin; go_loud (refine wpListG_append_one (e := encP) _ rfl _ _ 80 rfl w.heap.size 83 i0 (.agg #[.int .i64 0, .int .i64 0]) 16 Try.underlying80 hi hz0 hz1 hz2 rfl _ (prs L n j) rfl HO3.out (z1, z2) #[.int .i64 z1, .int .i64 z2] rfl rfl ⟨HW1.out, HW2.out⟩ (by rw [HLL.out]; have := HB8.out; omega) (by decide) HG3.out.size ?_); intro v4 w4 hown hgrow hloc; have HO4 := Lib.hid hown; have HG4 := Lib.hid (grown_new HG3.out hgrow (fun c hc => (HO3.out.lt c hc).1)); clear hown hgrow hloc)
      go_roundw
      case rel => exact ⟨j + 1, by omega, by go_num, by rw [HNX.out]; exact HO4, HG4⟩
      case measure => simp [intOf]; omega
    · have hju : vn = j := by omega
      subst hju
      go_wp2
      go_ret
      exact ⟨_, rfl, by rw [HVN.out]; exact HO2.out, HG.out⟩

set_option maxHeartbeats 1000000 in
theorem rem_any (w : World) (a r : Int) :
    Calls Try.prog 64 #[.agg #[.int .i64 a, .int .i64 r]] w fun e w' => e = .returned (.int .i64 r) ∧ w.grownBy w' none := by
  have HG := Lib.hid (World.grownBy_alloc w (.cells #[.int .i64 a, .int .i64 r] 83 (0, 0)) none)
  go_enter Try.func64, Try.ntmps64
  go_wp2
  go_ret
  exact ⟨rfl, HG.out⟩

set_option maxRecDepth 20000 in
set_option maxHeartbeats 2000000 in
theorem sum_any (w : World) (v : Value) (L : List Mem) (n : Int) (m : Nat) (hm : m = L.length) (hv : SeesG encP w v (prs L n m)) (hc : areCrew L = true) (hn : 0 ≤ n ∧ n ≤ 10000) :
    Calls Try.prog 63 #[v, .func (.func 64) #[] #[]] w fun e w' => e = .returned (.int .i64 (rmT L n m)) ∧ w.grownBy w' none := by
  have hl := prs_len L n m
  obtain ⟨va, vn, vc, rfl, HVN⟩ := hv.shape
  have hvn : m = vn := by rw [← hl]; exact HVN.out
  have h8 := crew_len hc
  have HV := Lib.hid hv
  have HC := Lib.hid hc
  have HN := Lib.hid hn
  have HM := Lib.hid hm
  clear hv hc hn
  subst hvn
  have hm8 : m ≤ 8 := by omega
  clear hm h8
  go_enter Try.func63, Try.ntmps63
  go_wp2
  go_loopw [5, 10] (fun s i wr => ∃ j : Nat, j ≤ m ∧ i = .int .i64 j ∧ s = .int .i64 (rmT L n j) ∧ Hid (w.grownBy wr none)) (fun _ i _ => m - (intOf i).toNat)
  case atStart => exact ⟨0, Nat.zero_le _, rfl, rfl, World.grownBy.refl _ _⟩
  case round =>
    rename_i _ wr
    obtain ⟨j, hj, rfl, rfl, HG⟩ := hrel
    by_cases hlt : j < m
    · have hjl : j < L.length := by rw [← HM.out]; exact hlt
      have hsb := sh_bd HC.out HN.out hjl
      have hrb := rm_bd HC.out HN.out j (by omega)
      have hnb := needOf_bound L
      have hmul : needOf L * (j : Int) ≤ 800 * 8 := Int.mul_le_mul hnb.2 (by omega) (by omega) (by omega)
      obtain ⟨b, o, rfl, _, _⟩ := HV.out.at_row (show j < (prs L n m).length by rw [hl]; exact hlt)
      obtain ⟨d0, d1⟩ := atP_in HV.out HG.out (show j < (prs L n m).length by rw [hl]; exact hlt) (prs_at L n hlt)
      dsimp only at d0 d1
      obtain ⟨a, ha⟩ : ∃ a, a = shJ L n j := ⟨_, rfl⟩
      obtain ⟨r, hr⟩ : ∃ r, r = rmJ L n j := ⟨_, rfl⟩
      obtain ⟨q, hq⟩ : ∃ q, q = rmT L n j := ⟨_, rfl⟩
      have HNX : Hid (rmT L n (j + 1) = q + r) := by show _ = _; rw [rmT_next, ← hq, ← hr]
      rw [← ha] at d0
      rw [← hr] at d1 hsb
      rw [← hq] at hrb ⊢
      have hw : IntKind.i64.wrap (q + r) = q + r := IntWalk.i64_in _ (by omega)
      have HGA := Lib.hid (World.grownBy_alloc wr (.cells #[.int .i64 a, .int .i64 r] 83 (0, 0)) none)
      clear ha hr hq hsb hrb hnb hmul hjl
      go_wp2_with fail
      refine (rem_any _ a r).mono ?_
      rintro e w' ⟨rfl, hg⟩
      have HG3 := Lib.hid (grownN_trans HG.out (grownN_trans HGA.out hg))
      clear hg d0 d1
      go_wp2
      go_roundw
      case rel => exact ⟨j + 1, by omega, by go_num, by rw [HNX.out], HG3⟩
      case measure => simp [intOf]; omega
    · have hju : m = j := by omega
      subst hju
      go_wp2
      go_ret
      exact ⟨rfl, HG.out⟩
end Go.Proofs.Ytochohoihmfanaa.Shf
