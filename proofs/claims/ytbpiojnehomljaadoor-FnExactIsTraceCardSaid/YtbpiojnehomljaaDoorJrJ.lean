/- Contracts of journals: the program's iterator over pages that are linked, and its whole test. -/
import Derived.Test.YtbpiojnehomljaaDoorJrI
namespace Go.Proofs.YtbpiojnehomljaaDoor.Jrn
open Go.RowKit Go.Shelf Kit Rw Rg Md Four Hs Rst
attribute [local go_sem] Oper.semAt_some

def vals : Array Value := #[.int .i64 (-1), .int .i64 0, .int .i64 0, .int .i64 0]
/-- In this world the cover holds what its initialiser has laid. -/
def VC (w : World) : Prop := ∀ i, w.cell? ⟨1, i, none⟩ = vals[i]?
theorem VC.lt {w : World} (h : VC w) : 1 < w.heap.size := by
  have h0 := h 0
  by_cases hc : 1 < w.heap.size
  · exact hc
  · simp only [World.cell?, Array.getElem?_eq_none (show w.heap.size ≤ 1 by omega)] at h0
    simp [vals] at h0
theorem VC.grown {w w' : World} (h : VC w) (hg : w.grownBy w' none) : VC w' := by
  intro i
  have hl := h.lt
  rw [← h i]
  simp only [World.cell?, hg.block _ hl (fun e => by cases e)]
def pair (L : List I4) (j : Nat) : I4 × I4 := (prev L j, L.getD j zI4)
def pairs (L : List I4) : List (I4 × I4) := (List.range L.length).map (pair L)
theorem pairs_at {L : List I4} {j : Nat} (h : j < L.length) : pairs L = (pairs L).take j ++ pair L j :: (pairs L).drop (j + 1) := by
  have hl : j < (pairs L).length := by simp [pairs]; exact h
  have he : (pairs L)[j]'hl = pair L j := by simp [pairs]
  rw [← he]
  exact (List.take_append_drop j (pairs L)).symm.trans (by rw [List.drop_eq_getElem_cons hl])
theorem pairs_next {L : List I4} {j : Nat} (h : j < L.length) : (pairs L).take j ++ [pair L j] = (pairs L).take (j + 1) := by
  have hl : j < (pairs L).length := by simp [pairs]; exact h
  have he : (pairs L)[j]'hl = pair L j := by simp [pairs]
  rw [← he, List.take_append_getElem]
def encs (x : I4 × I4) : Array Value := #[.agg #[.int .i64 x.1.x0, .int .i64 x.1.x1, .int .i64 x.1.x2, .int .i64 x.1.x3], .agg #[.int .i64 x.2.x0, .int .i64 x.2.x1, .int .i64 x.2.x2, .int .i64 x.2.x3]]
theorem K2.box {x y : Nat} {A B : World} {b : Nat} {cs : Array Value} {T : TypeId} (h : K2 x y A B) (hb : Box A b cs T) (h1 : b ≠ x) (h2 : b ≠ y) : Box B b cs T := (h.same b hb.lt h1 h2).trans hb

set_option maxRecDepth 100000 in
set_option maxHeartbeats 2000000 in
theorem iter_any (m : Nat) (W0 : World) (l LA Db : Nat) (a : Option Addr) (cap : Nat) (L : List I4) (hlen : L.length ≤ 1000000000) (hD : Box W0 Db #[.slice a L.length cap] 31) (hv : VC W0) (hs : ∀ W, K2 LA l W0 W → SeesG enc4 W (.slice a L.length cap) L) (hLA : LA < W0.heap.size) (hl : l < W0.heap.size)
    (J : List (I4 × I4) → World → Prop) (Jx : World → Prop) (hJ : ∀ s W W' row, J s W → W.grownBy W' row → (∀ r, row = some r → W0.heap.size ≤ r) → J s W') 
    (hY : ∀ pre x post W, pairs L = pre ++ x :: post → J pre W → YieldAt Fence.wide m Tryd.prog l (encs x) W fun e W' => (e = .returned (.bool true) ∧ J (pre ++ [x]) W' ∧ K2 LA l W W') ∨ (e = .returned (.bool false) ∧ Jx W')) (h0 : J [] W0) :
    CallsIn Fence.wide (m + 1) Tryd.prog 60 #[.func (.yield l) #[] #[], .pointer (some ⟨Db, 0, none⟩)] W0 fun e W' => (∃ v, e = .returned v) ∧ (J (pairs L) W' ∨ Jx W') := by
  have c0 := hv 0
  have c1 := hv 1
  have c2 := hv 2
  have c3 := hv 3
  simp only [vals, List.getElem?_toArray, List.getElem?_cons_succ, List.getElem?_cons_zero] at c0 c1 c2 c3
  have hg1 := World.grownBy_alloc W0 (.cells #[.int .i64 (-1), .int .i64 0, .int .i64 0, .int .i64 0] 42 (0, 0)) (none : Option Nat)
  have HB1 := Lib.hid (box_new W0 #[.int .i64 (-1), .int .i64 0, .int .i64 0, .int .i64 0] 42)
  have HG1 := Lib.hid hg1
  have e0 := (hD.grown hg1).cell 0
  have HS := Lib.hid hs
  have HY := Lib.hid hY
  clear hs hY hD hv hg1
  refine callsIn_of_wp Tryd.func60 rfl trivial ?_ rfl
  simp only [Tryd.ntmps60, List.size_toArray, List.length_cons, List.length_nil, Nat.reduceAdd, Nat.reduceSub, Array.replicate_succ, Array.replicate_zero, List.push_toArray, List.append_toArray, List.nil_append, List.cons_append]
  gi_wp2
  generalize W0.alloc (.cells #[.int .i64 (-1), .int .i64 0, .int .i64 0, .int .i64 0] 42 (0, 0)) = w1 at *
  gi_loopw [9] (fun i wr => ∃ j : Nat, j ≤ L.length ∧ i = .int .i64 (j : Int) ∧ Hid (Box wr W0.heap.size #[.int .i64 (prev L j).x0, .int .i64 (prev L j).x1, .int .i64 (prev L j).x2, .int .i64 (prev L j).x3] 42) ∧ Hid (K2 LA l W0 wr) ∧ Hid (J ((pairs L).take j) wr)) (fun i _ => L.length - (intOf i).toNat)
  case atStart => exact ⟨0, Nat.zero_le _, rfl, HB1.out, K2.of HG1.out (fun c e => by cases e), hJ [] _ _ none h0 HG1.out (fun _ e => by cases e)⟩
  case round =>
    rename_i wr
    obtain ⟨j, hj, rfl, HB, HK, HJ⟩ := hrel
    by_cases hlt : j < L.length
    · obtain ⟨b, o, rfl, _, _⟩ := (HS.out _ HK.out).at_row hlt
      obtain ⟨x, hx⟩ : ∃ x, L.getD j zI4 = x := ⟨_, rfl⟩
      obtain ⟨d0, d1, d2, d3⟩ := at4_in (HS.out _ HK.out) (World.grownBy.refl _ _) hlt hx
      have hpa := pairs_at hlt
      have hpn := pairs_next hlt
      unfold pair at hpa hpn
      obtain ⟨y, hy⟩ : ∃ y, prev L j = y := ⟨_, rfl⟩
      have hpx := prev_succ L j
      rw [hx] at hpa hpn hpx
      rw [hy] at HB hpa hpn
      have HPN := Lib.hid hpn
      have HPX := Lib.hid hpx
      have HG := Lib.hid (World.grownBy_alloc wr (.cells #[.int .i64 x.x0, .int .i64 x.x1, .int .i64 x.x2, .int .i64 x.x3] 42 (0, 0)) none)
      have HP := Lib.hid (box_new wr #[.int .i64 x.x0, .int .i64 x.x1, .int .i64 x.x2, .int .i64 x.x3] 42)
      have HBG := Lib.hid (HB.out.grown HG.out)
      have HY2 := Lib.hid (HY.out _ _ _ _ hpa (hJ _ _ _ none HJ.out HG.out (fun _ e => by cases e)))
      have HSZ : Hid (W0.heap.size < wr.heap.size) := HB.out.lt
      have HT : Hid (W0.heap.size ≠ LA ∧ W0.heap.size ≠ l) := ⟨by omega, by omega⟩
      have HT2 : Hid (wr.heap.size ≠ LA ∧ wr.heap.size ≠ l) := ⟨by have := HSZ.out; omega, by have := HSZ.out; omega⟩
      have HK1 := Lib.hid (HK.out.trans (K2.of (x := LA) (y := l) HG.out (fun c e => by cases e)))
      clear hx hy hpa hpn hpx
      obtain ⟨x0, x1, x2, x3⟩ := x
      obtain ⟨y0, y1, y2, y3⟩ := y
      unfold encs at HY2
      dsimp only at HPN HPX HG HP HBG HY2 HK1 d0 d1 d2 d3
      obtain ⟨p0, p1, p2, p3⟩ := four HP.out
      obtain ⟨q0, q1, q2, q3⟩ := four HBG.out
      obtain ⟨fn, tmps, assign, body, hyy, hR⟩ := HY2.out
      have hjI : (0 : Int) ≤ (j : Int) := by omega
      have hjl : (j : Int) < (L.length : Int) := by omega
      gi_wp2
      generalize wr.alloc (.cells #[.int .i64 x0, .int .i64 x1, .int .i64 x2, .int .i64 x3] 42 (0, 0)) = w2 at *
      refine hR.mono ?_
      rintro e W3 (⟨rfl, hJ3, hk3⟩ | ⟨rfl, hJx3⟩)
      · have HB3 := Lib.hid (K2.box hk3 HBG.out HT.out.1 HT.out.2)
        have HP3 := Lib.hid (K2.box hk3 HP.out HT2.out.1 HT2.out.2)
        have HK3 := Lib.hid (HK1.out.trans hk3)
        have HJ3 := Lib.hid hJ3
        clear p0 p1 p2 p3 q0 q1 q2 q3 hJ3 hk3 d0 d1 d2 d3 hyy hR
        obtain ⟨p0, p1, p2, p3⟩ := four HP3.out
        obtain ⟨⟨s0, z0⟩, ⟨s1, z1⟩, ⟨s2, z2⟩, ⟨s3, z3⟩⟩ := put4_on HB3.out (.int .i64 x0) (.int .i64 x1) (.int .i64 x2) (.int .i64 x3)
        have HPG := Lib.hid (put4_grown W3 W0.heap.size (.int .i64 x0) (.int .i64 x1) (.int .i64 x2) (.int .i64 x3))
        have HB4 := Lib.hid (put4_box (x' := .int .i64 x0) (y' := .int .i64 x1) (z' := .int .i64 x2) (u' := .int .i64 x3) HB3.out)
        gi_wp2
        go_roundw
        case rel => exact ⟨j + 1, by omega, by go_num, by rw [HPX.out]; exact HB4.out, HK3.out.new HPG.out (fun c e => by injection e with e; omega), by rw [← HPN.out]; exact hJ _ _ _ _ HJ3.out HPG.out (fun c e => by injection e with e; omega)⟩
        case measure => simp [intOf] <;> omega
      · gi_wp2
        refine bodyPost_ret (results_none rfl _ _ _) rfl ?_
        exact ⟨⟨_, rfl⟩, .inr hJx3⟩
    · have hjl : j = L.length := by omega
      have hnl : ¬ ((j : Int) < (L.length : Int)) := by omega
      have HE : Hid (J (pairs L) wr) := by
        have := HJ.out
        rwa [List.take_of_length_le (by simp [pairs]; omega)] at this
      gi_wp2
      go_end0
      exact ⟨⟨_, rfl⟩, .inl HE.out⟩
end Go.Proofs.YtbpiojnehomljaaDoor.Jrn
