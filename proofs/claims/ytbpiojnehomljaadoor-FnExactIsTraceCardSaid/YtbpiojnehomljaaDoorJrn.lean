/- Journals: plain facts, and the model's contracts of them. -/
import Derived.Test.YtbpiojnehomljaaDoorMBase
import Derived.Test.YtbpiojnehomljaaDoorRow4
import Derived.Test.YtbpiojnehomljaaDoorHs
import Derived.Test.YtbpiojnehomljaaDoorFour
import Derived.IntWalk
import Derived.WalkKit
import Derived.Deep.RegionHeld3
namespace Go.Proofs.YtbpiojnehomljaaDoor.Jrn
open Go.RowKit Kit Rw Rg Md Four Hs

def sealT (s : Int) (p : I4) : Int := hs 11 [s, p.x0, p.x1, p.x2]
def cov : I4 := ⟨-1, 0, 0, 0⟩
/-- A page that may follow another one. -/
def mf (b p : I4) : Bool := decide (b.x0 + 1 ≤ p.x0 ∧ p.x0 ≤ 10000 ∧ 0 ≤ p.x1 ∧ p.x1 ≤ 63 ∧ 0 ≤ p.x2 ∧ p.x2 ≤ 10000 ∧ p.x3 = sealT b.x3 p)
theorem mf_yes {b p : I4} (h : b.x0 + 1 ≤ p.x0 ∧ p.x0 ≤ 10000 ∧ 0 ≤ p.x1 ∧ p.x1 ≤ 63 ∧ 0 ≤ p.x2 ∧ p.x2 ≤ 10000 ∧ p.x3 = sealT b.x3 p) : mf b p = true := decide_eq_true h
theorem mf_no {b p : I4} (h : ¬ (b.x0 + 1 ≤ p.x0 ∧ p.x0 ≤ 10000 ∧ 0 ≤ p.x1 ∧ p.x1 ≤ 63 ∧ 0 ≤ p.x2 ∧ p.x2 ≤ 10000 ∧ p.x3 = sealT b.x3 p)) : mf b p = false := decide_eq_false h
theorem mf_out {b p : I4} (h : mf b p = true) : b.x0 + 1 ≤ p.x0 ∧ p.x0 ≤ 10000 ∧ 0 ≤ p.x1 ∧ p.x1 ≤ 63 ∧ 0 ≤ p.x2 ∧ p.x2 ≤ 10000 ∧ p.x3 = sealT b.x3 p := of_decide_eq_true h
def prev (L : List I4) (j : Nat) : I4 := if j = 0 then cov else L.getD (j - 1) zI4
theorem prev_zero (L : List I4) : prev L 0 = cov := rfl
theorem prev_succ (L : List I4) (j : Nat) : prev L (j + 1) = L.getD j zI4 := rfl
def okTo (L : List I4) (n : Nat) : Prop := ∀ j, j < n → mf (prev L j) (L.getD j zI4) = true
theorem okTo_zero (L : List I4) : okTo L 0 := fun _ h => by omega
theorem okTo_next {L : List I4} {n : Nat} (h : okTo L n) (k : mf (prev L n) (L.getD n zI4) = true) : okTo L (n + 1) := fun j hj => by
  by_cases e : j = n
  · rw [e]; exact k
  · exact h j (by omega)
theorem prev_bd {L : List I4} {n : Nat} (h : okTo L n) : -1 ≤ (prev L n).x0 ∧ (prev L n).x0 ≤ 10000 := by
  cases n with
  | zero => rw [prev_zero]; show (-1 : Int) ≤ -1 ∧ (-1 : Int) ≤ 10000; omega
  | succ n =>
    rw [prev_succ]
    have h1 := mf_out (h n (by omega))
    refine ⟨?_, h1.2.1⟩
    cases n with
    | zero => rw [prev_zero] at h1; have := h1.1; have e : cov.x0 = -1 := rfl; rw [e] at this; omega
    | succ n =>
      have h2 := prev_bd (L := L) (n := n + 1) (fun j hj => h j (by omega))
      omega
def isJ (L : List I4) : Bool := decide (L.length ≤ 100 ∧ ∀ j, j < L.length → mf (prev L j) (L.getD j zI4) = true)
theorem isJ_yes {L : List I4} (h : L.length ≤ 100) (ho : okTo L L.length) : isJ L = true := by unfold isJ; exact decide_eq_true ⟨h, ho⟩
theorem isJ_len {L : List I4} (h : ¬ L.length ≤ 100) : isJ L = false := decide_eq_false (fun e => h e.1)
theorem isJ_bad {L : List I4} {j : Nat} (hj : j < L.length) (h : mf (prev L j) (L.getD j zI4) = false) : isJ L = false :=
  decide_eq_false (fun e => by rw [e.2 j hj] at h; cases h)
theorem isJ_out {L : List I4} (h : isJ L = true) : L.length ≤ 100 ∧ okTo L L.length := by
  unfold isJ at h
  have := of_decide_eq_true h
  exact this
theorem okSeal {L : List I4} {n : Nat} (h : okTo L (n + 1)) : (L.getD n zI4).x3 = sealT (prev L n).x3 (L.getD n zI4) := (mf_out (h n (by omega))).2.2.2.2.2.2
theorem seal_in (s : Int) (p : I4) : InM (sealT s p) := hs_in _ (by unfold InM; omega)

theorem sees_four {E : TypeId} (w : World) (a b c d : Int) (ha : (Lit.int .i64 a).wf = true) (hb : (Lit.int .i64 b).wf = true) (hc : (Lit.int .i64 c).wf = true) (hd : (Lit.int .i64 d).wf = true) :
    Sees .i64 (w.alloc (.cells #[.int .i64 a, .int .i64 b, .int .i64 c, .int .i64 d] E (0, 0))) (.slice (some ⟨w.heap.size, 0, none⟩) 4 4) [a, b, c, d] := by
  refine ⟨_, 4, rfl, by simp, by unfold maxLen; omega, (fun h => by cases h), fun n hn => by
    simp only [List.mem_cons, List.not_mem_nil, or_false] at hn
    rcases hn with rfl | rfl | rfl | rfl
    · exact ha
    · exact hb
    · exact hc
    · exact hd, .inr ⟨_, _, rfl, fun j hj => ?_⟩⟩
  simp only [List.length_cons, List.length_nil] at hj
  obtain rfl | rfl | rfl | rfl : j = 0 ∨ j = 1 ∨ j = 2 ∨ j = 3 := by omega
  all_goals
    rw [World.cell?_alloc_new]
    simp

set_option maxRecDepth 20000 in
set_option maxHeartbeats 1000000 in
theorem sSeal_any (w : World) (s : Int) (p : I4) (hsw : (Lit.int .i64 s).wf = true) (hp : enc4.ok p) :
    Calls Tryd.prog 42 #[.int .i64 s, .agg #[.int .i64 p.x0, .int .i64 p.x1, .int .i64 p.x2, .int .i64 p.x3]] w fun e w' => e = .returned (.int .i64 (sealT s p)) ∧ w.grownBy w' none := by
  obtain ⟨x0, x1, x2, x3⟩ := p
  obtain ⟨h0, h1, h2, h3⟩ := hp
  dsimp only at h0 h1 h2 h3 ⊢
  have b0 := box_new w #[.int .i64 x0, .int .i64 x1, .int .i64 x2, .int .i64 x3] 42
  have HB := Lib.hid b0
  have HG := Lib.hid (World.grownBy_alloc w (.cells #[.int .i64 x0, .int .i64 x1, .int .i64 x2, .int .i64 x3] 42 (0, 0)) (none : Option Nat))
  have hH := sHash_any _ _ [s, x0, x1, x2] (sees_four (E := 3) (w.alloc (.cells #[.int .i64 x0, .int .i64 x1, .int .i64 x2, .int .i64 x3] 42 (0, 0))) s x0 x1 x2 hsw h0 h1 h2)
  obtain ⟨q, hq⟩ : ∃ q, q = hs 11 [s, x0, x1, x2] := ⟨_, rfl⟩
  rw [← hq, World.size_alloc] at hH
  rw [show sealT s ⟨x0, x1, x2, x3⟩ = q from hq.symm]
  have HH := Lib.hid hH
  clear hH hq
  obtain ⟨c0, c1, c2, c3⟩ := four b0
  clear b0 hsw h0 h1 h2 h3
  go_enter Tryd.func42, Tryd.ntmps42
  go_wp2_with fail
  refine HH.out.mono ?_
  rintro e w' ⟨rfl, rfl⟩
  go_wp2
  go_ret
  exact ⟨rfl, grownN_trans HG.out (World.grownBy_alloc _ _ _)⟩
end Go.Proofs.YtbpiojnehomljaaDoor.Jrn
