/- Contracts of the rations' functions, of the program (over the package's table of rations) and of its model. -/
import Derived.Test.YtlhbnkjijggfaaaDoorMBase
import Derived.Test.YtlhbnkjijggfaaaDoorPlv
import Derived.Test.YtlhbnkjijggfaaaDoorCrI
import Derived.Test.YtlhbnkjijggfaaaDoorCrS
import Derived.Test.YtlhbnkjijggfaaaDoorFour
import Derived.IntWalk
import Derived.WalkKit
import Derived.Deep.RegionHeld3
namespace Go.Proofs.YtlhbnkjijggfaaaDoor.Rat
open Go.RowKit Kit Rw Rg Crw Md Four

def vals : Array Value := #[.string ⟨#[102, 117, 108, 108]⟩, .int .i64 1, .string ⟨#[104, 97, 108, 102]⟩, .int .i64 2, .string ⟨#[116, 104, 105, 114, 100]⟩, .int .i64 3]
/-- In this world the table of rations holds what its initialiser has laid. -/
def VW (w : World) : Prop := ∀ i, w.cell? ⟨2, i, none⟩ = vals[i]?
theorem VW.grown {w w' : World} (h : VW w) (hg : w.grownBy w' none) : VW w' := by
  intro i
  have h0 := h 0
  have hl : 2 < w.heap.size := by
    by_cases hc : 2 < w.heap.size
    · exact hc
    · simp only [World.cell?, Array.getElem?_eq_none (show w.heap.size ≤ 2 by omega)] at h0
      simp [vals] at h0
  rw [← h i]
  simp only [World.cell?, hg.block _ hl (fun e => by cases e)]

def nameOf (k : Int) : ByteArray := if k = 0 then ⟨#[102, 117, 108, 108]⟩ else if k = 1 then ⟨#[104, 97, 108, 102]⟩ else if k = 2 then ⟨#[116, 104, 105, 114, 100]⟩ else ⟨#[]⟩
def divOf (k : Int) : Int := if k = 0 then 1 else if k = 1 then 2 else if k = 2 then 3 else 0
theorem none_of {k : Int} (h : ¬ (0 ≤ k ∧ k ≤ 2)) : nameOf k = ⟨#[]⟩ ∧ divOf k = 0 := by
  unfold nameOf divOf
  rw [if_neg (by omega), if_neg (by omega), if_neg (by omega), if_neg (by omega), if_neg (by omega), if_neg (by omega)]
  exact ⟨rfl, rfl⟩
def needAt (L : List Mem) (k : Int) : Int := if 0 ≤ k ∧ k ≤ 2 then (needOf L + k) / (k + 1) else 0
theorem needAt_no {L : List Mem} {k : Int} (h : ¬ (0 ≤ k ∧ k ≤ 2)) : needAt L k = 0 := if_neg h
theorem needAt_yes {L : List Mem} {k : Int} (h : 0 ≤ k ∧ k ≤ 2) : needAt L k = (needOf L + k) / (k + 1) := if_pos h
theorem needAt_bound (L : List Mem) (k : Int) : 0 ≤ needAt L k ∧ needAt L k ≤ 900 := by
  have := needOf_bound L
  unfold needAt
  split
  · rename_i h
    refine ⟨Int.ediv_nonneg (by omega) (by omega), ?_⟩
    have := Int.ediv_le_self (k + 1) (show 0 ≤ needOf L + k by omega)
    omega
  · omega

def inb (n l h : Int) : Bool := decide (l ≤ n) && decide (n ≤ h)
theorem inb_yes {n l h : Int} (hn : l ≤ n ∧ n ≤ h) : inb n l h = true := by simp [inb, hn.1, hn.2]
theorem inb_no {n l h : Int} (hn : ¬ (l ≤ n ∧ n ≤ h)) : inb n l h = false := by simp [inb]; omega
theorem inR_b (n l h : Int) (w : World) :
    Calls Tryd.prog 63 #[.int .i64 n, .int .i64 l, .int .i64 h] w fun e w' => e = .returned (.bool (inb n l h)) ∧ w = w' := by
  by_cases h1 : l ≤ n
  · go_enter Tryd.func63, Tryd.ntmps63
    go_wp2
    go_ret
    exact ⟨by simp [inb, h1], rfl⟩
  · go_enter Tryd.func63, Tryd.ntmps63
    go_wp2
    go_ret
    exact ⟨by simp [inb]; omega, rfl⟩
theorem inS_b (n l h : Int) (w : World) :
    Calls Tryd.prog 54 #[.int .i64 n, .int .i64 l, .int .i64 h] w fun e w' => e = .returned (.bool (inb n l h)) ∧ w = w' := by
  by_cases h1 : l ≤ n
  · go_enter Tryd.func54, Tryd.ntmps54
    go_wp2
    go_ret
    exact ⟨by simp [inb, h1], rfl⟩
  · go_enter Tryd.func54, Tryd.ntmps54
    go_wp2
    go_ret
    exact ⟨by simp [inb]; omega, rfl⟩
theorem inR_yes {n l h : Int} (w : World) (hn : l ≤ n ∧ n ≤ h) :
    Calls Tryd.prog 63 #[.int .i64 n, .int .i64 l, .int .i64 h] w fun e w' => e = .returned (.bool true) ∧ w = w' := by
  have := inR_b n l h w
  rwa [inb_yes hn] at this
theorem inR_no {n l h : Int} (w : World) (hn : ¬ (l ≤ n ∧ n ≤ h)) :
    Calls Tryd.prog 63 #[.int .i64 n, .int .i64 l, .int .i64 h] w fun e w' => e = .returned (.bool false) ∧ w = w' := by
  have := inR_b n l h w
  rwa [inb_no hn] at this

set_option maxHeartbeats 400000 in
theorem iCeil_any (a b q : Int) (w : World) (ha : 0 ≤ a ∧ a ≤ 2000) (hb : 1 ≤ b ∧ b ≤ 8) (hq : (a + b - 1) / b = q) :
    Calls Tryd.prog 73 #[.int .i64 a, .int .i64 b] w fun e w' => e = .returned (.int .i64 q) ∧ w = w' := by
  have h1 : inb a 0 1000000000000 = true := inb_yes (by omega)
  have h2 : inb b 1 1000000000000 = true := inb_yes (by omega)
  have h3 : Int.tdiv (a + b - 1) b = q := by rw [← hq]; exact Int.tdiv_eq_ediv_of_nonneg (by omega)
  have hc : 0 ≤ q ∧ q ≤ 3000 := by
    rw [← hq]
    refine ⟨Int.ediv_nonneg (by omega) (by omega), ?_⟩
    have := Int.ediv_le_self b (show 0 ≤ a + b - 1 by omega)
    omega
  clear hq
  go_enter Tryd.func73, Tryd.ntmps73
  go_wp2_with (go_at_call 63; refine (inR_b _ _ _ _).mono ?_; rintro e w' ⟨rfl, rfl⟩)
  go_ret
  exact ⟨rfl, rfl⟩
set_option maxHeartbeats 400000 in
theorem sCeil_any (a b q : Int) (w : World) (ha : 0 ≤ a ∧ a ≤ 2000) (hb : 1 ≤ b ∧ b ≤ 8) (hq : (a + b - 1) / b = q) :
    Calls Tryd.prog 69 #[.int .i64 a, .int .i64 b] w fun e w' => e = .returned (.int .i64 q) ∧ w = w' := by
  have h1 : inb a 0 1000000000000 = true := inb_yes (by omega)
  have h2 : inb b 1 1000000000000 = true := inb_yes (by omega)
  have h3 : Int.tdiv (a + b - 1) b = q := by rw [← hq]; exact Int.tdiv_eq_ediv_of_nonneg (by omega)
  have hc : 0 ≤ q ∧ q ≤ 3000 := by
    rw [← hq]
    refine ⟨Int.ediv_nonneg (by omega) (by omega), ?_⟩
    have := Int.ediv_le_self b (show 0 ≤ a + b - 1 by omega)
    omega
  clear hq
  go_enter Tryd.func69, Tryd.ntmps69
  go_wp2_with (go_at_call 54; refine (inS_b _ _ _ _).mono ?_; rintro e w' ⟨rfl, rfl⟩)
  go_ret
  exact ⟨rfl, rfl⟩
theorem two {w : World} {b : Nat} {x y : Value} {T : TypeId} (h : Box w b #[x, y] T) : w.cell? ⟨b, 0, none⟩ = some x ∧ w.cell? ⟨b, 1, none⟩ = some y := ⟨h.cell 0, h.cell 1⟩
theorem two_set0 {w : World} {b : Nat} {x y u : Value} {t : TypeId} (h : Box w b #[x, y] t) : Box (w.setCell ⟨b, 0, none⟩ u) b #[u, y] t := by
  have hlt := h.lt
  have h' : w.heap[b] = .cells #[x, y] t (0, 0) := by have h := h; unfold Box at h; simpa [Array.getElem?_eq_getElem hlt] using h
  show (w.heap.modify b _)[b]? = _
  rw [Array.getElem?_eq_getElem (by simpa using hlt), Array.getElem_modify_self, h']
  rfl
theorem two_set1 {w : World} {b : Nat} {x y u : Value} {t : TypeId} (h : Box w b #[x, y] t) : Box (w.setCell ⟨b, 1, none⟩ u) b #[x, u] t := by
  have hlt := h.lt
  have h' : w.heap[b] = .cells #[x, y] t (0, 0) := by have h := h; unfold Box at h; simpa [Array.getElem?_eq_getElem hlt] using h
  show (w.heap.modify b _)[b]? = _
  rw [Array.getElem?_eq_getElem (by simpa using hlt), Array.getElem_modify_self, h']
  rfl
/-- A struct of two cells that is stored whole. -/
def put2 (w : World) (b : Nat) (x y : Value) : World := (w.setCell ⟨b, 0, none⟩ x).setCell ⟨b, 1, none⟩ y
theorem put2_grown (w : World) (b : Nat) (x y : Value) : w.grownBy (put2 w b x y) (some b) := grown_trans (grown_set w b 0 x) (grown_set _ b 1 y)
theorem put2_box {w : World} {b : Nat} {x y x' y' : Value} {T : TypeId} (h : Box w b #[x, y] T) : Box (put2 w b x' y') b #[x', y'] T := two_set1 (two_set0 h)
theorem put2_on {w : World} {b : Nat} {x y : Value} {T : TypeId} (h : Box w b #[x, y] T) (x' y' : Value) :
    (w.cell? ⟨b, 0, none⟩ = some x ∧ w.frozen? ⟨b, 0, none⟩ = false) ∧
    ((w.setCell ⟨b, 0, none⟩ x').cell? ⟨b, 1, none⟩ = some y ∧ (w.setCell ⟨b, 0, none⟩ x').frozen? ⟨b, 1, none⟩ = false) ∧
    (((w.setCell ⟨b, 0, none⟩ x').setCell ⟨b, 1, none⟩ y').cell? ⟨b, 0, none⟩ = some x' ∧ ((w.setCell ⟨b, 0, none⟩ x').setCell ⟨b, 1, none⟩ y').cell? ⟨b, 1, none⟩ = some y') := by
  have b1 := two_set0 (u := x') h
  have b2 := two_set1 (u := y') b1
  exact ⟨⟨h.cell 0, h.free 0⟩, ⟨b1.cell 1, b1.free 1⟩, two b2⟩

set_option maxRecDepth 20000 in
set_option maxHeartbeats 1000000 in
theorem at_any (w : World) (k : Int) (hv : VW w) :
    Calls Tryd.prog 72 #[.int .i64 k] w fun e w' => e = .returned (.agg #[.string (nameOf k), .int .i64 (divOf k)]) ∧ w.grownBy w' none := by
  have hg := World.grownBy_alloc w (.cells #[.string ⟨#[]⟩, .int .i64 0] 88 (0, 0)) (none : Option Nat)
  have hb := box_new w #[.string ⟨#[]⟩, .int .i64 0] 88
  have hV := hv.grown hg
  by_cases h : 0 ≤ k ∧ k ≤ 2
  · have HK := Lib.hid fun w => inR_yes (n := k) (l := 0) (h := 2) w h
    obtain ⟨m, rfl⟩ : ∃ m : Nat, k = m := ⟨k.toNat, by omega⟩
    have hm : m = 0 ∨ m = 1 ∨ m = 2 := by omega
    have h0 : vals[m * 2]? = some (.string (nameOf m)) := by obtain rfl | rfl | rfl := hm <;> rfl
    have h1 : vals[m * 2 + 1]? = some (.int .i64 (divOf m)) := by obtain rfl | rfl | rfl := hm <;> rfl
    have c0 := (hV (m * 2)).trans h0
    have c1 := (hV (m * 2 + 1)).trans h1
    have hl0 : (0 : Int) ≤ (m : Int) := by omega
    have hl3 : (m : Int) < 3 := by omega
    have hm3 : m < 3 := by omega
    obtain ⟨z, hz⟩ : ∃ z, z = nameOf m := ⟨_, rfl⟩
    obtain ⟨d, hd⟩ : ∃ d, d = divOf m := ⟨_, rfl⟩
    rw [← hz] at c0 ⊢
    rw [← hd] at c1 ⊢
    obtain ⟨⟨p0, r0⟩, ⟨p1, r1⟩, -⟩ := put2_on hb (.string z) (.int .i64 d)
    have HB := Lib.hid (box_new w #[.string z, .int .i64 d] 88)
    have HG := Lib.hid (World.grownBy_alloc w (.cells #[.string z, .int .i64 d] 88 (0, 0)) none)
    clear h hv hV hg hb hm h0 h1 hz hd
    go_enter Tryd.func72, Tryd.ntmps72
    go_wp2_with (go_at_call 63; refine (HK.out _).mono ?_; rintro e w' ⟨rfl, rfl⟩)
    try simp only [Exit.inBlock, Exit.then]
    exact ret_box rfl rfl HB.out Tryd.underlying88 rfl (by kernel_rfl) rfl ⟨rfl, HG.out⟩
  · have HR := Lib.hid (none_of h)
    have HK := Lib.hid fun w => inR_no (n := k) (l := 0) (h := 2) w h
    clear h hv hg hb hV
    go_enter Tryd.func72, Tryd.ntmps72
    go_wp2_with (go_at_call 63; refine (HK.out _).mono ?_; rintro e w' ⟨rfl, rfl⟩)
    try simp only [Exit.inBlock, Exit.then]
    exact ret_box rfl rfl (box_new w #[.string ⟨#[]⟩, .int .i64 0] 88) Tryd.underlying88 rfl (by kernel_rfl) rfl ⟨by rw [HR.out.1, HR.out.2], World.grownBy_alloc w _ none⟩

/-! the need -/
set_option maxRecDepth 20000 in
set_option maxHeartbeats 1000000 in
theorem sNeedAt_any (w : World) (v : Value) (L : List Mem) (k : Int) (hk : -9223372036854775808 ≤ k ∧ k ≤ 9223372036854775807) (hv : SeesG encM w v L) :
    Calls Tryd.prog 33 #[v, .int .i64 k] w fun e w' => e = .returned (.int .i64 (needAt L k)) ∧ w.grownBy w' none := by
  have HV := Lib.hid hv
  by_cases h : 0 ≤ k ∧ k ≤ 2
  · have HIN := Lib.hid fun w => l1In_yes (n := k) (l := 0) (h := 2) w h
    have HR := Lib.hid (needAt_yes (L := L) h)
    have hb := needOf_bound L
    have HC := Lib.hid fun w => sCeil_any (needOf L) (k + 1) ((needOf L + k) / (k + 1)) w (by omega) (by omega) (by congr 1; omega)
    clear hv hb
    go_enter Tryd.func33, Tryd.ntmps33
    go_wp2_with fail
    refine (HIN.out _).mono ?_
    rintro e w1 ⟨rfl, rfl⟩
    go_wp2_with fail
    refine (CrS.sNeedOf_any _ v L HV.out).mono ?_
    rintro e w2 ⟨rfl, hg⟩
    have HG := Lib.hid hg
    clear hg
    go_wp2_with fail
    refine (HC.out _).mono ?_
    rintro e w3 ⟨rfl, rfl⟩
    go_wp2
    go_ret
    exact ⟨ret_i64 HR.out.symm, HG.out⟩
  · have HIN := Lib.hid fun w => l1In_no (n := k) (l := 0) (h := 2) w h
    have HR := Lib.hid (needAt_no (L := L) h)
    clear hv h
    go_enter Tryd.func33, Tryd.ntmps33
    go_wp2_with fail
    refine (HIN.out _).mono ?_
    rintro e w1 ⟨rfl, rfl⟩
    go_wp2
    go_ret
    exact ⟨ret_i64 HR.out.symm, World.grownBy.refl _ _⟩

theorem named {k : Int} (h : 0 ≤ k ∧ k ≤ 2) : divOf k = k + 1 ∧ (nameOf k = ⟨#[]⟩) = False := by
  obtain rfl | rfl | rfl : k = 0 ∨ k = 1 ∨ k = 2 := by omega
  all_goals exact ⟨rfl, by simp [nameOf]⟩
set_option maxRecDepth 20000 in
set_option maxHeartbeats 2000000 in
theorem iNeedAt_any (w : World) (v : Value) (L : List Mem) (k : Int) (hk : -9223372036854775808 ≤ k ∧ k ≤ 9223372036854775807) (hv : SeesG encM w v L) (hw : VW w) :
    Calls Tryd.prog 35 #[v, .int .i64 k] w fun e w' => e = .returned (.int .i64 (needAt L k)) ∧ w.grownBy w' none := by
  have HV := Lib.hid hv
  have HA := Lib.hid (at_any w k hw)
  by_cases h : 0 ≤ k ∧ k ≤ 2
  · have HR := Lib.hid (needAt_yes (L := L) h)
    have hb := needOf_bound L
    have HC := Lib.hid fun w => iCeil_any (needOf L) (k + 1) ((needOf L + k) / (k + 1)) w (by omega) (by omega) (by congr 1; omega)
    rw [(named h).1] at HA
    have hne : nameOf k ≠ ⟨#[]⟩ := fun e => by have := (named h).2; rw [e] at this; simp at this
    obtain ⟨z, hz⟩ : ∃ z, z = nameOf k := ⟨_, rfl⟩
    rw [← hz] at HA hne
    have hnb : (z == ⟨#[]⟩) = false := by
      rw [hz]
      obtain rfl | rfl | rfl : k = 0 ∨ k = 1 ∨ k = 2 := by omega
      all_goals rfl
    clear hv hb hw
    go_enter Tryd.func35, Tryd.ntmps35
    go_wp2_with fail
    refine HA.out.mono ?_
    rintro e w1 ⟨rfl, hg⟩
    have HG := Lib.hid hg
    clear hg
    have HBX := Lib.hid (box_new w1 #[.string z, .int .i64 (k + 1)] 88)
    have HG1 := Lib.hid (grownN_trans HG.out (World.grownBy_alloc w1 (.cells #[.string z, .int .i64 (k + 1)] 88 (0, 0)) none))
    go_wp2_with fail
    rw [← hz]
    generalize w1.alloc (.cells #[.string z, .int .i64 (k + 1)] 88 (0, 0)) = w3 at *
    have HGD := Lib.hid (grown_drew HG1.out)
    have HBD := Lib.hid (HBX.out.grown (grown_drew (World.grownBy.refl w3 none)))
    have HVD := Lib.hid (HV.out.grown HGD.out)
    refine wp_region_held_drew (S := fun w' => w'.cell? ⟨w1.heap.size, 1, none⟩ = some (.int .i64 (k + 1))) (by kernel_rfl) (HBD.out.cell 1) (fun hHeld => ?_)
    refine wpAnyH_take (i := 0) (v := ?_) rfl (by kernel_rfl) (by kernel_rfl) (by kernel_rfl) (fun _ _ _ h => h) (Or.inl ⟨by rfl, ?_⟩) (by assumption) ?_; rotate_left; (focus (intro wS hSw; (try dsimp only at hSw); go_simp <;> with_reducible rfl)); (try simp only [Act.put, List.getElem_toArray, List.getElem_cons_succ, List.getElem_cons_zero, List.setIfInBounds_toArray, List.set_cons_zero, List.set_cons_succ])
    refine wpAnyH_take (i := 2) (v := ?_) rfl (by kernel_rfl) (by kernel_rfl) (by kernel_rfl) (fun _ _ _ h => h) (Or.inl ⟨by rfl, ?_⟩) (by assumption) ?_; rotate_left; (focus (intro wS hSw; (try dsimp only at hSw); go_simp <;> with_reducible rfl)); (try simp only [Act.put, List.getElem_toArray, List.getElem_cons_succ, List.getElem_cons_zero, List.setIfInBounds_toArray, List.set_cons_zero, List.set_cons_succ])
    refine wpAnyH_take (i := 3) (v := ?_) rfl (by kernel_rfl) (by kernel_rfl) (by kernel_rfl) (fun _ _ _ h => h) (Or.inl ⟨by rfl, ?_⟩) (by assumption) ?_; rotate_left; (focus (intro wS hSw; (try dsimp only at hSw); go_simp <;> with_reducible rfl)); (try simp only [Act.put, List.getElem_toArray, List.getElem_cons_succ, List.getElem_cons_zero, List.setIfInBounds_toArray, List.set_cons_zero, List.set_cons_succ])
    refine wpAnyH_ready (rs := [1]) (by kernel_rfl) (by simp) ?_; refine AllReadyH.cons rfl (fun K hK => ?_) AllReadyH.nil; go_simp; (go_at_call 74; refine (CrI.iNeedOf_any _ v L HVD.out).mono ?_; rintro e w4 ⟨rfl, hg⟩; have HG4 := Lib.hid (grownN_trans HGD.out hg); have HB4 := Lib.hid (HBD.out.grown hg); clear hg)
    refine hK.out _ _ ?_ (fun hHeld => ?_)
    · exact HB4.out.cell 1
    clear hK K
    (try simp only [Act.put, List.getElem_toArray, List.getElem_cons_succ, List.getElem_cons_zero, List.setIfInBounds_toArray, List.set_cons_zero, List.set_cons_succ])
    refine wpAnyH_ready (rs := [4]) (by kernel_rfl) (by simp) ?_; refine AllReadyH.cons rfl (fun K hK => ?_) AllReadyH.nil; go_simp; (go_at_call 73; refine (HC.out _).mono ?_; rintro e w5 ⟨rfl, rfl⟩)
    refine hK.out _ _ ?_ (fun hHeld => ?_)
    · exact HB4.out.cell 1
    clear hK K
    (try simp only [Act.put, List.getElem_toArray, List.getElem_cons_succ, List.getElem_cons_zero, List.setIfInBounds_toArray, List.set_cons_zero, List.set_cons_succ])
    refine wpAnyH_take (i := 5) (v := ?_) rfl (by kernel_rfl) (by kernel_rfl) (by kernel_rfl) (fun _ _ _ h => h) (Or.inl ⟨by rfl, ?_⟩) (by assumption) ?_; rotate_left; (focus (intro wS hSw; (try dsimp only at hSw); go_simp <;> with_reducible rfl)); (try simp only [Act.put, List.getElem_toArray, List.getElem_cons_succ, List.getElem_cons_zero, List.setIfInBounds_toArray, List.set_cons_zero, List.set_cons_succ])
    refine wpAnyH_done (by kernel_rfl) ?_ _
    (try simp only [Act.put, List.getElem_toArray, List.getElem_cons_succ, List.getElem_cons_zero, List.setIfInBounds_toArray, List.set_cons_zero, List.set_cons_succ])
    go_wp2
    go_ret
    exact ⟨ret_i64 HR.out.symm, HG4.out⟩
  · have HR := Lib.hid (needAt_no (L := L) h)
    rw [(none_of h).1, (none_of h).2] at HA
    clear hv hw h
    go_enter Tryd.func35, Tryd.ntmps35
    go_wp2_with fail
    refine HA.out.mono ?_
    rintro e w1 ⟨rfl, hg⟩
    have HG := Lib.hid hg
    clear hg
    go_wp2
    go_ret
    exact ⟨ret_i64 HR.out.symm, grownN_trans HG.out (World.grownBy_alloc _ _ _)⟩

/-! how long food lasts -/
def lastsAt (L : List Mem) (f k : Int) : Int := if needAt L k = 0 ∨ f < 0 then 0 else f / needAt L k
theorem quo_pos {f q : Int} (h0 : 0 ≤ f) (h1 : f ≤ 9223372036854775807) (hq : 0 < q) : f.tdiv q = f / q ∧ 0 ≤ f / q ∧ f / q ≤ f :=
  ⟨Int.tdiv_eq_ediv_of_nonneg h0, Int.ediv_nonneg h0 (by omega), Int.ediv_le_self _ h0⟩
theorem lastsAt_bd (L : List Mem) {f : Int} (k : Int) (hf : f ≤ 9223372036854775807) : 0 ≤ lastsAt L f k ∧ lastsAt L f k ≤ 9223372036854775807 := by
  have := needAt_bound L k
  unfold lastsAt
  split
  · omega
  · have := quo_pos (f := f) (q := needAt L k) (by omega) hf (by omega); omega

set_option maxRecDepth 20000 in
set_option maxHeartbeats 2000000 in
theorem sLasts_any (w : World) (n f : Int) (cv pv : Value) (L : List Mem) (k : Int) (hf : (Lit.int .i64 f).wf = true) (hk : -9223372036854775808 ≤ k ∧ k ≤ 9223372036854775807) (hc : SeesG encM w cv L) :
    Calls Tryd.prog 38 #[.agg #[.int .i64 n, .int .i64 f, cv, pv], .int .i64 k] w fun e w' => e = .returned (.int .i64 (lastsAt L f k)) ∧ w.grownBy w' none := by
  have g0 := World.grownBy_alloc w (.cells #[.int .i64 n, .int .i64 f, cv, pv] 50 (0, 0)) (none : Option Nat)
  have b0 := box_new w #[.int .i64 n, .int .i64 f, cv, pv] 50
  have HG := Lib.hid g0
  have HN := Lib.hid (sNeedAt_any _ cv L k hk (hc.grown g0))
  have B0 := Lib.hid b0
  obtain ⟨c0, c1, c2, c3⟩ := four b0
  have hfb := i64_of hf
  have hqb := needAt_bound L k
  obtain ⟨q, hq⟩ : ∃ q, q = needAt L k := ⟨_, rfl⟩
  rw [← hq] at HN hqb
  have HQ := Lib.hid hq
  clear hc g0 b0 hf hq
  by_cases h0 : q = 0
  · have HR : Hid (lastsAt L f k = 0) := by show _ = _; unfold lastsAt; rw [if_pos (.inl (by rw [← HQ.out]; exact h0))]
    subst h0
    go_enter Tryd.func38, Tryd.ntmps38
    go_wp2_with fail
    refine HN.out.mono ?_
    rintro e w2 ⟨rfl, hg⟩
    have HG2 := Lib.hid (grownN_trans HG.out hg)
    obtain ⟨c0, c1, c2, c3⟩ := four (B0.out.grown hg)
    clear hg
    go_wp2
    go_ret
    exact ⟨ret_i64 HR.out.symm, HG2.out⟩
  · have hqe : (q == 0) = false := by simpa using h0
    by_cases hn : f < 0
    · have HR : Hid (lastsAt L f k = 0) := by show _ = _; unfold lastsAt; rw [if_pos (.inr hn)]
      go_enter Tryd.func38, Tryd.ntmps38
      go_wp2_with fail
      refine HN.out.mono ?_
      rintro e w2 ⟨rfl, hg⟩
      have HG2 := Lib.hid (grownN_trans HG.out hg)
      obtain ⟨c0, c1, c2, c3⟩ := four (B0.out.grown hg)
      clear hg
      go_wp2
      go_ret
      exact ⟨ret_i64 HR.out.symm, HG2.out⟩
    · have HR : Hid (lastsAt L f k = f / q) := by show _ = _; unfold lastsAt; rw [if_neg (by rw [← HQ.out]; omega), HQ.out]
      have hw := quo_pos (f := f) (q := q) (by omega) hfb.2 (by omega)
      have hw2 := hw.1
      have hw3 : IntKind.i64.wrap (f / q) = f / q := IntWalk.i64_in _ (by omega)
      go_enter Tryd.func38, Tryd.ntmps38
      go_wp2_with fail
      refine HN.out.mono ?_
      rintro e w2 ⟨rfl, hg⟩
      have HG2 := Lib.hid (grownN_trans HG.out hg)
      obtain ⟨c0, c1, c2, c3⟩ := four (B0.out.grown hg)
      clear hg
      go_wp2
      go_ret
      exact ⟨ret_i64 HR.out.symm, HG2.out⟩

set_option maxRecDepth 20000 in
set_option maxHeartbeats 2000000 in
theorem iLasts_any (w : World) (n f : Int) (cv pv : Value) (L : List Mem) (k : Int) (hf : (Lit.int .i64 f).wf = true) (hk : -9223372036854775808 ≤ k ∧ k ≤ 9223372036854775807) (hc : SeesG encM w cv L) (hv : VW w) :
    Calls Tryd.prog 40 #[.agg #[.int .i64 n, .int .i64 f, cv, pv], .int .i64 k] w fun e w' => e = .returned (.int .i64 (lastsAt L f k)) ∧ w.grownBy w' none := by
  have g0 := World.grownBy_alloc w (.cells #[.int .i64 n, .int .i64 f, cv, pv] 50 (0, 0)) (none : Option Nat)
  have b0 := box_new w #[.int .i64 n, .int .i64 f, cv, pv] 50
  have HG := Lib.hid g0
  have HN := Lib.hid (iNeedAt_any _ cv L k hk (hc.grown g0) (hv.grown g0))
  have B0 := Lib.hid b0
  obtain ⟨c0, c1, c2, c3⟩ := four b0
  have hfb := i64_of hf
  have hqb := needAt_bound L k
  obtain ⟨q, hq⟩ : ∃ q, q = needAt L k := ⟨_, rfl⟩
  rw [← hq] at HN hqb
  have HQ := Lib.hid hq
  clear hc g0 b0 hf hq hv
  by_cases h0 : q = 0
  · have HR : Hid (lastsAt L f k = 0) := by show _ = _; unfold lastsAt; rw [if_pos (.inl (by rw [← HQ.out]; exact h0))]
    subst h0
    go_enter Tryd.func40, Tryd.ntmps40
    go_wp2_with fail
    refine HN.out.mono ?_
    rintro e w2 ⟨rfl, hg⟩
    have HG2 := Lib.hid (grownN_trans HG.out hg)
    obtain ⟨c0, c1, c2, c3⟩ := four (B0.out.grown hg)
    clear hg
    go_wp2
    go_ret
    exact ⟨ret_i64 HR.out.symm, HG2.out⟩
  · have hqe : (q == 0) = false := by simpa using h0
    by_cases hn : f < 0
    · have HR : Hid (lastsAt L f k = 0) := by show _ = _; unfold lastsAt; rw [if_pos (.inr hn)]
      go_enter Tryd.func40, Tryd.ntmps40
      go_wp2_with fail
      refine HN.out.mono ?_
      rintro e w2 ⟨rfl, hg⟩
      have HG2 := Lib.hid (grownN_trans HG.out hg)
      obtain ⟨c0, c1, c2, c3⟩ := four (B0.out.grown hg)
      clear hg
      go_wp2
      go_ret
      exact ⟨ret_i64 HR.out.symm, HG2.out⟩
    · have HR : Hid (lastsAt L f k = f / q) := by show _ = _; unfold lastsAt; rw [if_neg (by rw [← HQ.out]; omega), HQ.out]
      have hw := quo_pos (f := f) (q := q) (by omega) hfb.2 (by omega)
      have hw2 := hw.1
      have hw3 : IntKind.i64.wrap (f / q) = f / q := IntWalk.i64_in _ (by omega)
      go_enter Tryd.func40, Tryd.ntmps40
      go_wp2_with fail
      refine HN.out.mono ?_
      rintro e w2 ⟨rfl, hg⟩
      have HG2 := Lib.hid (grownN_trans HG.out hg)
      obtain ⟨c0, c1, c2, c3⟩ := four (B0.out.grown hg)
      clear hg
      go_wp2
      go_ret
      exact ⟨ret_i64 HR.out.symm, HG2.out⟩
end Go.Proofs.YtlhbnkjijggfaaaDoor.Rat
