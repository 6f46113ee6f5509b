/- Contract of the program's AreDepots. -/
import Derived.Test.YtkbgamfglofaiaaGreatG15
import Derived.Test.YtkbgamfglofaiaaGreatG20
import Derived.Test.YtkbgamfglofaiaaGreatRowM
import Derived.IntWalk
namespace Go.Proofs.YtkbgamfglofaiaaGreat.DepA
open Go.RowKit Kit Rw Rg Dep Md Ld LandI

def inb (n l h : Int) : Bool := decide (l ≤ n ∧ n ≤ h)
theorem inR_b (n l h : Int) (w : World) : Calls Tryz.prog 111 #[.int .i64 n, .int .i64 l, .int .i64 h] w fun e w' => e = .returned (.bool (inb n l h)) ∧ w = w' := inRange_any n l h w
theorem two {w : World} {b : Nat} {x y : Value} {T : TypeId} (h : Box w b #[x, y] T) : w.cell? ⟨b, 0, none⟩ = some x ∧ w.cell? ⟨b, 1, none⟩ = some y := ⟨h.cell 0, h.cell 1⟩

set_option maxRecDepth 20000 in
set_option maxHeartbeats 2000000 in
theorem iAreDepots_any (w : World) (W H : Int) (x : Value) (X : List Int) (v : Value) (L : List (Int × Int)) (hx : Sees .i64 w x X) (hv : SeesG encP w v L) :
    Calls Tryz.prog 70 #[.agg #[.int .i64 W, .int .i64 H, x], v] w fun e w' => e = .returned (.bool (areDep W H X L)) ∧ w.grownBy w' none := by
  have hl := hv.len
  have hg0 := World.grownBy_alloc w (.cells #[.int .i64 W, .int .i64 H, x] 36 (0, 0)) (none : Option Nat)
  have HB := Lib.hid (box_new w #[.int .i64 W, .int .i64 H, x] 36)
  have HX := Lib.hid (hx.grown hg0)
  have HV := Lib.hid (hv.grown hg0)
  have HG := Lib.hid hg0
  obtain ⟨a, cap, rfl, _⟩ := hv
  clear hx hg0
  obtain ⟨c0, c1, c2⟩ := HB.out.three
  have hA := fun w' hs => isLand_any w' W H x X hs
  cases hl0 : isLand W H X
  · simp only [hl0] at hA
    have HA := Lib.hid hA
    have HR : Hid (areDep W H X L = false) := dep_land hl0
    clear hA hl0
    go_enter Tryz.func70, Tryz.ntmps70
    go_wp2_with fail
    refine (HA.out _ HX.out).mono ?_
    rintro e w2 ⟨rfl, hg⟩
    have HG2 := Lib.hid (grownN_trans HG.out hg)
    clear hg
    go_wp2
    go_ret
    exact ⟨ret_bool HR.out.symm, HG2.out⟩
  · simp only [hl0] at hA
    have HA := Lib.hid hA
    have HLD := Lib.hid hl0
    clear hA hl0
    by_cases hlen : L.length ≤ 20
    · have HLE := Lib.hid hlen
      go_enter Tryz.func70, Tryz.ntmps70
      go_wp2_with fail
      refine (HA.out _ HX.out).mono ?_
      rintro e w2 ⟨rfl, hg⟩
      have HG2 := Lib.hid (grownN_trans HG.out hg)
      have HB2 := Lib.hid (HB.out.grown hg)
      have HX2 := Lib.hid (HX.out.grown hg)
      have HV2 := Lib.hid (HV.out.grown hg)
      clear hg c0 c1 c2 HB HX HV HG HA
      go_wp2
      go_loopw [5, 18] (fun p i wr => ∃ j : Nat, j ≤ L.length ∧ i = .int .i64 j ∧ p = .int .i64 (beforeD L j) ∧ Hid (upD W H X L j) ∧ Hid (w2.grownBy wr none)) (fun _ i _ => L.length - (intOf i).toNat)
      case atStart => exact ⟨0, Nat.zero_le _, rfl, rfl, upD_zero, World.grownBy.refl _ _⟩
      case round =>
        rename_i wr
        obtain ⟨j, hj, rfl, rfl, HU, HG3⟩ := hrel
        by_cases hlt : j < L.length
        · obtain ⟨b, o, rfl, _, _⟩ := HV2.out.at_row hlt
          obtain ⟨y, hy⟩ : ∃ y, L.getD j (0, 0) = y := ⟨_, rfl⟩
          obtain ⟨d0, d1⟩ := atP_in HV2.out HG3.out hlt hy
          have HY := Lib.hid hy
          have hbn : beforeD L (j + 1) = y.1 := by rw [← hy]; rfl
          have HBN := Lib.hid hbn
          clear hy hbn
          obtain ⟨yc, yf⟩ := y
          dsimp only at d0 d1
          obtain ⟨p, hp⟩ : ∃ p, p = beforeD L j := ⟨_, rfl⟩
          rw [← hp]
          have HP := Lib.hid hp
          clear hp
          have hA := World.grownBy_alloc wr (.cells #[.int .i64 yc, .int .i64 yf] 77 (0, 0)) (none : Option Nat)
          have HG4 := Lib.hid (grownN_trans HG3.out hA)
          have HBX := Lib.hid (box_new wr #[.int .i64 yc, .int .i64 yf] 77)
          obtain ⟨q0, q1⟩ := two HBX.out
          obtain ⟨c0, c1, c2⟩ := (HB2.out.grown HG4.out).three
          clear hA
          by_cases ho : yc ≤ p
          · have HR : Hid (areDep W H X L = false) := by
              have hp := HP.out
              match j, hp with
              | 0, hp =>
                refine dep_bad hlt (.inl ?_)
                rw [show dP = (0, 0) from rfl, HY.out]
                unfold okDep
                cases hop : isOpen W H X yc
                · rfl
                · have h0 := open_pos hop
                  simp only [beforeD] at hp
                  omega
              | k + 1, hp =>
                refine dep_bad hlt (.inr ⟨by omega, ?_⟩)
                rw [show dP = (0, 0) from rfl, HY.out, Nat.add_sub_cancel]
                have hp' : p = (L.getD k (0, 0)).1 := hp
                rw [← hp']
                dsimp only
                omega
            go_wp2
            go_ret
            exact ⟨ret_bool HR.out.symm, grownN_trans HG2.out HG4.out⟩
          · have hO := fun w' hs => isOpen_any w' W H yc x X hs
            cases hop : isOpen W H X yc
            · have HR : Hid (areDep W H X L = false) := dep_bad hlt (.inl (by rw [show dP = (0, 0) from rfl, HY.out]; unfold okDep; rw [hop]; rfl))
              simp only [hop] at hO
              have HO := Lib.hid hO
              clear hO hop
              go_wp2_with fail
              refine (HO.out _ (HX2.out.grown HG4.out)).mono ?_
              rintro e w5 ⟨rfl, hg⟩
              have HG5 := Lib.hid (grownN_trans HG4.out hg)
              clear hg
              go_wp2
              go_ret
              exact ⟨ret_bool HR.out.symm, grownN_trans HG2.out HG5.out⟩
            · have HOP := Lib.hid hop
              simp only [hop] at hO
              have HO := Lib.hid hO
              clear hO hop
              by_cases hf : 1 ≤ yf ∧ yf ≤ 10000
              · have hb : inb yf 1 10000 = true := decide_eq_true hf
                have HU2 : Hid (upD W H X L (j + 1)) := upD_next HU.out (by rw [show dP = (0, 0) from rfl, HY.out]; unfold okDep; rw [HOP.out, decide_eq_true hf]; rfl) (fun h0 => by
                  have hp := HP.out
                  match j, hp, h0 with
                  | k + 1, hp, _ =>
                    rw [show dP = (0, 0) from rfl, HY.out, Nat.add_sub_cancel]
                    have hp' : p = (L.getD k (0, 0)).1 := hp
                    rw [← hp']
                    dsimp only
                    omega)
                clear hf
                go_wp2_with fail
                refine (HO.out _ (HX2.out.grown HG4.out)).mono ?_
                rintro e w5 ⟨rfl, hg⟩
                have HG5 := Lib.hid (grownN_trans HG4.out hg)
                obtain ⟨r0, r1⟩ := two (HBX.out.grown hg)
                clear hg
                go_wp2_with fail
                refine (inR_b _ _ _ _).mono ?_
                rintro e w6 ⟨rfl, rfl⟩
                rw [hb]
                go_wp2
                go_roundw
                case rel => exact ⟨j + 1, by omega, by go_num, by rw [HBN.out], HU2, HG5⟩
                case measure => simp [intOf]; omega
              · have hb : inb yf 1 10000 = false := decide_eq_false hf
                have HR : Hid (areDep W H X L = false) := dep_bad hlt (.inl (by rw [show dP = (0, 0) from rfl, HY.out]; unfold okDep; rw [decide_eq_false hf, Bool.and_false]))
                clear hf
                go_wp2_with fail
                refine (HO.out _ (HX2.out.grown HG4.out)).mono ?_
                rintro e w5 ⟨rfl, hg⟩
                have HG5 := Lib.hid (grownN_trans HG4.out hg)
                obtain ⟨r0, r1⟩ := two (HBX.out.grown hg)
                clear hg
                go_wp2_with fail
                refine (inR_b _ _ _ _).mono ?_
                rintro e w6 ⟨rfl, rfl⟩
                rw [hb]
                go_wp2
                go_ret
                exact ⟨ret_bool HR.out.symm, grownN_trans HG2.out HG5.out⟩
        · have : j = L.length := by omega
          subst this
          have HR : Hid (areDep W H X L = true) := dep_yes HLD.out HLE.out HU.out
          go_wp2
          go_ret
          exact ⟨ret_bool HR.out.symm, grownN_trans HG2.out HG3.out⟩
    · have HR : Hid (areDep W H X L = false) := dep_long hlen
      go_enter Tryz.func70, Tryz.ntmps70
      go_wp2_with fail
      refine (HA.out _ HX.out).mono ?_
      rintro e w2 ⟨rfl, hg⟩
      have HG2 := Lib.hid (grownN_trans HG.out hg)
      clear hg
      go_wp2
      go_ret
      exact ⟨ret_bool HR.out.symm, HG2.out⟩
end Go.Proofs.YtkbgamfglofaiaaGreat.DepA
