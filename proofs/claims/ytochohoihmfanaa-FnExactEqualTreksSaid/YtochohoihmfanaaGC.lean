/- The comparison of expeditions: two texts in one. -/
import Derived.Test.YtochohoihmfanaaEqV
import Derived.Deep.QuietTactic
import Derived.BigQuiet
/- The comparison of expeditions: the model's lists. -/
namespace Go.Proofs.Ytochohoihmfanaa.EqS
open Go.RowKit Kit Rw Rg Crw Four EqM EqR EqT EqU EqV

def lists (D D' : List (Int × Int)) (J J' : List I4) : Bool := decide (D = D') && decide (J = J')
set_option maxRecDepth 20000 in
set_option maxHeartbeats 4000000 in
theorem sLists_any (w : World) (W H b m rn n f dy gv ea W' H' b' m' rn' n' f' dy' gv' ea' : Int) (xv dv cv pv jv xv' dv' cv' pv' jv' : Value) (X X' : List Int) (D D' : List (Int × Int)) (L L' : List Mem) (P P' : List Bool) (J J' : List I4) (hx : Sees .i64 w xv X) (hx' : Sees .i64 w xv' X') (hd : SeesG encP w dv D) (hd' : SeesG encP w dv' D') (hl : SeesG encM w cv L) (hl' : SeesG encM w cv' L') (hp : SeesG encB w pv P) (hp' : SeesG encB w pv' P') (hj : SeesG enc4 w jv J) (hj' : SeesG enc4 w jv' J') :
    Calls Try.prog 106 #[.agg #[.int .i64 W, .int .i64 H, xv, .int .i64 b, .int .i64 m, .int .i64 rn, dv, .int .i64 n, .int .i64 f, cv, pv, jv, .int .i64 dy, .int .i64 gv, .int .i64 ea], .agg #[.int .i64 W', .int .i64 H', xv', .int .i64 b', .int .i64 m', .int .i64 rn', dv', .int .i64 n', .int .i64 f', cv', pv', jv', .int .i64 dy', .int .i64 gv', .int .i64 ea']] w fun e w' => e = .returned (.bool (lists D D' J J')) ∧ w.grownBy w' none := by
  have hdl := hd.len
  have hjl := hj.len
  have hdl' := hd'.len
  have hjl' := hj'.len
  obtain ⟨da, dn, dc, rfl, HDN⟩ := hd.shape
  obtain ⟨da', dn', dc', rfl, HDN'⟩ := hd'.shape
  obtain ⟨ja, jn, jc, rfl, HJN⟩ := hj.shape
  obtain ⟨ja', jn', jc', rfl, HJN'⟩ := hj'.shape
  rw [HDN.out] at hdl
  rw [HDN'.out] at hdl'
  rw [HJN.out] at hjl
  rw [HJN'.out] at hjl'
  have g0 := World.grownBy_alloc w (.cells #[.int .i64 W, .int .i64 H, xv, .int .i64 b, .int .i64 m, .int .i64 rn, .slice da dn dc, .int .i64 n, .int .i64 f, cv, pv, .slice ja jn jc, .int .i64 dy, .int .i64 gv, .int .i64 ea] 67 (0, 0)) (none : Option Nat)
  have g1 := World.grownBy_alloc (w.alloc (.cells #[.int .i64 W, .int .i64 H, xv, .int .i64 b, .int .i64 m, .int .i64 rn, .slice da dn dc, .int .i64 n, .int .i64 f, cv, pv, .slice ja jn jc, .int .i64 dy, .int .i64 gv, .int .i64 ea] 67 (0, 0))) (.cells #[.int .i64 W', .int .i64 H', xv', .int .i64 b', .int .i64 m', .int .i64 rn', .slice da' dn' dc', .int .i64 n', .int .i64 f', cv', pv', .slice ja' jn' jc', .int .i64 dy', .int .i64 gv', .int .i64 ea'] 67 (0, 0)) (none : Option Nat)
  have b0 := (box_new w #[.int .i64 W, .int .i64 H, xv, .int .i64 b, .int .i64 m, .int .i64 rn, .slice da dn dc, .int .i64 n, .int .i64 f, cv, pv, .slice ja jn jc, .int .i64 dy, .int .i64 gv, .int .i64 ea] 67).grown g1
  have b1 := box_new (w.alloc (.cells #[.int .i64 W, .int .i64 H, xv, .int .i64 b, .int .i64 m, .int .i64 rn, .slice da dn dc, .int .i64 n, .int .i64 f, cv, pv, .slice ja jn jc, .int .i64 dy, .int .i64 gv, .int .i64 ea] 67 (0, 0))) #[.int .i64 W', .int .i64 H', xv', .int .i64 b', .int .i64 m', .int .i64 rn', .slice da' dn' dc', .int .i64 n', .int .i64 f', cv', pv', .slice ja' jn' jc', .int .i64 dy', .int .i64 gv', .int .i64 ea'] 67
  simp only [World.size_alloc] at b1
  have hg := grownN_trans g0 g1
  have HS := Lib.hid (show ES w _ W H b m rn n f dy gv ea W' H' b' m' rn' n' f' dy' gv' ea' xv (.slice da dn dc) cv pv (.slice ja jn jc) xv' (.slice da' dn' dc') cv' pv' (.slice ja' jn' jc') X X' D D' L L' P P' J J' from ⟨b0, b1, hx.grown hg, hx'.grown hg, hd.grown hg, hd'.grown hg, hl.grown hg, hl'.grown hg, hp.grown hg, hp'.grown hg, hj.grown hg, hj'.grown hg, hg⟩)
  clear g0 g1 b0 b1 hg hx hx' hd hd' hl hl' hp hp' hj hj'
  by_cases hD : dn = dn'
  · subst hD
    by_cases hJ : jn = jn'
    · subst hJ
      have HD := Lib.hid (HDN.out.trans HDN'.out.symm)
      have HJ := Lib.hid (HJN.out.trans HJN'.out.symm)
      go_enter Try.func106, Try.ntmps106
      go_wp2
      go_loopw [5] (fun i wr => ∃ k : Nat, k ≤ dn ∧ i = .int .i64 k ∧ Hid (∀ m, m < k → D.getD m (0, 0) = D'.getD m (0, 0)) ∧ Hid (ES w wr W H b m rn n f dy gv ea W' H' b' m' rn' n' f' dy' gv' ea' xv (.slice da dn dc) cv pv (.slice ja jn jc) xv' (.slice da' dn dc') cv' pv' (.slice ja' jn jc') X X' D D' L L' P P' J J')) (fun i _ => dn - (intOf i).toNat)
      case atStart => exact ⟨0, Nat.zero_le _, rfl, fun m hm => absurd hm (Nat.not_lt_zero _), HS⟩
      case round =>
        obtain ⟨k, hk, rfl, HE, HK⟩ := hrel
        have c6 := HK.out.a.cell 6
        have d6 := HK.out.c.cell 6
        simp only [List.getElem?_toArray, List.getElem?_cons_succ, List.getElem?_cons_zero] at c6 d6
        by_cases hlt : k < dn
        · have hlx : k < D.length := by rw [HDN.out]; exact hlt
          have hly : k < D'.length := by rw [HDN'.out]; exact hlt
          obtain ⟨b1, o1, rfl, _, _⟩ := HK.out.d.at_row hlx
          obtain ⟨b2, o2, rfl, _, _⟩ := HK.out.d'.at_row hly
          obtain ⟨x, hx⟩ : ∃ x, D.getD k (0, 0) = x := ⟨_, rfl⟩
          obtain ⟨y, hy⟩ : ∃ y, D'.getD k (0, 0) = y := ⟨_, rfl⟩
          obtain ⟨u0, u1⟩ := atP_in HK.out.d (World.grownBy.refl wr none) hlx hx
          obtain ⟨e0, e1⟩ := atP_in HK.out.d' (World.grownBy.refl wr none) hly hy
          have hq := fun w => run_eqD w x y
          have HX := Lib.hid hx
          have HY := Lib.hid hy
          clear hx hy
          by_cases hne : x = y
          · rw [decide_eq_true hne] at hq
            have HNE := Lib.hid hne
            obtain ⟨xi, xs⟩ := x
            obtain ⟨yi, ys⟩ := y
            unfold dval at hq
            dsimp only at u0 u1 e0 e1 hq
            have hb : ∀ w, (binOp .neq 115 (.agg #[.int .i64 xi, .int .i64 xs]) (.agg #[.int .i64 yi, .int .i64 ys])).run Try.prog w = .ok (.bool false) w := fun w => by rw [run_neq_struct, hq]; rfl
            clear hq hne
            go_wp2
            go_quiet (fail)
            go_wp2
            go_roundw
            case rel =>
              refine ⟨k + 1, by omega, by go_num, fun m hm => ?_, Lib.hid (HK.out.on (grown_drewN (World.grownBy.refl _ none) _))⟩
              by_cases h : m = k
              · subst h; rw [HX.out, HY.out]; exact HNE.out
              · exact HE.out m (by omega)
            case measure => simp [intOf]; omega
          · rw [decide_eq_false hne] at hq
            have HR : Hid (lists D D' J J' = false) := by
              show _ = _; unfold lists; rw [decide_eq_false (fun h => hne (by rw [← HX.out, ← HY.out, h]))]; rfl
            obtain ⟨xi, xs⟩ := x
            obtain ⟨yi, ys⟩ := y
            unfold dval at hq
            dsimp only at u0 u1 e0 e1 hq
            have hb : ∀ w, (binOp .neq 115 (.agg #[.int .i64 xi, .int .i64 xs]) (.agg #[.int .i64 yi, .int .i64 ys])).run Try.prog w = .ok (.bool true) w := fun w => by rw [run_neq_struct, hq]; rfl
            clear hq hne
            go_wp2
            go_quiet (fail)
            go_wp2
            go_ret
            exact ⟨ret_bool HR.out.symm, grown_drewN HK.out.g _⟩
        · have HDD : Hid (D = D') := listG_same (0, 0) HD.out (fun m hm => HE.out m (by have := HDN'.out; omega))
          have HKK := HK
          clear HK HE
          go_wp2
          clear c6 d6
          go_loopw [6] (fun i wy => ∃ k : Nat, k ≤ jn ∧ i = .int .i64 k ∧ Hid (∀ m, m < k → J.getD m zI4 = J'.getD m zI4) ∧ Hid (ES w wy W H b m rn n f dy gv ea W' H' b' m' rn' n' f' dy' gv' ea' xv (.slice da dn dc) cv pv (.slice ja jn jc) xv' (.slice da' dn dc') cv' pv' (.slice ja' jn jc') X X' D D' L L' P P' J J')) (fun i _ => jn - (intOf i).toNat)
          case atStart => exact ⟨0, Nat.zero_le _, rfl, fun m hm => absurd hm (Nat.not_lt_zero _), HKK⟩
          case round =>
            obtain ⟨k2, hk2, rfl, HE, HK⟩ := hrel
            have c11 := HK.out.a.cell 11
            have d11 := HK.out.c.cell 11
            simp only [List.getElem?_toArray, List.getElem?_cons_succ, List.getElem?_cons_zero] at c11 d11
            by_cases hlt : k2 < jn
            · have hlx : k2 < J.length := by rw [HJN.out]; exact hlt
              have hly : k2 < J'.length := by rw [HJN'.out]; exact hlt
              obtain ⟨b1, o1, rfl, _, _⟩ := HK.out.j.at_row hlx
              obtain ⟨b2, o2, rfl, _, _⟩ := HK.out.j'.at_row hly
              obtain ⟨x, hx⟩ : ∃ x, J.getD k2 zI4 = x := ⟨_, rfl⟩
              obtain ⟨y, hy⟩ : ∃ y, J'.getD k2 zI4 = y := ⟨_, rfl⟩
              obtain ⟨u0, u1, u2, u3⟩ := at4_in HK.out.j (World.grownBy.refl _ none) hlx hx
              obtain ⟨e0, e1, e2, e3⟩ := at4_in HK.out.j' (World.grownBy.refl _ none) hly hy
              have hq := fun w => run_eqG w x y
              have HX := Lib.hid hx
              have HY := Lib.hid hy
              clear hx hy
              by_cases hne : x = y
              · rw [decide_eq_true hne] at hq
                have HNE := Lib.hid hne
                obtain ⟨xi, xs, xn, xb⟩ := x
                obtain ⟨yi, ys, yn, yb⟩ := y
                unfold gval at hq
                dsimp only at u0 u1 u2 u3 e0 e1 e2 e3 hq
                have hb : ∀ w, (binOp .neq 117 (.agg #[.int .i64 xi, .int .i64 xs, .int .i64 xn, .int .i64 xb]) (.agg #[.int .i64 yi, .int .i64 ys, .int .i64 yn, .int .i64 yb])).run Try.prog w = .ok (.bool false) w := fun w => by rw [run_neq_struct, hq]; rfl
                clear hq hne
                go_wp2
                go_quiet (fail)
                go_wp2
                go_roundw
                case rel =>
                  refine ⟨k2 + 1, by omega, by go_num, fun m hm => ?_, Lib.hid (HK.out.on (grown_drewN (World.grownBy.refl _ none) _))⟩
                  by_cases h : m = k2
                  · subst h; rw [HX.out, HY.out]; exact HNE.out
                  · exact HE.out m (by omega)
                case measure => simp [intOf]; omega
              · rw [decide_eq_false hne] at hq
                have HR : Hid (lists D D' J J' = false) := by
                  show _ = _; unfold lists; rw [decide_eq_false (show ¬ J = J' from fun h => hne (by rw [← HX.out, ← HY.out, h]))]; simp
                obtain ⟨xi, xs, xn, xb⟩ := x
                obtain ⟨yi, ys, yn, yb⟩ := y
                unfold gval at hq
                dsimp only at u0 u1 u2 u3 e0 e1 e2 e3 hq
                have hb : ∀ w, (binOp .neq 117 (.agg #[.int .i64 xi, .int .i64 xs, .int .i64 xn, .int .i64 xb]) (.agg #[.int .i64 yi, .int .i64 ys, .int .i64 yn, .int .i64 yb])).run Try.prog w = .ok (.bool true) w := fun w => by rw [run_neq_struct, hq]; rfl
                clear hq hne
                go_wp2
                go_quiet (fail)
                go_wp2
                go_ret
                exact ⟨ret_bool HR.out.symm, grown_drewN HK.out.g _⟩
            · have HJJ : Hid (J = J') := listG_same zI4 HJ.out (fun m hm => HE.out m (by have := HJN'.out; omega))
              have HR : Hid (lists D D' J J' = true) := by
                show _ = _; unfold lists; rw [decide_eq_true HDD.out, decide_eq_true HJJ.out]; rfl
              go_wp2
              go_ret
              exact ⟨ret_bool HR.out.symm, HK.out.g⟩
    · have HR : Hid (lists D D' J J' = false) := by
        show _ = _; unfold lists; rw [decide_eq_false (show ¬ J = J' from fun h => hJ (by rw [← HJN.out, ← HJN'.out, h]))]; simp
      go_enter Try.func106, Try.ntmps106
      go_wp2
      go_ret
      exact ⟨ret_bool HR.out.symm, HS.out.g⟩
  · have HR : Hid (lists D D' J J' = false) := by
      show _ = _; unfold lists; rw [decide_eq_false (fun h => hD (by rw [← HDN.out, ← HDN'.out, h]))]; rfl
    go_enter Try.func106, Try.ntmps106
    go_wp2
    go_ret
    exact ⟨ret_bool HR.out.symm, HS.out.g⟩
end Go.Proofs.Ytochohoihmfanaa.EqS

/- The comparison of expeditions: the model's. -/
namespace Go.Proofs.Ytochohoihmfanaa.EqW
open Go.RowKit Kit Rw Rg Crw Four EqM EqR EqT EqU EqV

def eqS (W H b m rn n f dy gv ea W' H' b' m' rn' n' f' dy' gv' ea' : Int) (X X' : List Int) (D D' : List (Int × Int)) (L L' : List Mem) (P P' : List Bool) (J J' : List I4) : Bool := (decide (W = W') && (decide (H = H') && (decide (X = X') && (decide (b = b') && ((decide (m = m') && decide (rn = rn')) && (Pb.eqP n f L P n' f' L' P' && (decide (dy = dy') && (decide (gv = gv') && (decide (ea = ea') && EqS.lists D D' J J')))))))))
theorem eqS_T (W H b m rn n f dy gv ea W' H' b' m' rn' n' f' dy' gv' ea' : Int) (X X' : List Int) (D D' : List (Int × Int)) (L L' : List Mem) (P P' : List Bool) (J J' : List I4) : eqS W H b m rn n f dy gv ea W' H' b' m' rn' n' f' dy' gv' ea' X X' D D' L L' P P' J J' = eqT W H b m rn n f dy gv ea W' H' b' m' rn' n' f' dy' gv' ea' X X' D D' L L' P P' J J' := by
  unfold eqS eqT eqL EqS.lists
  ac_rfl

set_option maxRecDepth 20000 in
set_option maxHeartbeats 8000000 in
theorem sEqT_any (w : World) (W H b m rn n f dy gv ea W' H' b' m' rn' n' f' dy' gv' ea' : Int) (xv dv cv pv jv xv' dv' cv' pv' jv' : Value) (X X' : List Int) (D D' : List (Int × Int)) (L L' : List Mem) (P P' : List Bool) (J J' : List I4) (hx : Sees .i64 w xv X) (hx' : Sees .i64 w xv' X') (hd : SeesG encP w dv D) (hd' : SeesG encP w dv' D') (hl : SeesG encM w cv L) (hl' : SeesG encM w cv' L') (hp : SeesG encB w pv P) (hp' : SeesG encB w pv' P') (hj : SeesG enc4 w jv J) (hj' : SeesG enc4 w jv' J') :
    Calls Try.prog 47 #[.agg #[.int .i64 W, .int .i64 H, xv, .int .i64 b, .int .i64 m, .int .i64 rn, dv, .int .i64 n, .int .i64 f, cv, pv, jv, .int .i64 dy, .int .i64 gv, .int .i64 ea], .agg #[.int .i64 W', .int .i64 H', xv', .int .i64 b', .int .i64 m', .int .i64 rn', dv', .int .i64 n', .int .i64 f', cv', pv', jv', .int .i64 dy', .int .i64 gv', .int .i64 ea']] w fun e w' => e = .returned (.bool (eqS W H b m rn n f dy gv ea W' H' b' m' rn' n' f' dy' gv' ea' X X' D D' L L' P P' J J')) ∧ w.grownBy w' none := by
  have g0 := World.grownBy_alloc w (.cells #[.int .i64 W, .int .i64 H, xv, .int .i64 b, .int .i64 m, .int .i64 rn, dv, .int .i64 n, .int .i64 f, cv, pv, jv, .int .i64 dy, .int .i64 gv, .int .i64 ea] 67 (0, 0)) (none : Option Nat)
  have g1 := World.grownBy_alloc (w.alloc (.cells #[.int .i64 W, .int .i64 H, xv, .int .i64 b, .int .i64 m, .int .i64 rn, dv, .int .i64 n, .int .i64 f, cv, pv, jv, .int .i64 dy, .int .i64 gv, .int .i64 ea] 67 (0, 0))) (.cells #[.int .i64 W', .int .i64 H', xv', .int .i64 b', .int .i64 m', .int .i64 rn', dv', .int .i64 n', .int .i64 f', cv', pv', jv', .int .i64 dy', .int .i64 gv', .int .i64 ea'] 67 (0, 0)) (none : Option Nat)
  have b0 := (box_new w #[.int .i64 W, .int .i64 H, xv, .int .i64 b, .int .i64 m, .int .i64 rn, dv, .int .i64 n, .int .i64 f, cv, pv, jv, .int .i64 dy, .int .i64 gv, .int .i64 ea] 67).grown g1
  have b1 := box_new (w.alloc (.cells #[.int .i64 W, .int .i64 H, xv, .int .i64 b, .int .i64 m, .int .i64 rn, dv, .int .i64 n, .int .i64 f, cv, pv, jv, .int .i64 dy, .int .i64 gv, .int .i64 ea] 67 (0, 0))) #[.int .i64 W', .int .i64 H', xv', .int .i64 b', .int .i64 m', .int .i64 rn', dv', .int .i64 n', .int .i64 f', cv', pv', jv', .int .i64 dy', .int .i64 gv', .int .i64 ea'] 67
  simp only [World.size_alloc] at b1
  have hg := grownN_trans g0 g1
  have H0 := Lib.hid (show ES w _ W H b m rn n f dy gv ea W' H' b' m' rn' n' f' dy' gv' ea' xv dv cv pv jv xv' dv' cv' pv' jv' X X' D D' L L' P P' J J' from ⟨b0, b1, hx.grown hg, hx'.grown hg, hd.grown hg, hd'.grown hg, hl.grown hg, hl'.grown hg, hp.grown hg, hp'.grown hg, hj.grown hg, hj'.grown hg, hg⟩)
  clear g0 g1 b0 b1 hg hx hx' hd hd' hl hl' hp hp' hj hj'
  by_cases h0 : W = W'
  rotate_left
  · have HR : Hid (eqS W H b m rn n f dy gv ea W' H' b' m' rn' n' f' dy' gv' ea' X X' D D' L L' P P' J J' = false) := by show _ = _; unfold eqS; (try simp only [Bool.true_and]); rw [decide_eq_false h0]; simp
    go_enter Try.func47, Try.ntmps47
    go_wp2
    go_ret
    exact ⟨ret_bool HR.out.symm, H0.out.g⟩
  subst h0
  by_cases h1 : H = H'
  rotate_left
  · have HR : Hid (eqS W H b m rn n f dy gv ea W H' b' m' rn' n' f' dy' gv' ea' X X' D D' L L' P P' J J' = false) := by show _ = _; unfold eqS; (try simp only [Bool.true_and]); rw [decide_eq_false h1]; simp
    go_enter Try.func47, Try.ntmps47
    go_wp2
    go_ret
    exact ⟨ret_bool HR.out.symm, H0.out.g⟩
  subst h1
  cases hq2 : (decide (X = X'))
  · have HR : Hid (eqS W H b m rn n f dy gv ea W H b' m' rn' n' f' dy' gv' ea' X X' D D' L L' P P' J J' = false) := by show _ = _; unfold eqS; rw [hq2]; simp
    go_enter Try.func47, Try.ntmps47
    go_wp2_with fail
    refine (EqI.sEqualInts_any _ xv xv' X X' H0.out.x H0.out.x').mono ?_
    rintro e w1 ⟨rfl, hg⟩
    have H1 := Lib.hid (H0.out.on hg); clear hg
    obtain ⟨k1_0, k1_1, k1_2, k1_3, k1_4, k1_5, k1_6, k1_7, k1_8, k1_9, k1_10, k1_11, k1_12, k1_13, k1_14, k1_15, k1_16, k1_17, k1_18, k1_19, k1_20, k1_21, k1_22, k1_23, k1_24, k1_25, k1_26, k1_27, k1_28, k1_29⟩ := H1.out.held
    (try rw [hq2])
    go_wp2
    go_ret
    exact ⟨ret_bool HR.out.symm, H1.out.g⟩
  by_cases h3 : b = b'
  rotate_left
  · have HR : Hid (eqS W H b m rn n f dy gv ea W H b' m' rn' n' f' dy' gv' ea' X X' D D' L L' P P' J J' = false) := by show _ = _; unfold eqS; (try simp only [Bool.true_and]); rw [decide_eq_false h3]; simp
    go_enter Try.func47, Try.ntmps47
    go_wp2_with fail
    refine (EqI.sEqualInts_any _ xv xv' X X' H0.out.x H0.out.x').mono ?_
    rintro e w1 ⟨rfl, hg⟩
    have H1 := Lib.hid (H0.out.on hg); clear hg
    obtain ⟨k1_0, k1_1, k1_2, k1_3, k1_4, k1_5, k1_6, k1_7, k1_8, k1_9, k1_10, k1_11, k1_12, k1_13, k1_14, k1_15, k1_16, k1_17, k1_18, k1_19, k1_20, k1_21, k1_22, k1_23, k1_24, k1_25, k1_26, k1_27, k1_28, k1_29⟩ := H1.out.held
    (try rw [hq2])
    go_wp2
    go_ret
    exact ⟨ret_bool HR.out.symm, H1.out.g⟩
  subst h3
  cases hq4 : (decide (m = m') && decide (rn = rn'))
  · have HR : Hid (eqS W H b m rn n f dy gv ea W H b m' rn' n' f' dy' gv' ea' X X' D D' L L' P P' J J' = false) := by show _ = _; unfold eqS; rw [hq4]; simp
    have hb : ∀ w, (binOp .eql 40 (.agg #[.int .i64 m, .int .i64 rn]) (.agg #[.int .i64 m', .int .i64 rn'])).run Try.prog w = .ok (.bool false) w := fun w => by rw [run_eql_struct, run_eqRule, hq4]; rfl
    go_enter Try.func47, Try.ntmps47
    go_wp2_with fail
    refine (EqI.sEqualInts_any _ xv xv' X X' H0.out.x H0.out.x').mono ?_
    rintro e w1 ⟨rfl, hg⟩
    have H1 := Lib.hid (H0.out.on hg); clear hg
    obtain ⟨k1_0, k1_1, k1_2, k1_3, k1_4, k1_5, k1_6, k1_7, k1_8, k1_9, k1_10, k1_11, k1_12, k1_13, k1_14, k1_15, k1_16, k1_17, k1_18, k1_19, k1_20, k1_21, k1_22, k1_23, k1_24, k1_25, k1_26, k1_27, k1_28, k1_29⟩ := H1.out.held
    (try rw [hq2])
    go_wp2
    go_ret
    exact ⟨ret_bool HR.out.symm, H1.out.g⟩
  have hb : ∀ w, (binOp .eql 40 (.agg #[.int .i64 m, .int .i64 rn]) (.agg #[.int .i64 m', .int .i64 rn'])).run Try.prog w = .ok (.bool true) w := fun w => by rw [run_eql_struct, run_eqRule, hq4]; rfl
  cases hq5 : (Pb.eqP n f L P n' f' L' P')
  · have HR : Hid (eqS W H b m rn n f dy gv ea W H b m' rn' n' f' dy' gv' ea' X X' D D' L L' P P' J J' = false) := by show _ = _; unfold eqS; rw [hq5]; simp
    go_enter Try.func47, Try.ntmps47
    go_wp2_with fail
    refine (EqI.sEqualInts_any _ xv xv' X X' H0.out.x H0.out.x').mono ?_
    rintro e w1 ⟨rfl, hg⟩
    have H1 := Lib.hid (H0.out.on hg); clear hg
    obtain ⟨k1_0, k1_1, k1_2, k1_3, k1_4, k1_5, k1_6, k1_7, k1_8, k1_9, k1_10, k1_11, k1_12, k1_13, k1_14, k1_15, k1_16, k1_17, k1_18, k1_19, k1_20, k1_21, k1_22, k1_23, k1_24, k1_25, k1_26, k1_27, k1_28, k1_29⟩ := H1.out.held
    (try rw [hq2])
    go_wp2_with fail
    refine (Pb.sEqual_any _ n f n' f' cv pv cv' pv' L L' P P' H1.out.l H1.out.p H1.out.l' H1.out.p').mono ?_
    rintro e w2 ⟨rfl, hg⟩
    have H2 := Lib.hid (H1.out.on hg); clear hg
    obtain ⟨k2_0, k2_1, k2_2, k2_3, k2_4, k2_5, k2_6, k2_7, k2_8, k2_9, k2_10, k2_11, k2_12, k2_13, k2_14, k2_15, k2_16, k2_17, k2_18, k2_19, k2_20, k2_21, k2_22, k2_23, k2_24, k2_25, k2_26, k2_27, k2_28, k2_29⟩ := H2.out.held
    (try rw [hq5])
    go_wp2
    go_ret
    exact ⟨ret_bool HR.out.symm, H2.out.g⟩
  by_cases h6 : dy = dy'
  rotate_left
  · have HR : Hid (eqS W H b m rn n f dy gv ea W H b m' rn' n' f' dy' gv' ea' X X' D D' L L' P P' J J' = false) := by show _ = _; unfold eqS; (try simp only [Bool.true_and]); rw [decide_eq_false h6]; simp
    go_enter Try.func47, Try.ntmps47
    go_wp2_with fail
    refine (EqI.sEqualInts_any _ xv xv' X X' H0.out.x H0.out.x').mono ?_
    rintro e w1 ⟨rfl, hg⟩
    have H1 := Lib.hid (H0.out.on hg); clear hg
    obtain ⟨k1_0, k1_1, k1_2, k1_3, k1_4, k1_5, k1_6, k1_7, k1_8, k1_9, k1_10, k1_11, k1_12, k1_13, k1_14, k1_15, k1_16, k1_17, k1_18, k1_19, k1_20, k1_21, k1_22, k1_23, k1_24, k1_25, k1_26, k1_27, k1_28, k1_29⟩ := H1.out.held
    (try rw [hq2])
    go_wp2_with fail
    refine (Pb.sEqual_any _ n f n' f' cv pv cv' pv' L L' P P' H1.out.l H1.out.p H1.out.l' H1.out.p').mono ?_
    rintro e w2 ⟨rfl, hg⟩
    have H2 := Lib.hid (H1.out.on hg); clear hg
    obtain ⟨k2_0, k2_1, k2_2, k2_3, k2_4, k2_5, k2_6, k2_7, k2_8, k2_9, k2_10, k2_11, k2_12, k2_13, k2_14, k2_15, k2_16, k2_17, k2_18, k2_19, k2_20, k2_21, k2_22, k2_23, k2_24, k2_25, k2_26, k2_27, k2_28, k2_29⟩ := H2.out.held
    (try rw [hq5])
    go_wp2
    go_ret
    exact ⟨ret_bool HR.out.symm, H2.out.g⟩
  subst h6
  by_cases h7 : gv = gv'
  rotate_left
  · have HR : Hid (eqS W H b m rn n f dy gv ea W H b m' rn' n' f' dy gv' ea' X X' D D' L L' P P' J J' = false) := by show _ = _; unfold eqS; (try simp only [Bool.true_and]); rw [decide_eq_false h7]; simp
    go_enter Try.func47, Try.ntmps47
    go_wp2_with fail
    refine (EqI.sEqualInts_any _ xv xv' X X' H0.out.x H0.out.x').mono ?_
    rintro e w1 ⟨rfl, hg⟩
    have H1 := Lib.hid (H0.out.on hg); clear hg
    obtain ⟨k1_0, k1_1, k1_2, k1_3, k1_4, k1_5, k1_6, k1_7, k1_8, k1_9, k1_10, k1_11, k1_12, k1_13, k1_14, k1_15, k1_16, k1_17, k1_18, k1_19, k1_20, k1_21, k1_22, k1_23, k1_24, k1_25, k1_26, k1_27, k1_28, k1_29⟩ := H1.out.held
    (try rw [hq2])
    go_wp2_with fail
    refine (Pb.sEqual_any _ n f n' f' cv pv cv' pv' L L' P P' H1.out.l H1.out.p H1.out.l' H1.out.p').mono ?_
    rintro e w2 ⟨rfl, hg⟩
    have H2 := Lib.hid (H1.out.on hg); clear hg
    obtain ⟨k2_0, k2_1, k2_2, k2_3, k2_4, k2_5, k2_6, k2_7, k2_8, k2_9, k2_10, k2_11, k2_12, k2_13, k2_14, k2_15, k2_16, k2_17, k2_18, k2_19, k2_20, k2_21, k2_22, k2_23, k2_24, k2_25, k2_26, k2_27, k2_28, k2_29⟩ := H2.out.held
    (try rw [hq5])
    go_wp2
    go_ret
    exact ⟨ret_bool HR.out.symm, H2.out.g⟩
  subst h7
  by_cases h8 : ea = ea'
  rotate_left
  · have HR : Hid (eqS W H b m rn n f dy gv ea W H b m' rn' n' f' dy gv ea' X X' D D' L L' P P' J J' = false) := by show _ = _; unfold eqS; (try simp only [Bool.true_and]); rw [decide_eq_false h8]; simp
    go_enter Try.func47, Try.ntmps47
    go_wp2_with fail
    refine (EqI.sEqualInts_any _ xv xv' X X' H0.out.x H0.out.x').mono ?_
    rintro e w1 ⟨rfl, hg⟩
    have H1 := Lib.hid (H0.out.on hg); clear hg
    obtain ⟨k1_0, k1_1, k1_2, k1_3, k1_4, k1_5, k1_6, k1_7, k1_8, k1_9, k1_10, k1_11, k1_12, k1_13, k1_14, k1_15, k1_16, k1_17, k1_18, k1_19, k1_20, k1_21, k1_22, k1_23, k1_24, k1_25, k1_26, k1_27, k1_28, k1_29⟩ := H1.out.held
    (try rw [hq2])
    go_wp2_with fail
    refine (Pb.sEqual_any _ n f n' f' cv pv cv' pv' L L' P P' H1.out.l H1.out.p H1.out.l' H1.out.p').mono ?_
    rintro e w2 ⟨rfl, hg⟩
    have H2 := Lib.hid (H1.out.on hg); clear hg
    obtain ⟨k2_0, k2_1, k2_2, k2_3, k2_4, k2_5, k2_6, k2_7, k2_8, k2_9, k2_10, k2_11, k2_12, k2_13, k2_14, k2_15, k2_16, k2_17, k2_18, k2_19, k2_20, k2_21, k2_22, k2_23, k2_24, k2_25, k2_26, k2_27, k2_28, k2_29⟩ := H2.out.held
    (try rw [hq5])
    go_wp2
    go_ret
    exact ⟨ret_bool HR.out.symm, H2.out.g⟩
  subst h8
  have HR : Hid (eqS W H b m rn n f dy gv ea W H b m' rn' n' f' dy gv ea X X' D D' L L' P P' J J' = EqS.lists D D' J J') := by show _ = _; unfold eqS; rw [hq2, hq4, hq5]; simp
  go_enter Try.func47, Try.ntmps47
  go_wp2_with fail
  refine (EqI.sEqualInts_any _ xv xv' X X' H0.out.x H0.out.x').mono ?_
  rintro e w1 ⟨rfl, hg⟩
  have H1 := Lib.hid (H0.out.on hg); clear hg
  obtain ⟨k1_0, k1_1, k1_2, k1_3, k1_4, k1_5, k1_6, k1_7, k1_8, k1_9, k1_10, k1_11, k1_12, k1_13, k1_14, k1_15, k1_16, k1_17, k1_18, k1_19, k1_20, k1_21, k1_22, k1_23, k1_24, k1_25, k1_26, k1_27, k1_28, k1_29⟩ := H1.out.held
  (try rw [hq2])
  go_wp2_with fail
  refine (Pb.sEqual_any _ n f n' f' cv pv cv' pv' L L' P P' H1.out.l H1.out.p H1.out.l' H1.out.p').mono ?_
  rintro e w2 ⟨rfl, hg⟩
  have H2 := Lib.hid (H1.out.on hg); clear hg
  obtain ⟨k2_0, k2_1, k2_2, k2_3, k2_4, k2_5, k2_6, k2_7, k2_8, k2_9, k2_10, k2_11, k2_12, k2_13, k2_14, k2_15, k2_16, k2_17, k2_18, k2_19, k2_20, k2_21, k2_22, k2_23, k2_24, k2_25, k2_26, k2_27, k2_28, k2_29⟩ := H2.out.held
  (try rw [hq5])
  go_wp2_with fail
  refine (EqS.sLists_any _ W H b m rn n f dy gv ea W H b m' rn' n' f' dy gv ea xv dv cv pv jv xv' dv' cv' pv' jv' X X' D D' L L' P P' J J' H2.out.x H2.out.x' H2.out.d H2.out.d' H2.out.l H2.out.l' H2.out.p H2.out.p' H2.out.j H2.out.j').mono ?_
  rintro e w3 ⟨rfl, hg⟩
  have H3 := Lib.hid (H2.out.on hg); clear hg
  go_wp2
  go_ret
  exact ⟨ret_bool HR.out.symm, H3.out.g⟩
theorem sEqual_any (w : World) (W H b m rn n f dy gv ea W' H' b' m' rn' n' f' dy' gv' ea' : Int) (xv dv cv pv jv xv' dv' cv' pv' jv' : Value) (X X' : List Int) (D D' : List (Int × Int)) (L L' : List Mem) (P P' : List Bool) (J J' : List I4) (hx : Sees .i64 w xv X) (hx' : Sees .i64 w xv' X') (hd : SeesG encP w dv D) (hd' : SeesG encP w dv' D') (hl : SeesG encM w cv L) (hl' : SeesG encM w cv' L') (hp : SeesG encB w pv P) (hp' : SeesG encB w pv' P') (hj : SeesG enc4 w jv J) (hj' : SeesG enc4 w jv' J') :
    Calls Try.prog 47 #[.agg #[.int .i64 W, .int .i64 H, xv, .int .i64 b, .int .i64 m, .int .i64 rn, dv, .int .i64 n, .int .i64 f, cv, pv, jv, .int .i64 dy, .int .i64 gv, .int .i64 ea], .agg #[.int .i64 W', .int .i64 H', xv', .int .i64 b', .int .i64 m', .int .i64 rn', dv', .int .i64 n', .int .i64 f', cv', pv', jv', .int .i64 dy', .int .i64 gv', .int .i64 ea']] w fun e w' => e = .returned (.bool (eqT W H b m rn n f dy gv ea W' H' b' m' rn' n' f' dy' gv' ea' X X' D D' L L' P P' J J')) ∧ w.grownBy w' none := by
  have := sEqT_any w W H b m rn n f dy gv ea W' H' b' m' rn' n' f' dy' gv' ea' xv dv cv pv jv xv' dv' cv' pv' jv' X X' D D' L L' P P' J J' hx hx' hd hd' hl hl' hp hp' hj hj'
  rwa [eqS_T] at this
end Go.Proofs.Ytochohoihmfanaa.EqW
