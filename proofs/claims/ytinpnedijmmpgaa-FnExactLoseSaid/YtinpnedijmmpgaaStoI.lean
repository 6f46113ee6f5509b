/- Contracts of the program's functions on stocks. -/
import Derived.Test.YtinpnedijmmpgaaStoF
import Derived.IntWalk
import Derived.WalkMore
import Derived.Lib.SliceRun
import Derived.Deep.LoopGhost
import Derived.Deep.RegionHeld3
namespace Go.Proofs.Ytinpnedijmmpgaa.StoI
open Go.RowKit Kit Rw Rg Sto Md

def inb (n l h : Int) : Bool := decide (l ≤ n ∧ n ≤ h)
theorem inR_b (n l h : Int) (w : World) : Calls Try.prog 59 #[.int .i64 n, .int .i64 l, .int .i64 h] w fun e w' => e = .returned (.bool (inb n l h)) ∧ w = w' := inRange_any n l h w

set_option maxRecDepth 20000 in
set_option maxHeartbeats 400000 in
theorem valid_any (w : World) (xi xs xn : Int) :
    Calls Try.prog 50 #[.agg #[.int .i64 xi, .int .i64 xs, .int .i64 xn]] w fun e w' => e = .returned (.bool (okSto ⟨xi, xs, xn⟩)) ∧ w.grownBy w' none := by
  have HG := Lib.hid (World.grownBy_alloc w (.cells #[.int .i64 xi, .int .i64 xs, .int .i64 xn] 46 (0, 0)) none)
  by_cases hA : 1 ≤ xi ∧ xi ≤ 20
  · by_cases hB : 0 ≤ xs ∧ xs ≤ 1000
    · by_cases hC : 0 ≤ xn ∧ xn ≤ xs
      · skip
        have h0 : inb xi 1 20 = true := decide_eq_true hA
        have h1 : inb xs 0 1000 = true := decide_eq_true hB
        have h2 : inb xn 0 xs = true := decide_eq_true hC
        have HR : Hid (okSto ⟨xi, xs, xn⟩ = true) := by show okSto _ = _; unfold okSto; dsimp only; rw [decide_eq_true hA, decide_eq_true hB, decide_eq_true hC]; rfl
        clear hA hB hC
        go_enter Try.func50, Try.ntmps50
        go_wp2_with fail
        refine (inR_b _ _ _ _).mono ?_
        rintro e w2 ⟨rfl, rfl⟩
        go_wp2_with fail
        refine (inR_b _ _ _ _).mono ?_
        rintro e w2 ⟨rfl, rfl⟩
        go_wp2_with fail
        refine (inR_b _ _ _ _).mono ?_
        rintro e w2 ⟨rfl, rfl⟩
        go_wp2
        go_ret
        exact ⟨ret_bool HR.out.symm, HG.out⟩
      · skip
        have h0 : inb xi 1 20 = true := decide_eq_true hA
        have h1 : inb xs 0 1000 = true := decide_eq_true hB
        have h2 : inb xn 0 xs = false := decide_eq_false hC
        have HR : Hid (okSto ⟨xi, xs, xn⟩ = false) := by show okSto _ = _; unfold okSto; dsimp only; rw [decide_eq_true hA, decide_eq_true hB, decide_eq_false hC]; rfl
        clear hA hB hC
        go_enter Try.func50, Try.ntmps50
        go_wp2_with fail
        refine (inR_b _ _ _ _).mono ?_
        rintro e w2 ⟨rfl, rfl⟩
        go_wp2_with fail
        refine (inR_b _ _ _ _).mono ?_
        rintro e w2 ⟨rfl, rfl⟩
        go_wp2_with fail
        refine (inR_b _ _ _ _).mono ?_
        rintro e w2 ⟨rfl, rfl⟩
        go_wp2
        go_ret
        exact ⟨ret_bool HR.out.symm, HG.out⟩
    · skip
      have h0 : inb xi 1 20 = true := decide_eq_true hA
      have h1 : inb xs 0 1000 = false := decide_eq_false hB
      have HR : Hid (okSto ⟨xi, xs, xn⟩ = false) := by show okSto _ = _; unfold okSto; dsimp only; rw [decide_eq_true hA, decide_eq_false hB]; simp
      clear hA hB
      go_enter Try.func50, Try.ntmps50
      go_wp2_with fail
      refine (inR_b _ _ _ _).mono ?_
      rintro e w2 ⟨rfl, rfl⟩
      go_wp2_with fail
      refine (inR_b _ _ _ _).mono ?_
      rintro e w2 ⟨rfl, rfl⟩
      go_wp2
      go_ret
      exact ⟨ret_bool HR.out.symm, HG.out⟩
  · skip
    have h0 : inb xi 1 20 = false := decide_eq_false hA
    have HR : Hid (okSto ⟨xi, xs, xn⟩ = false) := by show okSto _ = _; unfold okSto; dsimp only; rw [decide_eq_false hA]; simp
    clear hA
    go_enter Try.func50, Try.ntmps50
    go_wp2_with fail
    refine (inR_b _ _ _ _).mono ?_
    rintro e w2 ⟨rfl, rfl⟩
    go_wp2
    go_ret
    exact ⟨ret_bool HR.out.symm, HG.out⟩

set_option maxRecDepth 20000 in
set_option maxHeartbeats 1000000 in
theorem iAreStocks_any (w : World) (v : Value) (L : List I3) (hv : SeesG enc3 w v L) :
    Calls Try.prog 18 #[v] w fun e w' => e = .returned (.bool (areSto L)) ∧ w.grownBy w' none := by
  have hl := hv.len
  have HV := Lib.hid hv
  obtain ⟨a, cap, rfl, _⟩ := hv
  · go_enter Try.func18, Try.ntmps18
    go_wp2
    go_loopw [3, 8] (fun p i wr => ∃ j : Nat, j ≤ L.length ∧ i = .int .i64 j ∧ p = .int .i64 (before L j) ∧ Hid (upTo L j) ∧ Hid (w.grownBy wr none)) (fun _ i _ => L.length - (intOf i).toNat)
    case atStart => exact ⟨0, Nat.zero_le _, rfl, rfl, upTo_zero L, World.grownBy.refl _ _⟩
    case round =>
      obtain ⟨j, hj, rfl, rfl, HU, HG⟩ := hrel
      by_cases hlt : j < L.length
      · obtain ⟨b, o, rfl, _, _⟩ := HV.out.at_row hlt
        obtain ⟨x, hx⟩ : ∃ x, L.getD j zI3 = x := ⟨_, rfl⟩
        obtain ⟨d0, d1, d2⟩ := at3_in HV.out HG.out hlt hx
        have HX := Lib.hid hx
        have hbn : before L (j + 1) = x.x0 := by rw [← hx]; rfl
        have HBN := Lib.hid hbn
        clear hx hbn
        obtain ⟨xi, xs, xn⟩ := x
        dsimp only at d0 d1 d2
        obtain ⟨p, hp⟩ : ∃ p, p = before L j := ⟨_, rfl⟩
        rw [← hp]
        have HP := Lib.hid hp
        clear hp
        have HG1 := Lib.hid (grownN_trans HG.out (World.grownBy_alloc wr (.cells #[.int .i64 xi, .int .i64 xs, .int .i64 xn] 46 (0, 0)) none))
        have HB := Lib.hid (box_new wr #[.int .i64 xi, .int .i64 xs, .int .i64 xn] 46)
        have hv := fun w => valid_any w xi xs xn
        cases hok : okSto ⟨xi, xs, xn⟩
        · have HR : Hid (areSto L = false) := sto_bad hlt (.inl (by rw [show zI3 = zI3 from rfl, HX.out]; exact hok))
          rw [hok] at hv
          have HVA := Lib.hid hv
          clear hv hok
          go_wp2_with (go_at_call 50; refine (HVA.out _).mono ?_; rintro e w3 ⟨rfl, hg⟩; have HG3 := Lib.hid (grownN_trans HG1.out hg); clear hg)
          go_ret
          exact ⟨ret_bool HR.out.symm, HG3.out⟩
        · rw [hok] at hv
          have HVA := Lib.hid hv
          have hxo := ok_of hok
          have HOK := Lib.hid hok
          clear hv hok
          by_cases ho : xi ≤ p
          · have HR : Hid (areSto L = false) := sto_bad hlt (.inr (by
              have hp := HP.out
              match j, hp with
              | 0, hp => exact absurd ho (by rw [hp]; simp only [before]; have := hxo.1; dsimp only at this; omega)
              | k + 1, hp => refine ⟨by omega, ?_⟩; rw [show zI3 = zI3 from rfl, HX.out, Nat.add_sub_cancel, show (L.getD k zI3).x0 = p from hp.symm]; dsimp only; omega))
            clear hxo
            go_wp2_with (go_at_call 50; refine (HVA.out _).mono ?_; rintro e w3 ⟨rfl, hg⟩; have HG3 := Lib.hid (grownN_trans HG1.out hg); obtain ⟨q0, q1, q2⟩ := (HB.out.grown hg).three; clear hg)
            go_ret
            exact ⟨ret_bool HR.out.symm, HG3.out⟩
          · have HU2 : Hid (upTo L (j + 1)) := upTo_next HU.out (by rw [show zI3 = zI3 from rfl, HX.out]; exact HOK.out) (fun h0 => by
              have hp := HP.out
              match j, hp, h0 with
              | k + 1, hp, _ => rw [show zI3 = zI3 from rfl, HX.out, Nat.add_sub_cancel, show (L.getD k zI3).x0 = p from hp.symm]; dsimp only; omega)
            clear hxo
            go_wp2_with (go_at_call 50; refine (HVA.out _).mono ?_; rintro e w3 ⟨rfl, hg⟩; have HG3 := Lib.hid (grownN_trans HG1.out hg); obtain ⟨q0, q1, q2⟩ := (HB.out.grown hg).three; clear hg)
            go_roundw
            case rel => exact ⟨j + 1, by omega, by go_num, by rw [HBN.out], HU2, HG3⟩
            case measure => simp [intOf]; omega
      · have : j = L.length := by omega
        subst this
        have HR : Hid (areSto L = true) := sto_yes HU.out
        go_wp2
        go_ret
        exact ⟨ret_bool HR.out.symm, HG.out⟩
theorem info_sto : (Try.prog.info? 46).map (fun i => (i.zero, i.size, i.bytes)) = some (some (.agg #[.int .i64 0, .int .i64 0, .int .i64 0]), 3, 24) := by kernel_rfl
set_option maxRecDepth 20000 in
set_option maxHeartbeats 1000000 in
theorem clone_any (w : World) (v : Value) (L : List I3) (hv : SeesG enc3 w v L) (hn : L.length ≤ 1000000000) :
    Calls Try.prog 70 #[v] w fun e w' => ∃ u, e = .returned u ∧ OwnG enc3 46 w' w.heap.size u L ∧ w.grownBy w' none := by
  have hg0 := World.grownBy_alloc w (.cells #[] 46 (0, 0)) none
  have HV := Lib.hid (hv.grown hg0)
  have HW : Hid (OwnG enc3 46 (w.alloc (.cells #[] 46 (0, 0))) w.heap.size (.slice (some ⟨w.heap.size, 0, none⟩) 0 0) []) := ownG_empty w
  have HG := Lib.hid hg0
  clear hg0
  obtain ⟨a, cap, rfl, h1, h2, h3, _, _⟩ := hv
  obtain ⟨i0, hi, hz0, hz1, hz2⟩ := info_parts info_sto
  have q : ∀ (w : World) (a : Option Addr) (n c n' c' : Nat), (binOp .eql 25 (.slice a n c) (.slice none n' c')).run Try.prog w = .ok (.bool a.isNone) w := fun w a n c n' c' => Lib.run_eql_slice_nil w _ _ a n c n' c' Try.underlying25
  cases a with
  | none =>
    have hc := h3 rfl
    have hL : L = [] := List.eq_nil_of_length_eq_zero (by omega)
    subst hL
    subst hc
    go_enter Try.func70, Try.ntmps70
    go_wp2
    go_ret
    exact ⟨_, rfl, ownG_nil, World.grownBy.refl _ _⟩
  | some ad =>
    clear h1 h2 h3
    go_enter Try.func70, Try.ntmps70
    go_wp2_with (at_builtin; go_loud (refine wpListG_append_sees _ rfl _ _ 25 rfl w.heap.size 46 i0 (.agg #[.int .i64 0, .int .i64 0, .int .i64 0]) 24 Try.underlying25 hi hz0 hz1 hz2 rfl _ [] rfl HW.out _ L rfl HV.out (by unfold maxLen; simp; omega) (by simp; omega) HG.out.size ?_); intro v3 w3 hown3 hgrow3; rw [List.nil_append] at hown3; have HO3 := Lib.hid hown3; have HG3 := Lib.hid (grown_new HG.out hgrow3 (fun c hc => (HW.out.lt c hc).1)); clear hown3 hgrow3)
    go_ret
    exact ⟨_, rfl, HO3.out, HG3.out⟩
set_option maxRecDepth 20000 in
set_option maxHeartbeats 400000 in
theorem clo_any (w : World) (b : Nat) (who x0 x1 x2 : Int) (hb : w.cell? ⟨b, 0, none⟩ = some (.int .i64 who)) :
    Calls Try.prog 72 #[.agg #[.int .i64 x0, .int .i64 x1, .int .i64 x2], .pointer (some ⟨b, 0, none⟩)] w fun e w' => e = .returned (.bool (x0 == who)) ∧ w.grownBy w' none := by
  have hg := World.grownBy_alloc w (.cells #[.int .i64 x0, .int .i64 x1, .int .i64 x2] 46 (0, 0)) (none : Option Nat)
  have hc := hg.cell hb (by simp)
  have HG := Lib.hid hg
  clear hb hg
  go_enter Try.func72, Try.ntmps72
  go_wp2
  go_ret
  exact ⟨rfl, HG.out⟩

set_option maxRecDepth 20000 in
set_option maxHeartbeats 1000000 in
theorem indexF_any (w : World) (v : Value) (b : Nat) (who : Int) (V : List I3) (hv : SeesG enc3 w v V) (hb : w.cell? ⟨b, 0, none⟩ = some (.int .i64 who)) :
    Calls Try.prog 71 #[v, .func (.func 72) #[] #[.pointer (some ⟨b, 0, none⟩)]] w fun e w' => e = .returned (.int .i64 (place V who 0)) ∧ w.grownBy w' none := by
  have hl := hv.len
  have HV := Lib.hid hv
  have HBC := Lib.hid hb
  obtain ⟨a, cap, rfl, _⟩ := hv
  clear hb
  go_enter Try.func71, Try.ntmps71
  go_wp2
  go_loopw [8] (fun i wr => ∃ j : Nat, j ≤ V.length ∧ i = .int .i64 j ∧ Hid (∀ m, m < j → (V.getD m zI3).x0 ≠ who) ∧ Hid (w.grownBy wr none)) (fun i _ => V.length - (intOf i).toNat)
  case atStart => exact ⟨0, Nat.zero_le _, rfl, fun m hm => absurd hm (Nat.not_lt_zero _), World.grownBy.refl _ _⟩
  case round =>
    rename_i _ wr
    obtain ⟨j, hj, rfl, HE, HG⟩ := hrel
    by_cases hlt : j < V.length
    · obtain ⟨ab, o, rfl, _, _⟩ := HV.out.at_row hlt
      obtain ⟨x, hx⟩ : ∃ x, V.getD j zI3 = x := ⟨_, rfl⟩
      obtain ⟨d0, d1, d2⟩ := at3_in HV.out HG.out hlt hx
      have HX := Lib.hid hx
      have HCL := Lib.hid (fun x0 x1 x2 => clo_any wr b who x0 x1 x2 (HG.out.cell HBC.out (by simp)))
      clear hx
      obtain ⟨x0, x1, x2⟩ := x
      dsimp only at d0 d1 d2
      have HWG : Hid ((V.getD j zI3).x0 = x0) := by show _ = _; rw [HX.out]
      by_cases he : x0 = who
      · have HR : Hid (place V who 0 = (j : Int)) := by show _ = _; rw [place_hit (j := j) hlt (by rw [HWG.out, he]) HE.out, Nat.zero_add]
        have heb : (x0 == who) = true := by simpa using he
        have HC := Lib.hid (HCL.out x0 x1 x2)
        rw [heb] at HC
        clear he heb
        go_wp2_with (go_at_call 72; refine HC.out.mono ?_; rintro e w3 ⟨rfl, hg⟩; have HG3 := Lib.hid (grownN_trans HG.out hg); clear hg)
        go_ret
        exact ⟨ret_i64 HR.out.symm, HG3.out⟩
      · have HE2 : Hid (∀ m, m < j + 1 → (V.getD m zI3).x0 ≠ who) := fun m hm => by
          by_cases h : m = j
          · subst h; rw [HWG.out]; exact he
          · exact HE.out m (by omega)
        have heb : (x0 == who) = false := by simpa using he
        have HC := Lib.hid (HCL.out x0 x1 x2)
        rw [heb] at HC
        clear he heb
        go_wp2_with (go_at_call 72; refine HC.out.mono ?_; rintro e w3 ⟨rfl, hg⟩; have HG3 := Lib.hid (grownN_trans HG.out hg); clear hg)
        go_roundw
        case rel => exact ⟨j + 1, by omega, by go_num, HE2, HG3⟩
        case measure => simp [intOf]; omega
    · have hjn : V.length = j := by omega
      have HR : Hid (place V who 0 = -1) := by show _ = _; exact place_miss (fun m hm => HE.out m (by omega))
      go_wp2
      go_ret
      exact ⟨ret_i64 HR.out.symm, HG.out⟩

end Go.Proofs.Ytinpnedijmmpgaa.StoI
