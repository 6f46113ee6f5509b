/- Contracts of the model's Near, Apart and CountCells. -/
import Derived.Test.YtbibkjponadipaaDoorLandS
import Derived.Test.YtbibkjponadipaaDoorMBase
import Derived.Deep.QuietTactic
import Derived.BigQuiet
import Derived.Deep.DeepCutAuto
namespace Go.Proofs.YtbibkjponadipaaDoor.LandS
open Go.RowKit Kit Rw Ld Md

theorem vbool {a b : Bool} (h : a = b) : Value.bool a = Value.bool b := by rw [h]
/-- Where the walk through l4Near stands: what has been collected, the land in its box, its row. -/
structure NR (w wx : World) (p H : Int) (b o un uc : Nat) (X L : List Int) (s : Value) : Prop where
  own : Own .i64 3 wx (w.heap.size + 1) s L
  box : Box wx w.heap.size #[.int .i64 p, .int .i64 H, .slice (some ⟨b, o, none⟩) un uc] 26
  row : Sees .i64 wx (.slice (some ⟨b, o, none⟩) un uc) X
  grown : w.grownBy wx none
theorem NR.on {w wx wy : World} {p H : Int} {b o un uc : Nat} {X L : List Int} {s : Value} (h : NR w wx p H b o un uc X L s) (hg : wx.grownBy wy none) : NR w wy p H b o un uc X L s :=
  ⟨h.own.grown hg, h.box.grown hg, h.row.grown hg, grownN_trans h.grown hg⟩
/-- Behind an append to what is collected. -/
theorem NR.more {w wx wy : World} {p H : Int} {b o un uc : Nat} {X L M : List Int} {s s' : Value} (h : NR w wx p H b o un uc X L s) (ho : Own .i64 3 wy (w.heap.size + 1) s' M) (hg : wx.grownBy wy s.ownBlock) (hb : b < w.heap.size) : NR w wy p H b o un uc X M s' := by
  have h1 : s.ownBlock ≠ some w.heap.size := h.own.off (Nat.lt_succ_self _)
  have h2 : s.ownBlock ≠ some b := h.own.off (by omega)
  refine ⟨ho, h.box.kept hg h1, h.row.kept hg (.inr (by simpa [Value.ownBlock] using fun e => h2 e.symm)), grown_new h.grown hg (fun c hc => by have := h.own.lt c hc; omega)⟩

set_option maxRecDepth 100000 in
set_option maxHeartbeats 4000000 in
theorem l4Near_any (w : World) (W H n : Int) (v : Value) (X : List Int) (hv : Sees .i64 w v X) (hc : isCell W H X n = true) :
    Calls Tryd.prog 38 #[.agg #[.int .i64 W, .int .i64 H, v], .int .i64 n] w fun e w' => ∃ u, e = .returned u ∧ Own .i64 3 w' w.heap.size u (near W n X) ∧ w.grownBy w' none := by
  obtain ⟨hL, hn0, hn1⟩ := isCell_of hc
  obtain ⟨hW, hH, hLen, _⟩ := isLand_of hL
  have hA := area hW hH
  obtain ⟨p, rfl⟩ : ∃ p : Nat, W = p := ⟨W.toNat, by omega⟩
  obtain ⟨q, rfl⟩ : ∃ q : Nat, n = q := ⟨n.toNat, by omega⟩
  have hp : 1 ≤ p ∧ p ≤ 8 := by omega
  have hq : q < X.length := by omega
  have hx64 : X.length ≤ 64 := by omega
  have hright : q % p + 1 < p → q + 1 < X.length := by
    intro hm
    obtain ⟨h, rfl⟩ : ∃ h : Nat, H = h := ⟨H.toNat, by omega⟩
    have e : X.length = p * h := by exact_mod_cast hLen
    rw [e] at hq ⊢
    exact right_in hq hm
  obtain ⟨b, o, ha⟩ : ∃ b o, ∃ un uc, v = .slice (some ⟨b, o, none⟩) un uc ∧ Hid (X.length = un) ∧ b < w.heap.size := by
    obtain ⟨a, un, uc, hu, HUN⟩ := hv.shape
    subst hu
    obtain ⟨b, o, rfl, hcell⟩ := hv.at_row hq
    exact ⟨b, o, un, uc, rfl, HUN, World.block_lt_of_cell? w _ hcell⟩
  obtain ⟨un, uc, hu, HUN, hbw⟩ := ha
  subst hu
  have hun : un ≤ 64 ∧ q < un := by rw [← HUN.out]; exact ⟨hx64, hq⟩
  obtain ⟨hun0, hun1⟩ := hun
  obtain ⟨hp1, hp8⟩ := hp
  have HBW := Lib.hid hbw
  have hgr := World.grownBy_alloc w (.cells #[.int .i64 p, .int .i64 H, .slice (some ⟨b, o, none⟩) un uc] 26 (0, 0)) none
  have hnr : NR w ((w.alloc (.cells #[.int .i64 p, .int .i64 H, .slice (some ⟨b, o, none⟩) un uc] 26 (0, 0))).alloc (.cells #[] 3 (0, 0))) p H b o un uc X [] (.slice (some ⟨w.heap.size + 1, 0, none⟩) 0 0) := by
    have ho := own_empty (k := .i64) (E := 3) (w.alloc (.cells #[.int .i64 p, .int .i64 H, .slice (some ⟨b, o, none⟩) un uc] 26 (0, 0)))
    simp only [World.size_alloc] at ho
    exact ⟨ho, (box_new _ _ _).grown (World.grownBy_alloc _ _ none), (hv.grown hgr).grown (World.grownBy_alloc _ _ none), grownN_trans hgr (World.grownBy_alloc _ _ none)⟩
  have HN := Lib.hid hnr
  have HR : Hid (q % p + 1 < p → q + 1 < X.length) := hright
  clear hv hc hL hgr hW hH hLen hA hn0 hn1 hx64 hq hnr hbw hright
  obtain ⟨i0, hi, hz0, hz1, hz2⟩ := info_parts Inf.info_i64
  obtain ⟨c0, c1, c2⟩ := HN.out.box.three
  have hmod : (q : Int) % (p : Int) = ((q % p : Nat) : Int) := by omega
  have HM := Lib.hid hmod
  have hmlt : q % p < p := Nat.mod_lt _ (by omega)
  have hm0 : (0 : Int) ≤ (q : Int) % (p : Int) := Int.emod_nonneg _ (by omega)
  have hm1 : (q : Int) % (p : Int) < (p : Int) := Int.emod_lt_of_pos _ (by omega)
  clear hmod
  obtain ⟨b1, hb1⟩ : ∃ c, c = decide ((p : Int) ≤ (q : Int) ∧ X.getD (q - p) 0 ≠ 2) := ⟨_, rfl⟩
  have E1 : Hid (n1 p q X = if b1 = true then [(q : Int) - (p : Int)] else []) := by show _ = _; rw [hb1]; exact n1_nat p q X
  have HC1 := Lib.hid hb1; clear hb1
  obtain ⟨b2, hb2⟩ : ∃ c, c = decide ((0 : Int) < (q : Int) % (p : Int) ∧ X.getD (q - 1) 0 ≠ 2) := ⟨_, rfl⟩
  have E2 : Hid (n2 p q X = if b2 = true then [(q : Int) - 1] else []) := by show _ = _; rw [hb2]; exact n2_nat p q X
  have HC2 := Lib.hid hb2; clear hb2
  obtain ⟨b3, hb3⟩ : ∃ c, c = decide ((q : Int) % (p : Int) < (p : Int) - 1 ∧ X.getD (q + 1) 0 ≠ 2) := ⟨_, rfl⟩
  have E3 : Hid (n3 p q X = if b3 = true then [(q : Int) + 1] else []) := by show _ = _; rw [hb3]; exact n3_nat p q X
  have HC3 := Lib.hid hb3; clear hb3
  obtain ⟨b4, hb4⟩ : ∃ c, c = decide ((q : Int) + (p : Int) < (X.length : Int) ∧ X.getD (q + p) 0 ≠ 2) := ⟨_, rfl⟩
  have E4 : Hid (n4 p q X = if b4 = true then [(q : Int) + (p : Int)] else []) := by show _ = _; rw [hb4]; exact n4_nat p q X
  have HC4 := Lib.hid hb4; clear hb4
  go_enter Tryd.func38, Tryd.ntmps38
  go_upto_region 2 with (fail)
  go_cut [21] (fun s wx => s = .bool b1 ∧ Hid (NR w wx p H b o un uc X ([]) (.slice (some ⟨w.heap.size + 1, 0, none⟩) 0 0)))
  case first =>
    by_cases g : p ≤ q
    · have gi : ((p : Int) ≤ (q : Int)) := by omega
      have hcj := HN.out.row.at' (j := q - p) (by rw [HUN.out]; omega)
      obtain ⟨x, hx⟩ : ∃ x, x = X.getD (q - p) 0 := ⟨_, rfl⟩
      rw [← hx] at hcj
      have HX := Lib.hid hx; clear hx
      by_cases h2 : x = 2
      · subst h2
        go_wp2_with fail
        go_meet; exact ⟨vbool (by rw [HC1.out]; symm; rw [decide_eq_false_iff_not]; intro h; exact h.2 HX.out.symm), HN⟩
      · have h2b : (x != 2) = true := by simpa using h2
        go_wp2_with fail
        go_meet; exact ⟨vbool (by rw [HC1.out]; symm; rw [decide_eq_true_iff]; exact ⟨gi, by rw [← HX.out]; exact h2⟩), HN⟩
    · have gi : ((q : Int) < (p : Int)) := by omega
      go_wp2_with fail
      go_meet; exact ⟨vbool (by rw [HC1.out]; symm; rw [decide_eq_false_iff_not]; intro h; have := h.1; have := HUN.out; omega), HN⟩
  case rest =>
    obtain ⟨rfl, M1⟩ := hcut
    clear c0 c1 c2
    go_upto_if 21 with (fail)
    go_cut [5] (fun s wx => Hid (NR w wx p H b o un uc X (n1 p q X) s))
    case first =>
      obtain ⟨c0, c1, c2⟩ := M1.out.box.three
      have hll : ([] : List Int).length ≤ 10 := by simp
      have hsz := M1.out.box.lt
      cases b1
      · go_wp2_with fail
        go_meet; exact (by have h := M1; rw [show (n1 p q X : List Int) = [] by rw [E1.out]; simp]; exact h)
      · have gi : ((p : Int) ≤ (q : Int)) := by have h := HC1.out; symm at h; rw [decide_eq_true_iff] at h; have := h.1; have := HUN.out; omega
        go_wp2_with (at_builtin; go_loud (refine wpList_append_one _ rfl _ _ 24 rfl (w.heap.size + 1) 3 i0 (.int .i64 0) 8 Tryd.underlying24 hi hz0 hz1 hz2 rfl .i64 _ ([]) rfl M1.out.own ((q : Int) - (p : Int)) rfl (i64_mk (by omega)) (by omega) (by decide) (by omega) ?_); intro v3 w3 hown3 hgrow3; have HO3 := Lib.hid hown3; have HG3 := Lib.hid hgrow3; clear hown3 hgrow3)
        go_meet; exact (by have h := M1.out.more HO3.out HG3.out HBW.out; rw [show (n1 p q X : List Int) = [] ++ [(q : Int) - (p : Int)] by rw [E1.out]; simp]; exact h)
    case rest =>
      have Q1 := hcut; clear hcut
      go_upto_region 4 with (fail)
      go_cut [42] (fun s wx => s = .bool b2 ∧ Hid (NR w wx p H b o un uc X (n1 p q X) (u5)))
      case first =>
        obtain ⟨c0, c1, c2⟩ := Q1.out.box.three
        by_cases g : 0 < q % p
        · have gi : ((0 : Int) < (q : Int) % (p : Int)) := by rw [HM.out]; omega
          have hcj := Q1.out.row.at' (j := q - 1) (by rw [HUN.out]; omega)
          obtain ⟨x, hx⟩ : ∃ x, x = X.getD (q - 1) 0 := ⟨_, rfl⟩
          rw [← hx] at hcj
          have HX := Lib.hid hx; clear hx
          have hq1 : 1 ≤ q := by have := Nat.mod_le q p; omega
          by_cases h2 : x = 2
          · subst h2
            go_wp2_with fail
            go_meet; exact ⟨vbool (by rw [HC2.out]; symm; rw [decide_eq_false_iff_not]; intro h; exact h.2 HX.out.symm), Q1⟩
          · have h2b : (x != 2) = true := by simpa using h2
            go_wp2_with fail
            go_meet; exact ⟨vbool (by rw [HC2.out]; symm; rw [decide_eq_true_iff]; exact ⟨gi, by rw [← HX.out]; exact h2⟩), Q1⟩
        · have gi : ((q : Int) % (p : Int) ≤ 0) := by rw [HM.out]; omega
          go_wp2_with fail
          go_meet; exact ⟨vbool (by rw [HC2.out]; symm; rw [decide_eq_false_iff_not]; intro h; have := h.1; have := HUN.out; omega), Q1⟩
      case rest =>
        obtain ⟨rfl, M2⟩ := hcut
        go_upto_if 42 with (fail)
        go_cut [5] (fun s wx => Hid (NR w wx p H b o un uc X (n1 p q X ++ n2 p q X) s))
        case first =>
          obtain ⟨c0, c1, c2⟩ := M2.out.box.three
          have hll : (n1 p q X : List Int).length ≤ 10 := by have := n1_len p q X; omega
          have hsz := M2.out.box.lt
          cases b2
          · go_wp2_with fail
            go_meet; exact (by have h := M2; rw [show (n1 p q X ++ n2 p q X : List Int) = n1 p q X by rw [E2.out]; simp]; exact h)
          · have gi : ((0 : Int) < (q : Int) % (p : Int)) := by have h := HC2.out; symm at h; rw [decide_eq_true_iff] at h; have := h.1; have := HUN.out; omega
            have hq1 : 1 ≤ q := by have := Nat.mod_le q p; rw [HM.out] at gi; omega
            go_wp2_with (at_builtin; go_loud (refine wpList_append_one _ rfl _ _ 24 rfl (w.heap.size + 1) 3 i0 (.int .i64 0) 8 Tryd.underlying24 hi hz0 hz1 hz2 rfl .i64 _ (n1 p q X) rfl M2.out.own ((q : Int) - 1) rfl (i64_mk (by omega)) (by omega) (by decide) (by omega) ?_); intro v3 w3 hown3 hgrow3; have HO3 := Lib.hid hown3; have HG3 := Lib.hid hgrow3; clear hown3 hgrow3)
            go_meet; exact (by have h := M2.out.more HO3.out HG3.out HBW.out; rw [show (n1 p q X ++ n2 p q X : List Int) = n1 p q X ++ [(q : Int) - 1] by rw [E2.out]; simp]; exact h)
        case rest =>
          have Q2 := hcut; clear hcut
          go_upto_region 6 with (fail)
          go_cut [64] (fun s wx => s = .bool b3 ∧ Hid (NR w wx p H b o un uc X (n1 p q X ++ n2 p q X) (u5)))
          case first =>
            obtain ⟨c0, c1, c2⟩ := Q2.out.box.three
            by_cases g : q % p + 1 < p
            · have gi : ((q : Int) % (p : Int) < (p : Int) - 1) := by rw [HM.out]; omega
              have hcj := Q2.out.row.at' (j := q + 1) (by exact HR.out g)
              obtain ⟨x, hx⟩ : ∃ x, x = X.getD (q + 1) 0 := ⟨_, rfl⟩
              rw [← hx] at hcj
              have HX := Lib.hid hx; clear hx
              have hir : (q : Int) + 1 < (un : Int) := by have := HR.out g; have := HUN.out; omega
              by_cases h2 : x = 2
              · subst h2
                go_quiet (fail)
                go_wp2_with fail
                go_meet; exact ⟨vbool (by rw [HC3.out]; symm; rw [decide_eq_false_iff_not]; intro h; exact h.2 HX.out.symm), Lib.hid (Q2.out.on (grown_drewN (World.grownBy.refl _ none) _))⟩
              · have h2b : (x != 2) = true := by simpa using h2
                go_quiet (fail)
                go_wp2_with fail
                go_meet; exact ⟨vbool (by rw [HC3.out]; symm; rw [decide_eq_true_iff]; exact ⟨gi, by rw [← HX.out]; exact h2⟩), Lib.hid (Q2.out.on (grown_drewN (World.grownBy.refl _ none) _))⟩
            · have gi : ((p : Int) - 1 ≤ (q : Int) % (p : Int)) := by rw [HM.out]; omega
              have gd : decide ((q : Int) % (p : Int) < (p : Int) - 1) = false := by rw [decide_eq_false_iff_not]; omega
              go_quiet (fail)
              go_wp2_with fail
              go_meet; exact ⟨vbool (by rw [HC3.out]; symm; rw [decide_eq_false_iff_not]; intro h; have := h.1; have := HUN.out; omega), Lib.hid (Q2.out.on (grown_drewN (World.grownBy.refl _ none) _))⟩
          case rest =>
            obtain ⟨rfl, M3⟩ := hcut
            go_upto_if 64 with (fail)
            go_cut [5] (fun s wx => Hid (NR w wx p H b o un uc X (n1 p q X ++ n2 p q X ++ n3 p q X) s))
            case first =>
              obtain ⟨c0, c1, c2⟩ := M3.out.box.three
              have hll : (n1 p q X ++ n2 p q X : List Int).length ≤ 10 := by have := n1_len p q X; have := n2_len p q X; simp only [List.length_append]; omega
              have hsz := M3.out.box.lt
              cases b3
              · go_wp2_with fail
                go_meet; exact (by have h := M3; rw [show (n1 p q X ++ n2 p q X ++ n3 p q X : List Int) = n1 p q X ++ n2 p q X by rw [E3.out]; simp]; exact h)
              · have gi : ((q : Int) % (p : Int) < (p : Int) - 1) := by have h := HC3.out; symm at h; rw [decide_eq_true_iff] at h; have := h.1; have := HUN.out; omega
                go_wp2_with (at_builtin; go_loud (refine wpList_append_one _ rfl _ _ 24 rfl (w.heap.size + 1) 3 i0 (.int .i64 0) 8 Tryd.underlying24 hi hz0 hz1 hz2 rfl .i64 _ (n1 p q X ++ n2 p q X) rfl M3.out.own ((q : Int) + 1) rfl (i64_mk (by omega)) (by omega) (by decide) (by omega) ?_); intro v3 w3 hown3 hgrow3; have HO3 := Lib.hid hown3; have HG3 := Lib.hid hgrow3; clear hown3 hgrow3)
                go_meet; exact (by have h := M3.out.more HO3.out HG3.out HBW.out; rw [show (n1 p q X ++ n2 p q X ++ n3 p q X : List Int) = n1 p q X ++ n2 p q X ++ [(q : Int) + 1] by rw [E3.out]; simp]; exact h)
            case rest =>
              have Q3 := hcut; clear hcut
              go_upto_region 8 with (fail)
              go_cut [88] (fun s wx => s = .bool b4 ∧ Hid (NR w wx p H b o un uc X (n1 p q X ++ n2 p q X ++ n3 p q X) (u5)))
              case first =>
                obtain ⟨c0, c1, c2⟩ := Q3.out.box.three
                by_cases g : q + p < un
                · have gi : ((q : Int) + (p : Int) < (un : Int)) := by omega
                  have hcj := Q3.out.row.at' (j := q + p) (by rw [HUN.out]; omega)
                  obtain ⟨x, hx⟩ : ∃ x, x = X.getD (q + p) 0 := ⟨_, rfl⟩
                  rw [← hx] at hcj
                  have HX := Lib.hid hx; clear hx
                  by_cases h2 : x = 2
                  · subst h2
                    go_wp2_with fail
                    go_meet; exact ⟨vbool (by rw [HC4.out]; symm; rw [decide_eq_false_iff_not]; intro h; exact h.2 HX.out.symm), Q3⟩
                  · have h2b : (x != 2) = true := by simpa using h2
                    go_wp2_with fail
                    go_meet; exact ⟨vbool (by rw [HC4.out]; symm; rw [decide_eq_true_iff]; exact ⟨(by have := HUN.out; omega), by rw [← HX.out]; exact h2⟩), Q3⟩
                · have gi : ((un : Int) ≤ (q : Int) + (p : Int)) := by omega
                  go_wp2_with fail
                  go_meet; exact ⟨vbool (by rw [HC4.out]; symm; rw [decide_eq_false_iff_not]; intro h; have := h.1; have := HUN.out; omega), Q3⟩
              case rest =>
                obtain ⟨rfl, M4⟩ := hcut
                go_upto_if 88 with (fail)
                go_cut [5] (fun s wx => Hid (NR w wx p H b o un uc X (n1 p q X ++ n2 p q X ++ n3 p q X ++ n4 p q X) s))
                case first =>
                  obtain ⟨c0, c1, c2⟩ := M4.out.box.three
                  have hll : (n1 p q X ++ n2 p q X ++ n3 p q X : List Int).length ≤ 10 := by have := n1_len p q X; have := n2_len p q X; have := n3_len p q X; simp only [List.length_append]; omega
                  have hsz := M4.out.box.lt
                  cases b4
                  · go_wp2_with fail
                    go_meet; exact (by have h := M4; rw [show (n1 p q X ++ n2 p q X ++ n3 p q X ++ n4 p q X : List Int) = n1 p q X ++ n2 p q X ++ n3 p q X by rw [E4.out]; simp]; exact h)
                  · have gi : ((q : Int) + (p : Int) < (un : Int)) := by have h := HC4.out; symm at h; rw [decide_eq_true_iff] at h; have := h.1; have := HUN.out; omega
                    go_wp2_with (at_builtin; go_loud (refine wpList_append_one _ rfl _ _ 24 rfl (w.heap.size + 1) 3 i0 (.int .i64 0) 8 Tryd.underlying24 hi hz0 hz1 hz2 rfl .i64 _ (n1 p q X ++ n2 p q X ++ n3 p q X) rfl M4.out.own ((q : Int) + (p : Int)) rfl (i64_mk (by omega)) (by omega) (by decide) (by omega) ?_); intro v3 w3 hown3 hgrow3; have HO3 := Lib.hid hown3; have HG3 := Lib.hid hgrow3; clear hown3 hgrow3)
                    go_meet; exact (by have h := M4.out.more HO3.out HG3.out HBW.out; rw [show (n1 p q X ++ n2 p q X ++ n3 p q X ++ n4 p q X : List Int) = n1 p q X ++ n2 p q X ++ n3 p q X ++ [(q : Int) + (p : Int)] by rw [E4.out]; simp]; exact h)
                case rest =>
                  have Q4 := hcut; clear hcut
                  go_wp2
                  go_ret
                  exact ⟨_, rfl, by have h := Q4.out.own.lower (Nat.le_succ _); rw [near]; exact h, Q4.out.grown⟩
end Go.Proofs.YtbibkjponadipaaDoor.LandS
