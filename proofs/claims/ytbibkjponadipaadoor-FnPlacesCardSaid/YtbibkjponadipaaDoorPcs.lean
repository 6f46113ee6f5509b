/- Contracts of the program's step on a land's ground, and of what a walk and a sight leave. -/
import Derived.Test.YtbibkjponadipaaDoorPcw
import Derived.Test.YtbibkjponadipaaDoorApartI
namespace Go.Proofs.YtbibkjponadipaaDoor.Pc
open Go.RowKit Kit Rw Ld Bfs Wf

theorem stepW_eq (n op lm rm p : Nat) (hop : op < 2 ^ 64) (hlm : lm < 2 ^ 64) (hrm : rm < 2 ^ 64) (hp : p < 2 ^ 64) :
    bits BinOp.and IntKind.u64 (op : Int) (bits BinOp.or IntKind.u64 (bits BinOp.or IntKind.u64 (bits BinOp.or IntKind.u64 (bits BinOp.or IntKind.u64 (p : Int) (bits BinOp.andNot IntKind.u64 (p : Int) (lm : Int) / 2)) (IntKind.u64.wrap (bits BinOp.andNot IntKind.u64 (p : Int) (rm : Int) * 2))) ((p : Int) / 2 ^ n)) (IntKind.u64.wrap ((p : Int) * 2 ^ n))) = ((stepW n op lm rm p : Nat) : Int) := by
  have a1 := andN_lt (b := lm) hp
  have a2 := andN_lt (b := rm) hp
  have b1 := shr_lt 1 a1
  have b2 := shl_lt (andN p rm) 1
  have b3 := shr_lt n hp
  have b4 := shl_lt p n
  have e1 : ((andN p lm : Nat) : Int) / 2 = ((andN p lm / 2 ^ 1 : Nat) : Int) := shr_eq _ 1
  have e2 : IntKind.u64.wrap (((andN p rm : Nat) : Int) * 2) = ((andN p rm * 2 ^ 1 % 18446744073709551616 : Nat) : Int) := shl_eq _ 1
  rw [bits_andN _ _ hp hlm, bits_andN _ _ hp hrm, e1, e2, shr_eq, shl_eq]
  have c1 := Nat.or_lt_two_pow hp b1
  have c2 := Nat.or_lt_two_pow c1 b2
  have c3 := Nat.or_lt_two_pow c2 b3
  have c4 := Nat.or_lt_two_pow c3 b4
  rw [bits_or_u64_nat _ _ hp b1, bits_or_u64_nat _ _ c1 b2, bits_or_u64_nat _ _ c2 b3, bits_or_u64_nat _ _ c3 b4, bits_and_u64_nat _ _ hop c4]
  rfl
set_option maxRecDepth 20000 in
set_option maxHeartbeats 4000000 in
theorem gstep_any (w : World) (n : Nat) (H : Int) (a : Option Addr) (an ac op lm rm p : Nat) (h1 : 1 ≤ n) (h8 : n ≤ 8) (hop : op < 2 ^ 64) (hlm : lm < 2 ^ 64) (hrm : rm < 2 ^ 64) (hp : p < 2 ^ 64) :
    Calls Tryd.prog 63 #[.agg (gcs (n : Int) H (.slice a an ac) op lm rm), .int .u64 (p : Int)] w fun e w' => e = .returned (.int .u64 ((stepW n op lm rm p : Nat) : Int)) ∧ w.grownBy w' none := by
  have HB := Lib.hid (box_new w (gcs (n : Int) H (.slice a an ac) op lm rm) 60)
  have HG := Lib.hid (World.grownBy_alloc w (.cells (gcs (n : Int) H (.slice a an ac) op lm rm) 60 (0, 0)) none)
  have l0 := HB.out.cell 0
  have l3 := HB.out.cell 3
  have l4 := HB.out.cell 4
  have l5 := HB.out.cell 5
  simp only [List.getElem?_toArray, List.getElem?_cons_succ, List.getElem?_cons_zero] at l0 l3 l4 l5
  have n0 : (0 : Int) ≤ (n : Int) := by omega
  have n64 : (n : Int) ≤ 64 := by omega
  have HE := Lib.hid (stepW_eq n op lm rm p hop hlm hrm hp)
  go_enter Tryd.func63, Tryd.ntmps63
  go_wp2_with fail
  go_ret
  exact ⟨congrArg (fun z : Int => Ending.returned (Value.int .u64 z)) HE.out, HG.out⟩
/-- The words of a ground on a valid land. -/
theorem gnd_lt {W H : Int} {X : List Int} (hL : isLand W H X = true) : opW X < 2 ^ 64 ∧ lmW W X < 2 ^ 64 ∧ rmW W X < 2 ^ 64 := ⟨(gnd hL).opl, (gnd hL).lml, (gnd hL).rml⟩
theorem stepN_lt {W H : Int} {X F : List Int} (hL : isLand W H X = true) : ∀ s, stepN W.toNat (opW X) (lmW W X) (rmW W X) s (fromW W H X F F.length) < 2 ^ 64
  | 0 => fromW_lt _ _ _ _ _
  | s + 1 => stepW_lt (gnd hL).opl
theorem ret_u {a b : Int} (h : a = b) : Ending.returned (.int .u64 a) = .returned (.int .u64 b) := by rw [h]

set_option maxRecDepth 20000 in
set_option maxHeartbeats 8000000 in
theorem walkIn_any (w : World) (W H s : Int) (v u : Value) (X F : List Int) (hv : Sees .i64 w v X) (hu : Sees .i64 w u F) (hL : isLand W H X = true) (hs : -9223372036854775808 ≤ s ∧ s ≤ 9223372036854775807) :
    Calls Tryd.prog 62 #[.agg #[u, .int .i64 s], .agg (gcs W H v (opW X) (lmW W X) (rmW W X))] w fun e w' => e = .returned (.int .u64 ((walkW W H X F s : Nat) : Int)) ∧ w.grownBy w' none := by
  obtain ⟨va, vn, vc, rfl, HVN⟩ := hv.shape
  have huc := hu.len
  obtain ⟨ua, un, uc, rfl, HUN⟩ := hu.shape
  have HV := Lib.hid hv
  have HU := Lib.hid hu
  have HL := Lib.hid hL
  obtain ⟨g1, g2, g3⟩ := gnd_lt hL
  obtain ⟨⟨hW1, hW8⟩, _, _, _⟩ := isLand_of hL
  obtain ⟨n, rfl⟩ : ∃ n : Nat, W = n := ⟨W.toNat, by omega⟩
  have HST := Lib.hid fun w' p (hp : p < 2 ^ 64) => gstep_any w' n H va vn vc (opW X) (lmW n X) (rmW n X) p (by omega) (by omega) g1 g2 g3 hp
  have HOP := Lib.hid fun w' x (hg : w.grownBy w' none) => LandI.isOpen_any w' n H x (.slice va vn vc) X (hv.grown hg)
  have HUC : Hid (un ≤ 9223372036854775807) := by show _ ≤ _; rw [← HUN.out]; exact huc
  have b1 := (box_new w #[.slice ua un uc, .int .i64 s] 46).grown (World.grownBy_alloc (w.alloc (.cells #[.slice ua un uc, .int .i64 s] 46 (0, 0))) (.cells (gcs n H (.slice va vn vc) (opW X) (lmW n X) (rmW n X)) 60 (0, 0)) none)
  have b2 := box_new (w.alloc (.cells #[.slice ua un uc, .int .i64 s] 46 (0, 0))) (gcs n H (.slice va vn vc) (opW X) (lmW n X) (rmW n X)) 60
  have g0 := grownN_trans (World.grownBy_alloc w (.cells #[.slice ua un uc, .int .i64 s] 46 (0, 0)) none) (World.grownBy_alloc (w.alloc (.cells #[.slice ua un uc, .int .i64 s] 46 (0, 0))) (.cells (gcs n H (.slice va vn vc) (opW X) (lmW n X) (rmW n X)) 60 (0, 0)) none)
  simp only [World.size_alloc] at b2
  obtain ⟨op, hop⟩ : ∃ x, x = opW X := ⟨_, rfl⟩
  obtain ⟨lm, hlm⟩ : ∃ x, x = lmW n X := ⟨_, rfl⟩
  obtain ⟨rm, hrm⟩ : ∃ x, x = rmW n X := ⟨_, rfl⟩
  rw [← hop, ← hlm, ← hrm] at HST b1 b2 g0 ⊢
  have HB1 := Lib.hid b1
  have HB2 := Lib.hid b2
  have HG0 := Lib.hid g0
  have HWW : Hid (walkW n H X F s = if s < 0 then 0 else stepN n op lm rm s.toNat (fromW n H X F F.length)) := by show _ = _; rw [hop, hlm, hrm]; rfl
  have HLT : Hid (∀ k, stepN n op lm rm k (fromW n H X F F.length) < 2 ^ 64) := fun k => by rw [hop, hlm, hrm]; exact stepN_lt (W := n) HL.out k
  have HC : Hid (∀ wy, ((w.alloc (.cells #[.slice ua un uc, .int .i64 s] 46 (0, 0))).alloc (.cells (gcs n H (.slice va vn vc) op lm rm) 60 (0, 0))).grownBy wy none → (wy.cell? ⟨w.heap.size, 0, none⟩ = some (.slice ua un uc) ∧ wy.cell? ⟨w.heap.size, 1, none⟩ = some (.int .i64 s)) ∧ (wy.cell? ⟨w.heap.size + 1, 0, none⟩ = some (.int .i64 n) ∧ wy.cell? ⟨w.heap.size + 1, 1, none⟩ = some (.int .i64 H) ∧ wy.cell? ⟨w.heap.size + 1, 2, none⟩ = some (.slice va vn vc)) ∧ (wy.cell? ⟨w.heap.size + 1, 3, none⟩ = some (.int .u64 (op : Int)) ∧ wy.cell? ⟨w.heap.size + 1, 4, none⟩ = some (.int .u64 (lm : Int)) ∧ wy.cell? ⟨w.heap.size + 1, 5, none⟩ = some (.int .u64 (rm : Int)))) := fun wy hg => ⟨⟨(HB1.out.grown hg).cell 0, (HB1.out.grown hg).cell 1⟩, ⟨(HB2.out.grown hg).cell 0, (HB2.out.grown hg).cell 1, (HB2.out.grown hg).cell 2⟩, (HB2.out.grown hg).cell 3, (HB2.out.grown hg).cell 4, (HB2.out.grown hg).cell 5⟩
  have HUX : Hid (∀ wy, ((w.alloc (.cells #[.slice ua un uc, .int .i64 s] 46 (0, 0))).alloc (.cells (gcs n H (.slice va vn vc) op lm rm) 60 (0, 0))).grownBy wy none → Sees .i64 wy (.slice ua un uc) F ∧ w.grownBy wy none) := fun wy hg => ⟨HU.out.grown (grownN_trans HG0.out hg), grownN_trans HG0.out hg⟩
  clear hv hu hL g1 g2 g3 hW1 hW8 hop hlm hrm b1 b2 g0 huc
  obtain ⟨⟨c0, c1⟩, ⟨d0, d1, d2⟩, d3, d4, d5⟩ := HC.out _ (World.grownBy.refl _ none)
  go_enter Tryd.func62, Tryd.ntmps62
  by_cases h0 : s < 0
  · have HR : Hid (walkW n H X F s = 0) := by show _ = _; rw [HWW.out, if_pos h0]
    go_wp2
    go_ret
    exact ⟨ret_u (by rw [HR.out]; rfl), HG0.out⟩
  obtain ⟨sn, rfl⟩ : ∃ sn : Nat, s = sn := ⟨s.toNat, by omega⟩
  have HR : Hid (walkW n H X F sn = stepN n op lm rm sn (fromW n H X F F.length)) := by show _ = _; rw [HWW.out, if_neg h0, Int.toNat_natCast]
  have HSN := Lib.hid hs
  clear hs
  go_wp2_with fail
  generalize (w.alloc (.cells #[.slice ua un uc, .int .i64 (sn : Int)] 46 (0, 0))).alloc (.cells (gcs n H (.slice va vn vc) op lm rm) 60 (0, 0)) = W2 at *
  clear c0 c1 d0 d1 d2 d3 d4 d5
  go_loopw [5, 16] (fun p i wr => ∃ j : Nat, j ≤ un ∧ i = .int .i64 j ∧ p = .int .u64 ((fromW n H X F j : Nat) : Int) ∧ Hid (W2.grownBy wr none)) (fun _ i _ => un - (intOf i).toNat)
  case atStart => exact ⟨0, Nat.zero_le _, rfl, rfl, World.grownBy.refl _ _⟩
  case round =>
    obtain ⟨j, hj, rfl, rfl, HG⟩ := hrel
    by_cases hlt : j < un
    · obtain ⟨x, hx⟩ : ∃ x, x = F.getD j 0 := ⟨_, rfl⟩
      obtain ⟨⟨c0, c1⟩, ⟨d0, d1, d2⟩, d3, d4, d5⟩ := HC.out _ HG.out
      obtain ⟨hsu, _⟩ := HUX.out _ HG.out
      obtain ⟨b, o, rfl, _⟩ := HU.out.at_row (j := j) (by rw [HUN.out]; exact hlt)
      have hcj := hsu.at' (j := j) (by rw [HUN.out]; exact hlt)
      rw [← hx] at hcj
      obtain ⟨p, hp⟩ : ∃ p, p = fromW n H X F j := ⟨_, rfl⟩
      have hpl : p < 2 ^ 64 := by rw [hp]; exact fromW_lt _ _ _ _ _
      have hnx : fromW n H X F (j + 1) = if isOpen n H X x = true then p ||| 2 ^ x.toNat else p := by show (if _ then _ else _) = _; rw [hx, hp]
      have huc := HUC.out
      rw [← hp]
      clear hx hp hsu
      cases ho : isOpen n H X x
      · have HNX : Hid (fromW n H X F (j + 1) = p) := by show _ = _; rw [hnx, if_neg (by rw [ho]; decide)]
        have HI := Lib.hid fun w' hg => HOP.out w' x hg
        rw [ho] at HI
        clear ho hnx hpl
        go_wp2_with fail
        refine (HI.out _ (HUX.out _ HG.out).2).mono ?_
        rintro e w4 ⟨rfl, hg⟩
        have HG4 := Lib.hid (grownN_trans HG.out hg)
        clear hg c0 c1 d0 d1 d2 d3 d4 d5 hcj
        go_wp2_with fail
        go_roundw
        case rel => exact ⟨j + 1, by omega, by go_num, by rw [HNX.out], HG4⟩
        case measure => simp [intOf]; omega
      · have HNX : Hid (fromW n H X F (j + 1) = p ||| 2 ^ x.toNat) := by show _ = _; rw [hnx, if_pos ho]
        have h9 := open_lt ho
        have HI := Lib.hid fun w' hg => HOP.out w' x hg
        rw [ho] at HI
        obtain ⟨m, rfl⟩ : ∃ m : Nat, x = m := ⟨x.toNat, by omega⟩
        rw [Int.toNat_natCast] at HNX
        have HW := Lib.hid fun w' => with_any w' p m hpl (by omega)
        clear ho hnx hpl h9
        go_wp2_with fail
        refine (HI.out _ (HUX.out _ HG.out).2).mono ?_
        rintro e w4 ⟨rfl, hg⟩
        have HG4 := Lib.hid (grownN_trans HG.out hg)
        clear hg c0 c1 d0 d1 d2 d3 d4 d5 hcj
        go_wp2_with fail
        refine (HW.out _).mono ?_
        rintro e w5 ⟨rfl, rfl⟩
        go_wp2_with fail
        go_roundw
        case rel => exact ⟨j + 1, by omega, by go_num, by rw [HNX.out], HG4⟩
        case measure => simp [intOf]; omega
    · have hju : un = j := by omega
      subst hju
      obtain ⟨⟨c0, c1⟩, _, _⟩ := HC.out _ HG.out
      rw [HUN.out] at HR HLT
      obtain ⟨q, hq⟩ : ∃ q, q = fromW n H X F un := ⟨_, rfl⟩
      rw [← hq] at HR HLT ⊢
      clear hq
      go_wp2_with fail
      clear c0 c1
      go_loopw [5, 8, 30] (fun p _ i wr => ∃ j : Nat, j ≤ sn ∧ i = .int .i64 j ∧ p = .int .u64 ((stepN n op lm rm j q : Nat) : Int) ∧ Hid (W2.grownBy wr none)) (fun _ _ i _ => sn - (intOf i).toNat)
      case atStart => exact ⟨0, Nat.zero_le _, rfl, rfl, HG⟩
      case round =>
        obtain ⟨j, hj, rfl, rfl, HK⟩ := hrel
        by_cases hlt : j < sn
        · obtain ⟨_, ⟨d0, d1, d2⟩, d3, d4, d5⟩ := HC.out _ HK.out
          obtain ⟨p, hp⟩ : ∃ p, p = stepN n op lm rm j q := ⟨_, rfl⟩
          have hpl : p < 2 ^ 64 := by rw [hp]; exact HLT.out j
          have hnx : stepN n op lm rm (j + 1) q = stepW n op lm rm p := by rw [hp]; rfl
          have HNX := Lib.hid hnx
          have HP := Lib.hid hp
          have HSS := Lib.hid fun w' => HST.out w' p hpl
          obtain ⟨p2, hp2⟩ : ∃ p2, p2 = stepW n op lm rm p := ⟨_, rfl⟩
          have hsn := HSN.out
          rw [← hp2] at HNX HSS
          rw [← hp]
          clear hp hnx hp2 hpl
          by_cases he : p2 = p
          · have heb : ((p2 : Int) == (p : Int)) = true := by rw [beq_iff_eq]; omega
            have HEQ : Hid (stepN n op lm rm sn q = p2) := by
              show _ = _
              have h1 : stepN n op lm rm (j + 1) q = stepN n op lm rm j q := by rw [HNX.out, ← HP.out]; exact he
              have h2 := stepN_stop h1 (sn - j)
              rw [show j + (sn - j) = sn by omega] at h2
              rw [h2, ← HP.out]; exact he.symm
            clear he
            go_wp2_with fail
            refine (HSS.out _).mono ?_
            rintro e w4 ⟨rfl, hg⟩
            have HG4 := Lib.hid (grownN_trans HK.out hg)
            clear hg d0 d1 d2 d3 d4 d5
            go_wp2
            go_ret
            exact ⟨ret_u (by rw [HR.out, HEQ.out]), (HUX.out _ HG4.out).2⟩
          · have heb : ((p2 : Int) == (p : Int)) = false := by rw [beq_eq_false_iff_ne]; omega
            clear he
            go_wp2_with fail
            refine (HSS.out _).mono ?_
            rintro e w4 ⟨rfl, hg⟩
            have HG4 := Lib.hid (grownN_trans HK.out hg)
            clear hg d0 d1 d2 d3 d4 d5
            go_wp2_with fail
            go_roundw
            case rel => exact ⟨j + 1, by omega, by go_num, by rw [HNX.out], HG4⟩
            case measure => simp [intOf]; omega
        · have hjs : sn = j := by omega
          subst hjs
          go_wp2
          go_ret
          exact ⟨ret_u (by rw [HR.out]), (HUX.out _ HK.out).2⟩

set_option maxRecDepth 20000 in
set_option maxHeartbeats 8000000 in
theorem sightIn_any (w : World) (W H m f : Int) (v : Value) (X : List Int) (hv : Sees .i64 w v X) (hL : isLand W H X = true) :
    Calls Tryd.prog 64 #[.agg #[.int .i64 m, .int .i64 f], .agg (gcs W H v (opW X) (lmW W X) (rmW W X))] w fun e w' => e = .returned (.int .u64 ((sightW W H X m f : Nat) : Int)) ∧ w.grownBy w' none := by
  have h64 := len64 hL
  obtain ⟨va, vn, vc, rfl, HVN⟩ := hv.shape
  have HN64 : Hid (vn ≤ 64) := by show _ ≤ _; rw [← HVN.out]; exact h64
  have HCE := Lib.hid fun w' (hg : w.grownBy w' none) => LandI.isCell_any w' W H m (.slice va vn vc) X (hv.grown hg)
  have HAP := Lib.hid fun w' (j : Nat) (hg : w.grownBy w' none) => LandI.apart_any w' W H j m (.slice va vn vc) X (hv.grown hg)
  have b1 := (box_new w #[.int .i64 m, .int .i64 f] 49).grown (World.grownBy_alloc (w.alloc (.cells #[.int .i64 m, .int .i64 f] 49 (0, 0))) (.cells (gcs W H (.slice va vn vc) (opW X) (lmW W X) (rmW W X)) 60 (0, 0)) none)
  have b2 := box_new (w.alloc (.cells #[.int .i64 m, .int .i64 f] 49 (0, 0))) (gcs W H (.slice va vn vc) (opW X) (lmW W X) (rmW W X)) 60
  have g0 := grownN_trans (World.grownBy_alloc w (.cells #[.int .i64 m, .int .i64 f] 49 (0, 0)) none) (World.grownBy_alloc (w.alloc (.cells #[.int .i64 m, .int .i64 f] 49 (0, 0))) (.cells (gcs W H (.slice va vn vc) (opW X) (lmW W X) (rmW W X)) 60 (0, 0)) none)
  simp only [World.size_alloc] at b2
  have HOL := Lib.hid (gnd_lt hL).1
  obtain ⟨op, hop⟩ : ∃ x, x = opW X := ⟨_, rfl⟩
  generalize lmW W X = lm at *
  generalize rmW W X = rm at *
  rw [← hop] at b1 b2 g0 HOL ⊢
  have HB1 := Lib.hid b1
  have HB2 := Lib.hid b2
  have HG0 := Lib.hid g0
  have HWW : Hid (sightW W H X m f = if isCell W H X m = true then setW (sightF W H X m f) X.length &&& op else 0) := by show _ = _; rw [hop]; rfl
  have HC : Hid (∀ wy, ((w.alloc (.cells #[.int .i64 m, .int .i64 f] 49 (0, 0))).alloc (.cells (gcs W H (.slice va vn vc) op lm rm) 60 (0, 0))).grownBy wy none → (wy.cell? ⟨w.heap.size, 0, none⟩ = some (.int .i64 m) ∧ wy.cell? ⟨w.heap.size, 1, none⟩ = some (.int .i64 f)) ∧ (wy.cell? ⟨w.heap.size + 1, 0, none⟩ = some (.int .i64 W) ∧ wy.cell? ⟨w.heap.size + 1, 1, none⟩ = some (.int .i64 H) ∧ wy.cell? ⟨w.heap.size + 1, 2, none⟩ = some (.slice va vn vc)) ∧ wy.cell? ⟨w.heap.size + 1, 3, none⟩ = some (.int .u64 (op : Int))) := fun wy hg => ⟨⟨(HB1.out.grown hg).cell 0, (HB1.out.grown hg).cell 1⟩, ⟨(HB2.out.grown hg).cell 0, (HB2.out.grown hg).cell 1, (HB2.out.grown hg).cell 2⟩, (HB2.out.grown hg).cell 3⟩
  have HUX : Hid (∀ wy, ((w.alloc (.cells #[.int .i64 m, .int .i64 f] 49 (0, 0))).alloc (.cells (gcs W H (.slice va vn vc) op lm rm) 60 (0, 0))).grownBy wy none → w.grownBy wy none) := fun wy hg => grownN_trans HG0.out hg
  clear hv hL hop b1 b2 g0 h64
  obtain ⟨⟨c0, c1⟩, ⟨d0, d1, d2⟩, d3⟩ := HC.out _ (World.grownBy.refl _ none)
  cases hc : isCell W H X m
  · have HR : Hid (sightW W H X m f = 0) := by show _ = _; rw [HWW.out, if_neg (by rw [hc]; decide)]
    rw [hc] at HCE
    clear hc
    go_enter Tryd.func64, Tryd.ntmps64
    go_wp2_with fail
    refine (HCE.out _ HG0.out).mono ?_
    rintro e w4 ⟨rfl, hg⟩
    have HG4 := Lib.hid (grownN_trans HG0.out hg)
    clear hg
    go_wp2
    go_ret
    exact ⟨ret_u (by rw [HR.out]; rfl), HG4.out⟩
  have HR : Hid (sightW W H X m f = setW (sightF W H X m f) X.length &&& op) := by show _ = _; rw [HWW.out, if_pos hc]
  rw [hc] at HCE
  clear hc
  go_enter Tryd.func64, Tryd.ntmps64
  go_wp2_with fail
  generalize (w.alloc (.cells #[.int .i64 m, .int .i64 f] 49 (0, 0))).alloc (.cells (gcs W H (.slice va vn vc) op lm rm) 60 (0, 0)) = W2 at *
  refine (HCE.out _ HG0.out).mono ?_
  rintro e w4 ⟨rfl, hg⟩
  have HG4 := Lib.hid hg
  clear hg c0 c1 d0 d1 d2 d3
  obtain ⟨⟨c0, c1⟩, ⟨d0, d1, d2⟩, d3⟩ := HC.out _ HG4.out
  go_wp2_with fail
  clear c0 c1 d0 d1 d2 d3
  go_loopw [5, 18] (fun p i wr => ∃ j : Nat, j ≤ vn ∧ i = .int .i64 j ∧ p = .int .u64 ((setW (sightF W H X m f) j : Nat) : Int) ∧ Hid (W2.grownBy wr none)) (fun _ i _ => vn - (intOf i).toNat)
  case atStart => exact ⟨0, Nat.zero_le _, rfl, rfl, HG4⟩
  case round =>
    obtain ⟨j, hj, rfl, rfl, HG⟩ := hrel
    by_cases hlt : j < vn
    · have hv64 := HN64.out
      obtain ⟨p, hp⟩ : ∃ p, p = setW (sightF W H X m f) j := ⟨_, rfl⟩
      have hpl : p < 2 ^ 64 := by rw [hp]; exact setW_lt _ (by omega)
      obtain ⟨z, hz⟩ : ∃ z, z = apart W H X j m := ⟨_, rfl⟩
      have HW := Lib.hid fun w' => with_any w' p j hpl (by omega)
      have HA := Lib.hid fun w' hg => HAP.out w' j hg
      rw [← hz] at HA
      have HQ0 := Lib.hid (grownN_trans HG.out (grown_drew (World.grownBy.refl _ none)))
      by_cases he : z = f
      · have HNX : Hid (setW (sightF W H X m f) (j + 1) = p ||| 2 ^ j) := by show _ = _; rw [setW_yes, hp]; unfold sightF; rw [decide_eq_true_eq, ← hz]; exact he
        have heb : (z == f) = true := by rw [beq_iff_eq]; exact he
        rw [← hp]
        clear hp hz he hpl
        go_wp2_with fail
        go_region_held3 (fun w' => (w'.cell? ⟨w.heap.size, 0, none⟩ = some (.int .i64 m) ∧ w'.cell? ⟨w.heap.size, 1, none⟩ = some (.int .i64 f)) ∧ (w'.cell? ⟨w.heap.size + 1, 0, none⟩ = some (.int .i64 W) ∧ w'.cell? ⟨w.heap.size + 1, 1, none⟩ = some (.int .i64 H) ∧ w'.cell? ⟨w.heap.size + 1, 2, none⟩ = some (.slice va vn vc)) ∧ w'.cell? ⟨w.heap.size + 1, 3, none⟩ = some (.int .u64 (op : Int))) (first | exact HC.out _ HQ0.out | exact HC.out _ HQ1.out) (first | (go_at_call 10; refine (HA.out _ (HUX.out _ HQ0.out)).mono ?_; rintro e w5 ⟨rfl, hg5⟩; have HQ1 := Lib.hid (grownN_trans HQ0.out hg5); clear hg5))
        go_wp2_with fail
        refine (HW.out _).mono ?_
        rintro e w6 ⟨rfl, rfl⟩
        go_wp2_with fail
        go_roundw
        case rel => exact ⟨j + 1, by omega, by go_num, by rw [HNX.out], HQ1⟩
        case measure => simp [intOf]; omega
      · have HNX : Hid (setW (sightF W H X m f) (j + 1) = p) := by show _ = _; rw [setW_no, hp]; unfold sightF; rw [decide_eq_true_eq, ← hz]; exact he
        have heb : (z == f) = false := by rw [beq_eq_false_iff_ne]; exact he
        rw [← hp]
        clear hp hz he hpl
        go_wp2_with fail
        go_region_held3 (fun w' => (w'.cell? ⟨w.heap.size, 0, none⟩ = some (.int .i64 m) ∧ w'.cell? ⟨w.heap.size, 1, none⟩ = some (.int .i64 f)) ∧ (w'.cell? ⟨w.heap.size + 1, 0, none⟩ = some (.int .i64 W) ∧ w'.cell? ⟨w.heap.size + 1, 1, none⟩ = some (.int .i64 H) ∧ w'.cell? ⟨w.heap.size + 1, 2, none⟩ = some (.slice va vn vc)) ∧ w'.cell? ⟨w.heap.size + 1, 3, none⟩ = some (.int .u64 (op : Int))) (first | exact HC.out _ HQ0.out | exact HC.out _ HQ1.out) (first | (go_at_call 10; refine (HA.out _ (HUX.out _ HQ0.out)).mono ?_; rintro e w5 ⟨rfl, hg5⟩; have HQ1 := Lib.hid (grownN_trans HQ0.out hg5); clear hg5))
        go_wp2_with fail
        go_roundw
        case rel => exact ⟨j + 1, by omega, by go_num, by rw [HNX.out], HQ1⟩
        case measure => simp [intOf]; omega
    · have hju : vn = j := by omega
      subst hju
      obtain ⟨⟨c0, c1⟩, ⟨d0, d1, d2⟩, d3⟩ := HC.out _ HG.out
      have hv64 := HN64.out
      rw [HVN.out] at HR
      obtain ⟨q, hq⟩ : ∃ q, q = setW (sightF W H X m f) vn := ⟨_, rfl⟩
      have hql : q < 2 ^ 64 := by rw [hq]; exact setW_lt _ (by omega)
      have hand : bits BinOp.and IntKind.u64 (q : Int) (op : Int) = ((q &&& op : Nat) : Int) := bits_and_u64_nat _ _ hql HOL.out
      rw [← hq] at HR ⊢
      clear hq hql
      go_wp2
      go_ret
      exact ⟨ret_u (by rw [HR.out]), HUX.out _ HG.out⟩
end Go.Proofs.YtbibkjponadipaaDoor.Pc
