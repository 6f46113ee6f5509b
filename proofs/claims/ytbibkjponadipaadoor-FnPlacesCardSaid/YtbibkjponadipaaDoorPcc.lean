/- Contracts of the cells that no clue rules out, of what can be and of what is seen: the program's. -/
import Derived.Test.YtbibkjponadipaaDoorPcs
import Derived.Test.YtbibkjponadipaaDoorVis
namespace Go.Proofs.YtbibkjponadipaaDoor.Pc
open Go.RowKit Kit Rw Rg Ld Bfs Wf

/-- A clue as an interface's value. -/
def encK : Enc (TypeId × Array Value) where
  size := 1
  cells := fun c => [.iface c.1 (.agg c.2)]
  dflt := (0, #[])
  ok := fun _ => True
  pos := Nat.zero_lt_one
  len := fun _ => rfl
  one := fun x v hv => by simp at hv; subst hv; rfl
def ClueP (w : World) (W H : Int) (X : List Int) (c : TypeId × Array Value) (p : Nat) : Prop :=
  (∃ a n cap s F, c = (46, #[.slice a n cap, .int .i64 s]) ∧ Sees .i64 w (.slice a n cap) F ∧ (-9223372036854775808 ≤ s ∧ s ≤ 9223372036854775807) ∧ p = walkW W H X F s) ∨
  (∃ m f, c = (49, #[.int .i64 m, .int .i64 f]) ∧ p = sightW W H X m f)
theorem ClueP.grown {w w' : World} {W H : Int} {X : List Int} {c : TypeId × Array Value} {p : Nat} (h : ClueP w W H X c p) (hg : w.grownBy w' none) : ClueP w' W H X c p := by
  rcases h with ⟨a, n, cap, s, F, h1, h2, h3, h4⟩ | h
  · exact .inl ⟨a, n, cap, s, F, h1, h2.grown hg, h3, h4⟩
  · exact .inr h
theorem ClueP.lt {w : World} {W H : Int} {X : List Int} {c : TypeId × Array Value} {p : Nat} (hL : isLand W H X = true) (h : ClueP w W H X c p) : p < 2 ^ 64 := by
  rcases h with ⟨a, n, cap, s, F, h1, h2, h3, h4⟩ | ⟨m, f, h1, h4⟩
  · rw [h4]; exact walkW_lt hL
  · rw [h4]; exact sightW_lt hL
def foldW (op : Nat) (g : Nat → Nat) : Nat → Nat
  | 0 => op
  | j + 1 => foldW op g j &&& g j
theorem foldW_lt {op : Nat} {g : Nat → Nat} (h : op < 2 ^ 64) : ∀ j, foldW op g j < 2 ^ 64
  | 0 => h
  | j + 1 => Nat.lt_of_le_of_lt Nat.and_le_left (foldW_lt h j)

set_option maxRecDepth 20000 in
set_option maxHeartbeats 8000000 in
theorem cellsBy_any (w : World) (W H : Int) (v u : Value) (X : List Int) (K : List (TypeId × Array Value)) (g : Nat → Nat) (hv : Sees .i64 w v X) (hu : SeesG encK w u K) (hK : isLand W H X = true → ∀ j, j < K.length → ClueP w W H X (K.getD j (0, #[])) (g j)) (hT : Tab w) :
    Calls Tryd.prog 21 #[.agg #[.int .i64 W, .int .i64 H, v], u] w fun e w' => ∃ r, e = .returned r ∧ Own .i64 3 w' w.heap.size r (if isLand W H X = true then els (foldW (opW X) g K.length) else []) ∧ w.grownBy w' none := by
  obtain ⟨va, vn, vc, rfl, HVN⟩ := hv.shape
  have huc := hu.len
  obtain ⟨ua, un, uc, rfl, HUN⟩ := hu.shape
  have g1 := World.grownBy_alloc w (.cells #[.int .i64 W, .int .i64 H, .slice va vn vc] 26 (0, 0)) (none : Option Nat)
  have HG1 := Lib.hid g1
  have HB1 := Lib.hid (box_new w #[.int .i64 W, .int .i64 H, .slice va vn vc] 26)
  have HV := Lib.hid hv
  have HU := Lib.hid hu
  have HT := Lib.hid hT
  have HKK := Lib.hid hK
  have HUC : Hid (un ≤ 9223372036854775807) := by show _ ≤ _; rw [← HUN.out]; exact huc
  have HIL := Lib.hid (LandI.isLand_any _ W H (.slice va vn vc) X (hv.grown g1))
  have l0 := HB1.out.cell 0
  have l1 := HB1.out.cell 1
  have l2 := HB1.out.cell 2
  simp only [List.getElem?_toArray, List.getElem?_cons_succ, List.getElem?_cons_zero] at l0 l1 l2
  clear hv hu hK hT g1 huc
  cases hL : isLand W H X
  · rw [hL] at HIL
    rw [if_neg (by decide)]
    go_enter Tryd.func21, Tryd.ntmps21
    go_wp2_with fail
    generalize w.alloc (.cells #[.int .i64 W, .int .i64 H, .slice va vn vc] 26 (0, 0)) = W1 at *
    refine HIL.out.mono ?_
    rintro e w3 ⟨rfl, hg⟩
    have HG3 := Lib.hid (grownN_trans HG1.out hg)
    clear hg l0 l1 l2
    go_wp2
    go_ret
    have ho := own_empty (k := .i64) (E := 3) w3
    exact ⟨_, rfl, ho.lower HG3.out.size, grownN_trans HG3.out (World.grownBy_alloc _ _ _)⟩
  rw [hL] at HIL
  rw [if_pos rfl]
  have HLL := Lib.hid hL
  have HOL := Lib.hid (gnd_lt hL).1
  have HGR := Lib.hid fun w' (hg : w.grownBy w' none) => ground_any w' W H (.slice va vn vc) X (HV.out.grown hg) hL
  have HKQ := Lib.hid (HKK.out hL)
  have HCE := Lib.hid fun w' p (hp : p < 2 ^ 64) (hg : w.grownBy w' none) => cells_any w' p hp (HT.out.grown hg)
  clear hL
  go_enter Tryd.func21, Tryd.ntmps21
  go_wp2_with fail
  generalize w.alloc (.cells #[.int .i64 W, .int .i64 H, .slice va vn vc] 26 (0, 0)) = W1 at *
  refine HIL.out.mono ?_
  rintro e w3 ⟨rfl, hg⟩
  have HG3 := Lib.hid (grownN_trans HG1.out hg)
  have HB3 := Lib.hid (HB1.out.grown hg)
  clear hg l0 l1 l2
  have l0 := HB3.out.cell 0
  have l1 := HB3.out.cell 1
  have l2 := HB3.out.cell 2
  simp only [List.getElem?_toArray, List.getElem?_cons_succ, List.getElem?_cons_zero] at l0 l1 l2
  go_wp2_with fail
  refine (HGR.out _ HG3.out).mono ?_
  rintro e w4 ⟨rfl, hg⟩
  have HG4 := Lib.hid (grownN_trans HG3.out hg)
  clear hg l0 l1 l2
  have HWK := Lib.hid fun w' a n c s F (hx : Sees .i64 w' (.slice a n c) F) (hs : -9223372036854775808 ≤ s ∧ s ≤ 9223372036854775807) (hg : w.grownBy w' none) => walkIn_any w' W H s (.slice va vn vc) (.slice a n c) X F (HV.out.grown hg) hx HLL.out hs
  have HSK := Lib.hid fun w' m f (hg : w.grownBy w' none) => sightIn_any w' W H m f (.slice va vn vc) X (HV.out.grown hg) HLL.out
  obtain ⟨op, hop⟩ : ∃ x, x = opW X := ⟨_, rfl⟩
  generalize lmW W X = lm at *
  generalize rmW W X = rm at *
  rw [← hop] at HOL HWK HSK ⊢
  have HOPW := Lib.hid hop
  clear hop
  have HG5 := Lib.hid (grownN_trans HG4.out (World.grownBy_alloc w4 (.cells (gcs W H (.slice va vn vc) op lm rm) 60 (0, 0)) none))
  have HB5 := Lib.hid (box_new w4 (gcs W H (.slice va vn vc) op lm rm) 60)
  go_wp2_with fail
  generalize w4.alloc (.cells (gcs W H (.slice va vn vc) op lm rm) 60 (0, 0)) = W5 at *
  go_loopw [6, 8, 19] (fun p _ i wr => ∃ j : Nat, j ≤ un ∧ i = .int .i64 j ∧ p = .int .u64 ((foldW op g j : Nat) : Int) ∧ Hid (W5.grownBy wr none)) (fun _ _ i _ => un - (intOf i).toNat)
  case atStart => exact ⟨0, Nat.zero_le _, rfl, rfl, World.grownBy.refl _ _⟩
  case round =>
    obtain ⟨j, hj, rfl, rfl, HG⟩ := hrel
    by_cases hlt : j < un
    · have huc := HUC.out
      have hjl : j < K.length := by rw [HUN.out]; exact hlt
      have HGW := Lib.hid (grownN_trans HG5.out HG.out)
      have hBy := HB5.out.grown HG.out
      have l0 := hBy.cell 0
      have l1 := hBy.cell 1
      have l2 := hBy.cell 2
      have l3 := hBy.cell 3
      have l4 := hBy.cell 4
      have l5 := hBy.cell 5
      simp only [List.getElem?_toArray, List.getElem?_cons_succ, List.getElem?_cons_zero] at l0 l1 l2 l3 l4 l5
      have hcl := (HKQ.out j hjl).grown HGW.out
      have HQL := Lib.hid (hcl.lt HLL.out)
      obtain ⟨b, o, rfl, _⟩ := HU.out.at_row hjl
      have hce := (HU.out.grown HGW.out).at' hjl (i := 0) Nat.zero_lt_one
      obtain ⟨c, hc⟩ : ∃ c, c = K.getD j (0, #[]) := ⟨_, rfl⟩
      have hdf : K.getD j encK.dflt = c := by rw [hc]; rfl
      rw [← hc] at hcl
      rw [hdf, show o + j * encK.size + 0 = o + j by simp [encK]] at hce
      obtain ⟨p, hp⟩ : ∃ p, p = foldW op g j := ⟨_, rfl⟩
      obtain ⟨q, hq⟩ : ∃ q, q = g j := ⟨_, rfl⟩
      have hpl : p < 2 ^ 64 := by rw [hp]; exact foldW_lt HOL.out j
      have HNX : Hid (foldW op g (j + 1) = p &&& q) := by show foldW op g j &&& g j = _; rw [hp, hq]
      rw [← hq] at hcl HQL
      have hand : bits BinOp.and IntKind.u64 (p : Int) (q : Int) = ((p &&& q : Nat) : Int) := bits_and_u64_nat _ _ hpl HQL.out
      rw [← hp]
      clear hp hq hpl hc hdf hjl
      rcases hcl with ⟨a, n, cap, s, F, rfl, hx, hs, h4⟩ | ⟨m, f, rfl, h4⟩
      · have HWJ := Lib.hid (HWK.out _ a n cap s F hx hs HGW.out)
        rw [← h4] at HWJ
        have hce' : _ = some (Value.iface 46 (.agg #[.slice a n cap, .int .i64 s])) := hce
        clear hx hs h4 hce
        go_wp2_with fail
        refine HWJ.out.mono ?_
        rintro e w6 ⟨rfl, hg⟩
        have HG6 := Lib.hid (grownN_trans HG.out hg)
        clear hg hce' l0 l1 l2 l3 l4 l5 hBy
        go_wp2_with fail
        go_roundw
        case rel => exact ⟨j + 1, by omega, by go_num, by rw [HNX.out], HG6⟩
        case measure => simp [intOf]; omega
      · have HWJ := Lib.hid (HSK.out _ m f HGW.out)
        rw [← h4] at HWJ
        have hce' : _ = some (Value.iface 49 (.agg #[.int .i64 m, .int .i64 f])) := hce
        clear h4 hce
        go_wp2_with fail
        refine HWJ.out.mono ?_
        rintro e w6 ⟨rfl, hg⟩
        have HG6 := Lib.hid (grownN_trans HG.out hg)
        clear hg hce' l0 l1 l2 l3 l4 l5 hBy
        go_wp2_with fail
        go_roundw
        case rel => exact ⟨j + 1, by omega, by go_num, by rw [HNX.out], HG6⟩
        case measure => simp [intOf]; omega
    · have hju : un = j := by omega
      subst hju
      have HQ := Lib.hid (HCE.out _ (foldW op g un) (foldW_lt HOL.out un) (grownN_trans HG5.out HG.out))
      go_wp2_with fail
      refine HQ.out.mono ?_
      rintro e w6 ⟨r, rfl, ho, hg⟩
      have HO := Lib.hid ho
      have HG6 := Lib.hid (grownN_trans (grownN_trans HG5.out HG.out) hg)
      have HSZ := Lib.hid (grownN_trans HG5.out HG.out).size
      clear ho hg
      go_wp2
      go_ret
      exact ⟨r, rfl, by have h := HO.out.lower HSZ.out; rw [← HUN.out, HOPW.out] at h; exact h, HG6.out⟩

end Go.Proofs.YtbibkjponadipaaDoor.Pc
