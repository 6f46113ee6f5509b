/- Rows of members and of depots that the call owns: one field stored, one element stored whole. No condition. Contracts of the laws' helpers on depots and rows of depots: copies, comparisons, marks, sizes. Contracts of the laws' helper on the size of a row of depots: enough, or too much. How the laws mark a bool. -/
import Derived.Test.YtbjnbaddbanhbaaGreatG2
import Derived.Test.YtbjnbaddbanhbaaGreatG1
import Derived.Deep.RegionHeld3
namespace Go.Proofs.YtbjnbaddbanhbaaGreat.Rg
open Go.RowKit Kit Rw

def zM : Mem := ⟨0, 0, 0, false⟩
theorem atM_in {w wr : World} {b o n cap : Nat} {L : List Mem} (h : SeesG encM w (.slice (some ⟨b, o, none⟩) n cap) L) (hg : w.grownBy wr none) {j : Nat} (hj : j < L.length) {x : Mem} (hx : L.getD j zM = x) :
    wr.cell? ⟨b, o + j * 4, none⟩ = some (.int .i64 x.id) ∧ wr.cell? ⟨b, o + j * 4 + 1, none⟩ = some (.int .i64 x.str) ∧ wr.cell? ⟨b, o + j * 4 + 2, none⟩ = some (.int .i64 x.need) ∧ wr.cell? ⟨b, o + j * 4 + 3, none⟩ = some (.bool x.ill) := by
  obtain ⟨e0, e1, e2, e3⟩ := (h.grown hg).atM hj
  rw [show (⟨0, 0, 0, false⟩ : Mem) = zM from rfl, hx] at e0 e1 e2 e3
  simp only [Nat.add_assoc] at e1 e2 e3 ⊢
  exact ⟨e0, e1, e2, e3⟩
section
variable {E : TypeId} {w : World} {base g n cap : Nat} {L : List Mem}
theorem OwnG.cellM (h : OwnG encM E w base (.slice (some ⟨g, 0, none⟩) n cap) L) {j : Nat} (hj : j < L.length) :
    w.cell? ⟨g, j * 4, none⟩ = some (.int .i64 (L.getD j ⟨0, 0, 0, false⟩).id) ∧ w.cell? ⟨g, j * 4 + 1, none⟩ = some (.int .i64 (L.getD j ⟨0, 0, 0, false⟩).str) ∧ w.cell? ⟨g, j * 4 + 2, none⟩ = some (.int .i64 (L.getD j ⟨0, 0, 0, false⟩).need) ∧
      w.cell? ⟨g, j * 4 + 3, none⟩ = some (.bool (L.getD j ⟨0, 0, 0, false⟩).ill) := by
  have := h.sees.atM hj
  simpa using this
theorem OwnG.putId (h : OwnG encM E w base (.slice (some ⟨g, 0, none⟩) n cap) L) (hn : L.length = n) {j : Nat} (hj : j < L.length) {a : Int} (ha : (Lit.int .i64 a).wf = true) {x : Mem} (hx : L.getD j zM = x) :
    OwnG encM E (w.setCell ⟨g, j * 4, none⟩ (.int .i64 a)) base (.slice (some ⟨g, 0, none⟩) n cap) (L.set j { x with id := a }) ∧ w.grownBy (w.setCell ⟨g, j * 4, none⟩ (.int .i64 a)) (some g) := by
  have hok := h.2 _ (memG (d := zM) hj)
  rw [hx] at hok
  have := h.put hn (j := j) (i := 0) (u := .int .i64 a) (x := { x with id := a }) hj (by decide) (by rw [show encM.dflt = zM from rfl, hx]; rfl) ⟨ha, hok.2⟩
  exact this
theorem OwnG.putStr (h : OwnG encM E w base (.slice (some ⟨g, 0, none⟩) n cap) L) (hn : L.length = n) {j : Nat} (hj : j < L.length) {a : Int} (ha : (Lit.int .i64 a).wf = true) {x : Mem} (hx : L.getD j zM = x) :
    OwnG encM E (w.setCell ⟨g, j * 4 + 1, none⟩ (.int .i64 a)) base (.slice (some ⟨g, 0, none⟩) n cap) (L.set j { x with str := a }) ∧ w.grownBy (w.setCell ⟨g, j * 4 + 1, none⟩ (.int .i64 a)) (some g) := by
  have hok := h.2 _ (memG (d := zM) hj)
  rw [hx] at hok
  have := h.put hn (j := j) (i := 1) (u := .int .i64 a) (x := { x with str := a }) hj (by decide) (by rw [show encM.dflt = zM from rfl, hx]; rfl) ⟨hok.1, ha, hok.2.2⟩
  exact this
theorem OwnG.putNeed (h : OwnG encM E w base (.slice (some ⟨g, 0, none⟩) n cap) L) (hn : L.length = n) {j : Nat} (hj : j < L.length) {a : Int} (ha : (Lit.int .i64 a).wf = true) {x : Mem} (hx : L.getD j zM = x) :
    OwnG encM E (w.setCell ⟨g, j * 4 + 2, none⟩ (.int .i64 a)) base (.slice (some ⟨g, 0, none⟩) n cap) (L.set j { x with need := a }) ∧ w.grownBy (w.setCell ⟨g, j * 4 + 2, none⟩ (.int .i64 a)) (some g) := by
  have hok := h.2 _ (memG (d := zM) hj)
  rw [hx] at hok
  have := h.put hn (j := j) (i := 2) (u := .int .i64 a) (x := { x with need := a }) hj (by decide) (by rw [show encM.dflt = zM from rfl, hx]; rfl) ⟨hok.1, hok.2.1, ha⟩
  exact this
theorem OwnG.putIll (h : OwnG encM E w base (.slice (some ⟨g, 0, none⟩) n cap) L) (hn : L.length = n) {j : Nat} (hj : j < L.length) {a : Bool} {x : Mem} (hx : L.getD j zM = x) :
    OwnG encM E (w.setCell ⟨g, j * 4 + 3, none⟩ (.bool a)) base (.slice (some ⟨g, 0, none⟩) n cap) (L.set j { x with ill := a }) ∧ w.grownBy (w.setCell ⟨g, j * 4 + 3, none⟩ (.bool a)) (some g) := by
  have hok := h.2 _ (memG (d := zM) hj)
  rw [hx] at hok
  have := h.put hn (j := j) (i := 3) (u := .bool a) (x := { x with ill := a }) hj (by decide) (by rw [show encM.dflt = zM from rfl, hx]; rfl) hok
  exact this
theorem set_getD {α : Type} {L : List α} {j : Nat} {x d : α} (hj : j < L.length) : (L.set j x).getD j d = x := by
  rw [List.getD_eq_getElem?_getD, List.getElem?_set, if_pos rfl, if_pos hj]; rfl
/-- An element is stored whole. -/
theorem OwnG.putM (h : OwnG encM E w base (.slice (some ⟨g, 0, none⟩) n cap) L) (hn : L.length = n) {j : Nat} (hj : j < L.length) (x : Mem) (hx : encM.ok x) :
    OwnG encM E ((((w.setCell ⟨g, j * 4, none⟩ (.int .i64 x.id)).setCell ⟨g, j * 4 + 1, none⟩ (.int .i64 x.str)).setCell ⟨g, j * 4 + 2, none⟩ (.int .i64 x.need)).setCell ⟨g, j * 4 + 3, none⟩ (.bool x.ill)) base (.slice (some ⟨g, 0, none⟩) n cap) (L.set j x) ∧
      w.grownBy ((((w.setCell ⟨g, j * 4, none⟩ (.int .i64 x.id)).setCell ⟨g, j * 4 + 1, none⟩ (.int .i64 x.str)).setCell ⟨g, j * 4 + 2, none⟩ (.int .i64 x.need)).setCell ⟨g, j * 4 + 3, none⟩ (.bool x.ill)) (some g) := by
  obtain ⟨a1, b1⟩ := h.putId hn hj hx.1 rfl
  obtain ⟨a2, b2⟩ := a1.putStr (by simpa using hn) (by simpa using hj) hx.2.1 (set_getD hj)
  obtain ⟨a3, b3⟩ := a2.putNeed (by simpa using hn) (by simpa using hj) hx.2.2 (set_getD (by simpa using hj))
  obtain ⟨a4, b4⟩ := a3.putIll (a := x.ill) (by simpa using hn) (by simpa using hj) (set_getD (by simpa using hj))
  simp only [List.set_set] at a4
  exact ⟨a4, grownN_trans (grownN_trans (grownN_trans b1 b2) b3) b4⟩
end
theorem atP_in {w wr : World} {b o n cap : Nat} {L : List (Int × Int)} (h : SeesG encP w (.slice (some ⟨b, o, none⟩) n cap) L) (hg : w.grownBy wr none) {j : Nat} (hj : j < L.length) {x : Int × Int} (hx : L.getD j (0, 0) = x) :
    wr.cell? ⟨b, o + j * 2, none⟩ = some (.int .i64 x.1) ∧ wr.cell? ⟨b, o + j * 2 + 1, none⟩ = some (.int .i64 x.2) := by
  obtain ⟨e0, e1⟩ := (h.grown hg).atP hj
  rw [hx] at e0 e1
  simp only [Nat.add_assoc] at e1 ⊢
  exact ⟨e0, e1⟩
section
variable {E : TypeId} {w : World} {base g n cap : Nat} {L : List (Int × Int)}
theorem OwnG.cellP (h : OwnG encP E w base (.slice (some ⟨g, 0, none⟩) n cap) L) {j : Nat} (hj : j < L.length) :
    w.cell? ⟨g, j * 2, none⟩ = some (.int .i64 (L.getD j (0, 0)).1) ∧ w.cell? ⟨g, j * 2 + 1, none⟩ = some (.int .i64 (L.getD j (0, 0)).2) := by
  have := h.sees.atP hj
  simpa using this
theorem OwnG.put1 (h : OwnG encP E w base (.slice (some ⟨g, 0, none⟩) n cap) L) (hn : L.length = n) {j : Nat} (hj : j < L.length) {a : Int} (ha : (Lit.int .i64 a).wf = true) {x : Int × Int} (hx : L.getD j (0, 0) = x) :
    OwnG encP E (w.setCell ⟨g, j * 2, none⟩ (.int .i64 a)) base (.slice (some ⟨g, 0, none⟩) n cap) (L.set j (a, x.2)) ∧ w.grownBy (w.setCell ⟨g, j * 2, none⟩ (.int .i64 a)) (some g) := by
  have hok := h.2 _ (memG (d := (0, 0)) hj)
  rw [hx] at hok
  have := h.put hn (j := j) (i := 0) (u := .int .i64 a) (x := (a, x.2)) hj (by decide) (by rw [show encP.dflt = (0, 0) from rfl, hx]; rfl) ⟨ha, hok.2⟩
  exact this
theorem OwnG.put2 (h : OwnG encP E w base (.slice (some ⟨g, 0, none⟩) n cap) L) (hn : L.length = n) {j : Nat} (hj : j < L.length) {a : Int} (ha : (Lit.int .i64 a).wf = true) {x : Int × Int} (hx : L.getD j (0, 0) = x) :
    OwnG encP E (w.setCell ⟨g, j * 2 + 1, none⟩ (.int .i64 a)) base (.slice (some ⟨g, 0, none⟩) n cap) (L.set j (x.1, a)) ∧ w.grownBy (w.setCell ⟨g, j * 2 + 1, none⟩ (.int .i64 a)) (some g) := by
  have hok := h.2 _ (memG (d := (0, 0)) hj)
  rw [hx] at hok
  have := h.put hn (j := j) (i := 1) (u := .int .i64 a) (x := (x.1, a)) hj (by decide) (by rw [show encP.dflt = (0, 0) from rfl, hx]; rfl) ⟨hok.1, ha⟩
  exact this
theorem OwnG.putP (h : OwnG encP E w base (.slice (some ⟨g, 0, none⟩) n cap) L) (hn : L.length = n) {j : Nat} (hj : j < L.length) (x : Int × Int) (hx : encP.ok x) :
    OwnG encP E ((w.setCell ⟨g, j * 2, none⟩ (.int .i64 x.1)).setCell ⟨g, j * 2 + 1, none⟩ (.int .i64 x.2)) base (.slice (some ⟨g, 0, none⟩) n cap) (L.set j x) ∧
      w.grownBy ((w.setCell ⟨g, j * 2, none⟩ (.int .i64 x.1)).setCell ⟨g, j * 2 + 1, none⟩ (.int .i64 x.2)) (some g) := by
  obtain ⟨a1, b1⟩ := h.put1 hn hj hx.1 rfl
  obtain ⟨a2, b2⟩ := a1.put2 (by simpa using hn) (by simpa using hj) hx.2 (set_getD hj)
  simp only [List.set_set] at a2
  exact ⟨a2, grownN_trans b1 b2⟩
end
end Go.Proofs.YtbjnbaddbanhbaaGreat.Rg

namespace Go.Proofs.YtbjnbaddbanhbaaGreat.LawsP
open Go.RowKit Kit Rw Rg

theorem info_mem : (Tryz.prog.info? 77).map (fun i => (i.zero, i.size, i.bytes)) = some (some (.agg #[.int .i64 0, .int .i64 0]), 2, 16) := by kernel_rfl
theorem twoP {w : World} {b : Nat} {x y : Value} {T : TypeId} (h : Box w b #[x, y] T) : w.cell? ⟨b, 0, none⟩ = some x ∧ w.cell? ⟨b, 1, none⟩ = some y := ⟨h.cell 0, h.cell 1⟩

theorem szP_any (w : World) (v : Value) (X : List (Int × Int)) (left : Int) (hv : SeesG encP w v X) (hl : 0 ≤ left) (hl' : left ≤ 1048576) :
    Calls Tryz.prog 16 #[v, .int .i64 left] w fun e w' => e = .returned (.int .i64 (if (X.length : Int) ≤ left then left - X.length else -1)) ∧ w = w' := by
  have hlen := hv.len
  obtain ⟨a, cap, rfl, _⟩ := hv
  by_cases h : (X.length : Int) ≤ left
  · rw [if_pos h]
    go_enter Tryz.func16, Tryz.ntmps16
    go_wp2
    go_ret
    exact ⟨rfl, rfl⟩
  · rw [if_neg h]
    have h2 : left - (X.length : Int) < 0 := by omega
    go_enter Tryz.func16, Tryz.ntmps16
    go_wp2
    go_ret
    exact ⟨rfl, rfl⟩

set_option maxHeartbeats 400000 in
theorem toDepot_any (w : World) (i s : Int) :
    Calls Tryz.prog 65 #[.agg #[.int .i64 i, .int .i64 s]] w fun e w' => e = .returned (.agg #[.int .i64 i, .int .i64 s]) ∧ w.grownBy w' none := by
  have b1 := (box_new (w.alloc (.cells #[.int .i64 i, .int .i64 s] 79 (0, 0))) #[.int .i64 i, .int .i64 s] 77).grown (World.grownBy_alloc _ (.cells #[.int .i64 i, .int .i64 s] 77 (0, 0)) none)
  simp only [World.size_alloc] at b1
  have HG := Lib.hid (grownN_trans (grownN_trans (World.grownBy_alloc w (.cells #[.int .i64 i, .int .i64 s] 79 (0, 0)) none) (World.grownBy_alloc _ (.cells #[.int .i64 i, .int .i64 s] 77 (0, 0)) none)) (World.grownBy_alloc _ (.cells #[.int .i64 i, .int .i64 s] 77 (0, 0)) none))
  obtain ⟨c0, c1⟩ := twoP b1
  clear b1
  go_enter Tryz.func65, Tryz.ntmps65
  go_wp2
  refine bodyPost_ret (v := .agg #[.int .i64 i, .int .i64 s]) ?_ rfl ⟨rfl, HG.out⟩
  simp [results, Tryz.results65, go_sem, c0, c1]

set_option maxRecDepth 20000 in
set_option maxHeartbeats 1000000 in
theorem to_any (w : World) (v : Value) (X : List (Int × Int)) (hv : SeesG encP w v X) (hn : X.length ≤ 100000000000) :
    Calls Tryz.prog 21 #[v] w fun e w' => ∃ u, e = .returned u ∧ OwnG encP 77 w' w.heap.size u X ∧ w.grownBy w' none := by
  have HV := Lib.hid hv
  have HOK := Lib.hid hv.ok
  obtain ⟨a, cap, rfl, hlc, hcm, hnil, hwf, hcell⟩ := hv
  have hn1 : X.length ≤ maxLen := by unfold maxLen; omega
  clear hwf hcm hnil hcell
  obtain ⟨i0, hi, hz0, hz1, hz2⟩ := info_parts info_mem
  go_enter Tryz.func21, Tryz.ntmps21
  go_wp2_with (at_make; refine wpListG_make (e := encP) _ rfl _ _ 40 rfl w.heap.size 77 i0 (.agg #[.int .i64 0, .int .i64 0]) 16 Tryz.underlying40 hi hz0 hz1 hz2 rfl ⟨rfl, rfl⟩ .i64 .i64 _ _ X.length rfl rfl rfl rfl (by omega) hn1 (Nat.le_refl _) ?_; intro w1 hown hgrow)
  obtain ⟨Z, hZ⟩ : ∃ Z : List (Int × Int), Z = List.replicate X.length encP.dflt := ⟨_, rfl⟩
  have hown : OwnG encP 77 w1 w.heap.size (.slice (some ⟨w.heap.size, 0, none⟩) X.length X.length) (X.take 0 ++ Z.drop 0) := by
    rw [hZ]; simpa using hown
  have hZl : Hid (X.length = Z.length) := by show _ = _; rw [hZ]; simp
  have HO := Lib.hid hown
  have HG := Lib.hid hgrow
  have HS := Lib.hid hgrow.size
  clear hown hgrow hZ
  go_loopw [4] (fun i wr => ∃ j : Nat, j ≤ X.length ∧ i = .int .i64 j ∧ Hid (OwnG encP 77 wr w.heap.size (.slice (some ⟨w.heap.size, 0, none⟩) X.length X.length) (X.take j ++ Z.drop j)) ∧ Hid (w.grownBy wr none))
    (fun i _ => X.length - (intOf i).toNat)
  case atStart => exact ⟨0, Nat.zero_le _, rfl, HO, HG⟩
  case round =>
    obtain ⟨j, hj, rfl, HO1, HG1⟩ := hrel
    by_cases hlt : j < X.length
    · obtain ⟨b, o, rfl, hb, _⟩ := HV.out.at_row hlt
      obtain ⟨e0, e1⟩ := HV.out.atP hlt
      rw [← Nat.add_assoc] at e1
      obtain ⟨x, hx⟩ : ∃ x, x = X.getD j (0, 0) := ⟨_, rfl⟩
      rw [← hx] at e0 e1
      have d0 := HG1.out.cell e0 (by simp)
      have d1 := HG1.out.cell e1 (by simp)
      have HX := Lib.hid hx
      have HXO : Hid (encP.ok x) := by show encP.ok x; rw [hx]; exact HOK.out _ (memG hlt)
      clear hx e0 e1 hb
      obtain ⟨xi, xs⟩ := x
      go_wp2_with fail
      refine (toDepot_any _ xi xs).mono ?_
      rintro e w3 ⟨rfl, hg⟩
      have HG3 := Lib.hid (grownN_trans HG1.out hg)
      have HO3 := Lib.hid (HO1.out.grown hg)
      clear hg d0 d1
      have hlj : j < (X.take j ++ Z.drop j).length := by rw [spliceG_len hZl.out hj]; exact hlt
      obtain ⟨z0, z1⟩ := HO3.out.cellP hlj
      obtain ⟨z, hz⟩ : ∃ z, z = (X.take j ++ Z.drop j).getD j (0, 0) := ⟨_, rfl⟩
      rw [← hz] at z0 z1
      have f0 := HO3.out.free (j * 2)
      have f1 := HO3.out.free (j * 2 + 1)
      have hp := HO3.out.putP (spliceG_len hZl.out hj) hlj (xi, xs) HXO.out
      rw [HX.out, spliceG_set hZl.out hlt] at hp
      have HP := Lib.hid hp
      have HXE : Hid (((xi, xs) : Int × Int) = X.getD j (0, 0)) := HX.out
      clear hz hp hlj
      go_wp2
      go_roundw
      case rel =>
        have hp := HP.out
        rw [← HXE.out] at hp
        exact ⟨j + 1, by omega, by go_num, hp.1, grown_new HG3.out hp.2 (fun c h => by injection h with h; omega)⟩
      case measure => simp [intOf]; omega
    · have : j = X.length := by omega
      subst this
      go_wp2
      go_ret
      exact ⟨_, rfl, by have h := HO1.out; rw [List.take_length, hZl.out, List.drop_length, List.append_nil] at h; rw [hZl.out]; exact h, HG1.out⟩

set_option maxRecDepth 20000 in
set_option maxHeartbeats 400000 in
theorem eqDepot_same (w : World) (i s : Int) :
    Calls Tryz.prog 67 #[.agg #[.int .i64 i, .int .i64 s], .agg #[.int .i64 i, .int .i64 s]] w fun e w' => e = .returned (.bool true) ∧ w.grownBy w' none := by
  have HG := Lib.hid (grownN_trans (World.grownBy_alloc w (.cells #[.int .i64 i, .int .i64 s] 77 (0, 0)) none) (World.grownBy_alloc _ (.cells #[.int .i64 i, .int .i64 s] 77 (0, 0)) none))
  · go_enter Tryz.func67, Tryz.ntmps67
    go_wp2
    go_ret
    exact ⟨rfl, HG.out⟩

set_option maxRecDepth 20000 in
set_option maxHeartbeats 1000000 in
theorem eq_same (w : World) (u v : Value) (X : List (Int × Int)) (hu : SeesG encP w u X) (hv : SeesG encP w v X) :
    Calls Tryz.prog 25 #[u, v] w fun e w' => e = .returned (.bool true) ∧ w.grownBy w' none := by
  have hl := hu.len
  have HU := Lib.hid hu
  have HV := Lib.hid hv
  obtain ⟨a, cap, rfl, _⟩ := hu
  obtain ⟨a2, cap2, rfl, _⟩ := hv
  go_enter Tryz.func25, Tryz.ntmps25
  go_wp2
  go_loopw [5] (fun i wr => ∃ j : Nat, j ≤ X.length ∧ i = .int .i64 j ∧ Hid (w.grownBy wr none)) (fun i _ => X.length - (intOf i).toNat)
  case atStart => exact ⟨0, Nat.zero_le _, rfl, World.grownBy.refl _ _⟩
  case round =>
    obtain ⟨j, hj, rfl, HG1⟩ := hrel
    by_cases hlt : j < X.length
    · obtain ⟨b, o, rfl, _, _⟩ := HU.out.at_row hlt
      obtain ⟨b2, o2, rfl, _, _⟩ := HV.out.at_row hlt
      obtain ⟨x, hx⟩ : ∃ x, X.getD j (0, 0) = x := ⟨_, rfl⟩
      have hS := fun w' (hg : w.grownBy w' none) => And.intro (atP_in HU.out hg hlt hx) (atP_in HV.out hg hlt hx)
      have HS := Lib.hid hS
      clear hS hx
      obtain ⟨xi, xs⟩ := x
      go_wp2_with fail
      refine wp_region_held_drew (S := fun w' => (w'.cell? ⟨b, o + j * 2, none⟩ = some (.int .i64 xi) ∧ w'.cell? ⟨b, o + j * 2 + 1, none⟩ = some (.int .i64 xs)) ∧
        (w'.cell? ⟨b2, o2 + j * 2, none⟩ = some (.int .i64 xi) ∧ w'.cell? ⟨b2, o2 + j * 2 + 1, none⟩ = some (.int .i64 xs))) (by kernel_rfl) (HS.out _ (grown_drew HG1.out)) (fun hHeld => ?_)
      refine wpAnyH_take (i := 0) (v := ?_) rfl (by kernel_rfl) (by kernel_rfl) (by kernel_rfl) (fun _ _ _ h => h) (Or.inl ⟨by rfl, ?_⟩) (by assumption) ?_; rotate_left; (focus (intro wS hSw; (try dsimp only at hSw); go_simp <;> with_reducible rfl)); (try simp only [Act.put, List.getElem_toArray, List.getElem_cons_succ, List.getElem_cons_zero, List.setIfInBounds_toArray, List.set_cons_zero, List.set_cons_succ])
      refine wpAnyH_take (i := 1) (v := ?_) rfl (by kernel_rfl) (by kernel_rfl) (by kernel_rfl) (fun _ _ _ h => h) (Or.inl ⟨by rfl, ?_⟩) (by assumption) ?_; rotate_left; (focus (intro wS hSw; (try dsimp only at hSw); go_simp <;> with_reducible rfl)); (try simp only [Act.put, List.getElem_toArray, List.getElem_cons_succ, List.getElem_cons_zero, List.setIfInBounds_toArray, List.set_cons_zero, List.set_cons_succ])
      refine wpAnyH_take (i := 2) (v := ?_) rfl (by kernel_rfl) (by kernel_rfl) (by kernel_rfl) (fun _ _ _ h => h) (Or.inl ⟨by rfl, ?_⟩) (by assumption) ?_; rotate_left; (focus (intro wS hSw; (try dsimp only at hSw); go_simp <;> with_reducible rfl)); (try simp only [Act.put, List.getElem_toArray, List.getElem_cons_succ, List.getElem_cons_zero, List.setIfInBounds_toArray, List.set_cons_zero, List.set_cons_succ])
      refine wpAnyH_take (i := 3) (v := ?_) rfl (by kernel_rfl) (by kernel_rfl) (by kernel_rfl) (fun _ _ _ h => h) (Or.inl ⟨by rfl, ?_⟩) (by assumption) ?_; rotate_left; (focus (intro wS hSw; (try dsimp only at hSw); go_simp <;> with_reducible rfl)); (try simp only [Act.put, List.getElem_toArray, List.getElem_cons_succ, List.getElem_cons_zero, List.setIfInBounds_toArray, List.set_cons_zero, List.set_cons_succ])
      refine wpAnyH_take (i := 4) (v := ?_) rfl (by kernel_rfl) (by kernel_rfl) (by kernel_rfl) (fun _ _ _ h => h) (Or.inl ⟨by rfl, ?_⟩) (by assumption) ?_; rotate_left; (focus (intro wS hSw; (try dsimp only at hSw); go_simp <;> with_reducible rfl)); (try simp only [Act.put, List.getElem_toArray, List.getElem_cons_succ, List.getElem_cons_zero, List.setIfInBounds_toArray, List.set_cons_zero, List.set_cons_succ])
      refine wpAnyH_take (i := 5) (v := ?_) rfl (by kernel_rfl) (by kernel_rfl) (by kernel_rfl) (fun _ _ _ h => h) (Or.inl ⟨by rfl, ?_⟩) (by assumption) ?_; rotate_left; (focus (intro wS hSw; (try dsimp only at hSw); go_simp <;> with_reducible rfl)); (try simp only [Act.put, List.getElem_toArray, List.getElem_cons_succ, List.getElem_cons_zero, List.setIfInBounds_toArray, List.set_cons_zero, List.set_cons_succ])
      refine wpAnyH_take (i := 6) (v := ?_) rfl (by kernel_rfl) (by kernel_rfl) (by kernel_rfl) (fun _ _ _ h => h) (Or.inl ⟨by rfl, ?_⟩) (by assumption) ?_; rotate_left; (focus (intro wS hSw; (try dsimp only at hSw); go_simp <;> with_reducible rfl)); (try simp only [Act.put, List.getElem_toArray, List.getElem_cons_succ, List.getElem_cons_zero, List.setIfInBounds_toArray, List.set_cons_zero, List.set_cons_succ])
      refine wpAnyH_take (i := 7) (v := ?_) rfl (by kernel_rfl) (by kernel_rfl) (by kernel_rfl) (fun _ _ _ h => h) (Or.inl ⟨by rfl, ?_⟩) (by assumption) ?_; rotate_left; (focus (intro wS hSw; (try dsimp only at hSw); go_simp <;> with_reducible rfl)); (try simp only [Act.put, List.getElem_toArray, List.getElem_cons_succ, List.getElem_cons_zero, List.setIfInBounds_toArray, List.set_cons_zero, List.set_cons_succ])
      refine wpAnyH_ready (rs := [8]) (by kernel_rfl) (by simp) ?_; refine AllReadyH.cons rfl (fun K hK => ?_) AllReadyH.nil; go_simp; (go_at_call 67; refine (eqDepot_same _ xi xs).mono ?_; rintro e w5 ⟨rfl, hg5⟩; have HG5 := Lib.hid (grownN_trans (grown_drew HG1.out) hg5); clear hg5)
      refine hK.out _ _ ?_ (fun hHeld => ?_)
      · exact HS.out _ HG5.out
      clear hK K
      (try simp only [Act.put, List.getElem_toArray, List.getElem_cons_succ, List.getElem_cons_zero, List.setIfInBounds_toArray, List.set_cons_zero, List.set_cons_succ])
      refine wpAnyH_take (i := 9) (v := ?_) rfl (by kernel_rfl) (by kernel_rfl) (by kernel_rfl) (fun _ _ _ h => h) (Or.inl ⟨by rfl, ?_⟩) (by assumption) ?_; rotate_left; (focus (intro wS hSw; (try dsimp only at hSw); go_simp <;> with_reducible rfl)); (try simp only [Act.put, List.getElem_toArray, List.getElem_cons_succ, List.getElem_cons_zero, List.setIfInBounds_toArray, List.set_cons_zero, List.set_cons_succ])
      refine wpAnyH_done (by kernel_rfl) ?_ _
      (try simp only [Act.put, List.getElem_toArray, List.getElem_cons_succ, List.getElem_cons_zero, List.setIfInBounds_toArray, List.set_cons_zero, List.set_cons_succ])
      go_wp2
      go_roundw
      case rel => exact ⟨j + 1, by omega, by go_num, HG5⟩
      case measure => simp [intOf]; omega
    · have : j = X.length := by omega
      subst this
      go_wp2
      go_ret
      exact ⟨rfl, HG1.out⟩

def mkP (k : Nat) : Int × Int := ((k : Int), (k : Int) + 1)
/-- The marks from 'm' on. -/
def marksP (m n : Nat) : List (Int × Int) := (List.range n).map (fun j => mkP (m + 2 * j))
theorem marksP_len (m n : Nat) : (marksP m n).length = n := by simp [marksP]
theorem marksP_get {m n j : Nat} (hj : j < n) : (marksP m n).getD j (0, 0) = mkP (m + 2 * j) := by simp [marksP, hj]

set_option maxRecDepth 20000 in
set_option maxHeartbeats 1000000 in
theorem mark_any (w : World) (base : Nat) (v : Value) (X : List (Int × Int)) (m : Nat) (hv : OwnG encP 77 w base v X) (hm : m + 2 * X.length ≤ 4000000000000000000) :
    Calls Tryz.prog 32 #[v, .int .i64 m] w fun e w' => e = .returned (.int .i64 ((m + 2 * X.length : Nat) : Int)) ∧ OwnG encP 77 w' base v (marksP m X.length) ∧ w.grownBy w' v.ownBlock := by
  have HL := Lib.hid (marksP_len m X.length)
  rcases hv.1.2 with ⟨rfl, hn⟩ | ⟨g, cap, cur, rfl, hb, hg, hnc, hcm, hcs, ht⟩
  · have hX : X = [] := List.eq_nil_of_length_eq_zero hn
    subst hX
    have HV := Lib.hid hv
    clear hv
    go_enter Tryz.func32, Tryz.ntmps32
    go_wp2
    refine wp_loop_rounds 1 ?_
    rw [rounds_succ]
    go_wp2
    go_ret
    exact ⟨rfl, HV.out, World.grownBy.refl _ _⟩
  · have hown : OwnG encP 77 w base (.slice (some ⟨g, 0, none⟩) X.length cap) ((marksP m X.length).take 0 ++ X.drop 0) := by simpa using hv
    have HO := Lib.hid hown
    clear hv hown hg hcm hcs ht hb hnc
    go_enter Tryz.func32, Tryz.ntmps32
    go_wp2
    go_loopw [1, 5] (fun q i wr => ∃ j : Nat, j ≤ X.length ∧ i = .int .i64 j ∧ q = .int .i64 ((m : Int) + 2 * j) ∧ Hid (OwnG encP 77 wr base (.slice (some ⟨g, 0, none⟩) X.length cap) ((marksP m X.length).take j ++ X.drop j)) ∧ Hid (w.grownBy wr (some g)))
      (fun _ i _ => X.length - (intOf i).toNat)
    case atStart => exact ⟨0, Nat.zero_le _, rfl, by simp, HO, World.grownBy.refl _ _⟩
    case round =>
      obtain ⟨j, hj, rfl, rfl, HO1, HG1⟩ := hrel
      by_cases hlt : j < X.length
      · have hlj : j < ((marksP m X.length).take j ++ X.drop j).length := by rw [spliceG_len HL.out (by rw [HL.out]; omega), HL.out]; exact hlt
        obtain ⟨z0, z1⟩ := HO1.out.cellP hlj
        obtain ⟨z, hz⟩ : ∃ z, z = ((marksP m X.length).take j ++ X.drop j).getD j (0, 0) := ⟨_, rfl⟩
        rw [← hz] at z0 z1
        have f0 := HO1.out.free (j * 2)
        have f1 := HO1.out.free (j * 2 + 1)
        have hp := HO1.out.putP ((spliceG_len HL.out (by rw [HL.out]; omega)).trans HL.out) hlj (mkP (m + 2 * j)) ⟨i64_mk (by simp only [mkP]; omega), i64_mk (by simp only [mkP]; omega)⟩
        have hse := spliceG_set (d := (0, 0)) HL.out (show j < (marksP m X.length).length by rw [HL.out]; exact hlt)
        rw [marksP_get hlt] at hse
        rw [hse] at hp
        simp only [mkP, Int.natCast_add, Int.natCast_mul] at hp
        have HP := Lib.hid hp
        clear hp hse hz hlj
        go_wp2
        go_roundw
        case rel => exact ⟨j + 1, by omega, by go_num, by go_num, HP.out.1, grownN_trans HG1.out HP.out.2⟩
        case measure => simp [intOf]; omega
      · have : j = X.length := by omega
        subst this
        go_wp2
        go_ret
        have ho := HO1.out
        rw [List.drop_length, List.append_nil, List.take_of_length_le (by rw [HL.out]; exact Nat.le_refl _)] at ho
        exact ⟨by go_num, ho, HG1.out⟩

set_option maxRecDepth 20000 in
set_option maxHeartbeats 1000000 in
theorem held_any (w : World) (v : Value) (m n : Nat) (hv : SeesG encP w v (marksP m n)) (hm : m + 2 * n ≤ 4000000000000000000) :
    Calls Tryz.prog 35 #[v, .int .i64 m] w fun e w' => e = .returned (.int .i64 ((m + 2 * n : Nat) : Int)) ∧ w.grownBy w' none := by
  have HV := Lib.hid hv
  obtain ⟨a, cap, rfl, _⟩ := hv
  rw [marksP_len] at HV
  rw [marksP_len]
  go_enter Tryz.func35, Tryz.ntmps35
  go_wp2
  go_loopw [1, 5] (fun q i wr => ∃ j : Nat, j ≤ n ∧ i = .int .i64 j ∧ q = .int .i64 ((m : Int) + 2 * j) ∧ Hid (w.grownBy wr none))
    (fun _ i _ => n - (intOf i).toNat)
  case atStart => exact ⟨0, Nat.zero_le _, rfl, by simp, World.grownBy.refl _ _⟩
  case round =>
    obtain ⟨j, hj, rfl, rfl, HG1⟩ := hrel
    by_cases hlt : j < n
    · have hlm : j < (marksP m n).length := by rw [marksP_len]; exact hlt
      obtain ⟨b, o, rfl, _, _⟩ := HV.out.at_row hlm
      obtain ⟨d0, d1⟩ := atP_in HV.out HG1.out hlm (marksP_get hlt)
      simp only [mkP, Int.natCast_add, Int.natCast_mul] at d0 d1
      go_wp2
      go_roundw
      case rel => exact ⟨j + 1, by omega, by go_num, by go_num, HG1⟩
      case measure => simp [intOf]; omega
    · have : j = n := by omega
      subst this
      go_wp2
      go_ret
      exact ⟨by go_num, HG1.out⟩
end Go.Proofs.YtbjnbaddbanhbaaGreat.LawsP

namespace Go.Proofs.YtbjnbaddbanhbaaGreat.LawsP
open Go.RowKit Kit Rw Rg
theorem szP_yes (w : World) (v : Value) (X : List (Int × Int)) (left : Int) (hv : SeesG encP w v X) (h : (X.length : Int) ≤ left) (hl : 0 ≤ left) (hl' : left ≤ 1048576) :
    Calls Tryz.prog 16 #[v, .int .i64 left] w fun e w' => e = .returned (.int .i64 (left - (X.length : Int))) ∧ w.grownBy w' none := by
  have := szP_any w v X left hv hl hl'
  rw [if_pos h] at this
  exact this.mono fun e w' h => ⟨h.1, by rw [← h.2]; exact World.grownBy.refl _ _⟩
theorem szP_no (w : World) (v : Value) (X : List (Int × Int)) (left : Int) (hv : SeesG encP w v X) (h : ¬ (X.length : Int) ≤ left) (hl : 0 ≤ left) (hl' : left ≤ 1048576) :
    Calls Tryz.prog 16 #[v, .int .i64 left] w fun e w' => e = .returned (.int .i64 (-1)) ∧ w.grownBy w' none := by
  have := szP_any w v X left hv hl hl'
  rw [if_neg h] at this
  exact this.mono fun e w' h => ⟨h.1, by rw [← h.2]; exact World.grownBy.refl _ _⟩
end Go.Proofs.YtbjnbaddbanhbaaGreat.LawsP

namespace Go.Proofs.YtbjnbaddbanhbaaGreat.LawsBo
def mk3 (m : Nat) : Bool := (m : Int) % 3 == 0
theorem mk3_add (m j : Nat) : mk3 (m + j) = (((m : Int) + (j : Int)) % 3 == 0) := by unfold mk3; rw [Int.natCast_add]
end Go.Proofs.YtbjnbaddbanhbaaGreat.LawsBo
