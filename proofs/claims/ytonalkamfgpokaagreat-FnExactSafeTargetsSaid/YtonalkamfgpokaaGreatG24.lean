/- Contracts of the model's Days, Farthest and Reach. Contracts of the model's Reach and WayTo. The program's grid of squares: a land inside a border of rock. Plain definitions and facts. Ways go down day by day; open cells a day apart are near. Plain facts. Contract of the model's WayTo. -/
import Derived.Test.YtonalkamfgpokaaGreatFromS
import Derived.Test.YtonalkamfgpokaaGreatG15
namespace Go.Proofs.YtonalkamfgpokaaGreat.WayS
open Go.RowKit Kit Rw Ld Bfs Wf LandS FromS

set_option maxRecDepth 100000 in
set_option maxHeartbeats 1000000 in
theorem sDays_any (w : World) (W H a b : Int) (v : Value) (X : List Int) (hv : Sees .i64 w v X) :
    Calls Tryz.prog 75 #[.agg #[.int .i64 W, .int .i64 H, v], .int .i64 a, .int .i64 b] w fun e w' => e = .returned (.int .i64 (daysOf W H X a b)) ∧ w.grownBy w' none := by
  obtain ⟨hb0, hv0, hg0⟩ := wb_new (W := W) (H := H) hv
  obtain ⟨c0, c1, c2⟩ := hb0.three
  have HB0 := Lib.hid hb0
  have HV0 := Lib.hid hv0
  have HG0 := Lib.hid hg0
  obtain ⟨va, vn, vc, hvv, HVN⟩ := hv.shape
  subst hvv
  have hs := sIsOpen_any _ W H a _ X hv0
  clear hv hb0 hv0 hg0
  by_cases hA : isOpen W H X a = true
  · rw [hA] at hs
    have HS := Lib.hid hs
    have HA := Lib.hid hA
    clear hs hA
    go_enter Tryz.func75, Tryz.ntmps75
    go_wp2_with fail
    refine HS.out.mono ?_
    rintro e w2 ⟨rfl, hg⟩
    have HB2 := Lib.hid (HB0.out.grown hg)
    have HV2 := Lib.hid (HV0.out.grown hg)
    have HG2 := Lib.hid (grownN_trans HG0.out hg)
    clear hg c0 c1 c2
    obtain ⟨c0, c1, c2⟩ := HB2.out.three
    have hs := sIsOpen_any w2 W H b _ X HV2.out
    by_cases hB : isOpen W H X b = true
    · rw [hB] at hs
      have HS := Lib.hid hs
      have HBO := Lib.hid hB
      clear hs hB
      go_wp2_with fail
      refine HS.out.mono ?_
      rintro e w3 ⟨rfl, hg⟩
      have HB3 := Lib.hid (HB2.out.grown hg)
      have HV3 := Lib.hid (HV2.out.grown hg)
      have HG3 := Lib.hid (grownN_trans HG2.out hg)
      have HE : Hid (daysOf W H X a b = at' (distL W X a) b) := by show _ = _; unfold daysOf; rw [if_pos ⟨HA.out, HBO.out⟩]
      obtain ⟨p, h, n, rfl, rfl, rfl, hn, hL, h64, _⟩ := open_nat HA.out
      obtain ⟨p', h', m, hp', hh', rfl, hm, _, _, _⟩ := open_nat HBO.out
      have HL : Hid (isLand p h X = true ∧ n < X.length ∧ m < X.length ∧ X.length ≤ 64) := ⟨hL, hn, hm, h64⟩
      clear hg c0 c1 c2 hL hn hm h64 hp' hh'
      obtain ⟨c0, c1, c2⟩ := HB3.out.three
      go_wp2_with fail
      refine (from_any w3 p h n _ X HV3.out (isOpen_of HA.out).1).mono ?_
      rintro e w4 ⟨u, rfl, ho, hg⟩
      have HG4 := Lib.hid (grownN_trans HG3.out hg)
      have hdl := (dist_is HL.out.1 (a := (n : Int)) (by omega) (by have := HL.out.2.1; omega)).len
      have hml : m < (distL p X n).length := by rw [hdl]; exact HL.out.2.2.1
      obtain ⟨ua, un, uc, hu, HUN⟩ := ho.sees.shape
      subst hu
      obtain ⟨ub, uo, rfl, hc⟩ := ho.sees.at_row hml
      obtain ⟨y, hy⟩ : ∃ y, y = (distL p X n).getD m 0 := ⟨_, rfl⟩
      rw [← hy] at hc
      have HY : Hid (daysOf p h X n m = y) := by show _ = _; rw [HE.out, hy]; rfl
      have hmu : m < un := by rw [← HUN.out]; exact hml
      clear ho hg hdl hml hy c0 c1 c2
      go_wp2
      go_ret
      exact ⟨ret_i64 HY.out.symm, HG4.out⟩
    · have hB2 : isOpen W H X b = false := by simpa using hB
      rw [hB2] at hs
      have HS := Lib.hid hs
      have HE : Hid (daysOf W H X a b = -1) := by show _ = _; unfold daysOf; rw [if_neg (fun h => hB h.2)]
      clear hs hB hB2
      go_wp2_with fail
      refine HS.out.mono ?_
      rintro e w3 ⟨rfl, hg⟩
      have HG3 := Lib.hid (grownN_trans HG2.out hg)
      clear hg
      go_wp2
      go_ret
      exact ⟨ret_i64 HE.out.symm, HG3.out⟩
  · have hA2 : isOpen W H X a = false := by simpa using hA
    rw [hA2] at hs
    have HS := Lib.hid hs
    have HE : Hid (daysOf W H X a b = -1) := by show _ = _; unfold daysOf; rw [if_neg (fun h => hA h.1)]
    clear hs hA hA2
    go_enter Tryz.func75, Tryz.ntmps75
    go_wp2_with fail
    refine HS.out.mono ?_
    rintro e w2 ⟨rfl, hg⟩
    have HG2 := Lib.hid (grownN_trans HG0.out hg)
    clear hg
    go_wp2
    go_ret
    exact ⟨ret_i64 HE.out.symm, HG2.out⟩

end Go.Proofs.YtonalkamfgpokaaGreat.WayS

namespace Go.Proofs.YtonalkamfgpokaaGreat.WayS
open Go.RowKit Kit Rw Ld Bfs Wf LandS FromS

/-- The days of the search, and a list that grows beside them. -/
structure DL (w wr : World) (c : Nat) (u : Value) (d : List Int) (v : Value) (L : List Int) : Prop where
  d : Own .i64 3 wr c u d
  own : Own .i64 3 wr (w.heap.size + 1) v L
  apart : u.ownBlock = none ∨ u.ownBlock ≠ v.ownBlock
  grown : w.grownBy wr none
section
variable {w wr wy : World} {c : Nat} {d L L' : List Int} {u v v' : Value}
theorem DL.on (h : DL w wr c u d v L) (hg : wr.grownBy wy none) : DL w wy c u d v L := ⟨h.d.grown hg, h.own.grown hg, h.apart, grownN_trans h.grown hg⟩
theorem DL.more (h : DL w wr c u d v L) (ho : Own .i64 3 wy (w.heap.size + 1) v' L') (hg : wr.grownBy wy v.ownBlock) (hl : v'.ownBlock = v.ownBlock ∨ ∃ c, v'.ownBlock = some c ∧ wr.heap.size ≤ c) : DL w wy c u d v' L' := by
  refine ⟨h.d.kept hg h.apart, ho, ?_, grown_new h.grown hg (fun c hc => by have := h.own.lt c hc; omega)⟩
  rcases hl with hl | ⟨e, hl, hle⟩
  · rw [hl]; exact h.apart
  · rw [hl]
    cases hq : u.ownBlock with
    | none => exact .inl rfl
    | some f => have := h.d.lt f hq; exact .inr (fun e' => by injection e' with e'; omega)
end

end Go.Proofs.YtonalkamfgpokaaGreat.WayS

namespace Go.Proofs.YtonalkamfgpokaaGreat.Gr
open Go.RowKit Kit Rw Ld

/-- The square of a cell, the cell of a square, whether a square is one of the first len cells'. -/
def sq (p n : Nat) : Nat := (n / p + 1) * 10 + n % p + 1
def cl (p s : Nat) : Nat := (s / 10 - 1) * p + (s % 10 - 1)
def inb (p len s : Nat) : Bool := decide (10 ≤ s ∧ 1 ≤ s % 10 ∧ s % 10 ≤ p ∧ cl p s < len)
def gridTo (p : Nat) (X : List Int) : Nat → List Int
  | 0 => List.replicate 100 2
  | j + 1 => (gridTo p X j).set (sq p j) (X.getD j 0)
/-- What the squares hold. -/
def grid (p : Nat) (X : List Int) : List Int := gridTo p X X.length
theorem gridTo_len (p : Nat) (X : List Int) : ∀ j, (gridTo p X j).length = 100
  | 0 => by simp [gridTo]
  | j + 1 => by simp [gridTo, gridTo_len p X j]
theorem grid_len (p : Nat) (X : List Int) : (grid p X).length = 100 := gridTo_len _ _ _
theorem cases8 {p : Nat} (h : 1 ≤ p ∧ p ≤ 8) : p = 1 ∨ p = 2 ∨ p = 3 ∨ p = 4 ∨ p = 5 ∨ p = 6 ∨ p = 7 ∨ p = 8 := by omega
theorem sq_eq {p : Nat} (hp : 1 ≤ p ∧ p ≤ 8) (n s : Nat) : (sq p n = s) ↔ (10 ≤ s ∧ 1 ≤ s % 10 ∧ s % 10 ≤ p ∧ cl p s = n) := by
  unfold sq cl
  rcases cases8 hp with rfl | rfl | rfl | rfl | rfl | rfl | rfl | rfl <;> omega
theorem sq_lt {p h n : Nat} (hp : 1 ≤ p ∧ p ≤ 8) (hh : h ≤ 8) (hn : n < p * h) : 11 ≤ sq p n ∧ sq p n ≤ 88 := by
  unfold sq
  rcases cases8 hp with rfl | rfl | rfl | rfl | rfl | rfl | rfl | rfl <;> omega
theorem cl_sq {p : Nat} (hp : 1 ≤ p ∧ p ≤ 8) (n : Nat) : cl p (sq p n) = n := ((sq_eq hp n _).1 rfl).2.2.2
theorem sq_cl {p len s : Nat} (hp : 1 ≤ p ∧ p ≤ 8) (h : inb p len s = true) : sq p (cl p s) = s := by
  simp only [inb, decide_eq_true_eq] at h
  exact (sq_eq hp _ _).2 ⟨h.1, h.2.1, h.2.2.1, rfl⟩
theorem sq_inj {p m n : Nat} (hp : 1 ≤ p ∧ p ≤ 8) (h : sq p m = sq p n) : m = n := by
  rw [← cl_sq hp m, h, cl_sq hp]
theorem gridTo_at {p h : Nat} {X : List Int} (hp : 1 ≤ p ∧ p ≤ 8) (hh : h ≤ 8) : ∀ j, j ≤ p * h → ∀ s, s < 100 → (gridTo p X j).getD s 0 = if inb p j s = true then X.getD (cl p s) 0 else 2
  | 0, _, s, hs => by
    have : inb p 0 s = false := by simp [inb]
    rw [this]
    show (List.replicate 100 (2 : Int)).getD s 0 = _
    rw [List.getD_eq_getElem?_getD, List.getElem?_replicate, if_pos hs]; rfl
  | j + 1, hj, s, hs => by
    have ih := gridTo_at hp hh j (by omega) s hs (X := X)
    have hsq := sq_lt hp hh (show j < p * h by omega)
    show ((gridTo p X j).set (sq p j) (X.getD j 0)).getD s 0 = _
    rw [List.getD_eq_getElem?_getD, List.getElem?_set]
    by_cases e : sq p j = s
    · have e2 := (sq_eq hp j s).1 e
      have : inb p (j + 1) s = true := by simp only [inb, decide_eq_true_eq]; omega
      rw [if_pos e, if_pos (by rw [gridTo_len]; omega), if_pos this, e2.2.2.2]
      rfl
    · rw [if_neg e, ← List.getD_eq_getElem?_getD, ih]
      have : inb p (j + 1) s = inb p j s := by
        simp only [inb, decide_eq_decide]
        have : ¬ (10 ≤ s ∧ 1 ≤ s % 10 ∧ s % 10 ≤ p ∧ cl p s = j) := fun h => e ((sq_eq hp j s).2 h)
        omega
      rw [this]
theorem grid_at {p h : Nat} {X : List Int} (hp : 1 ≤ p ∧ p ≤ 8) (hh : h ≤ 8) (hL : X.length = p * h) {s : Nat} (hs : s < 100) : (grid p X).getD s 0 = if inb p X.length s = true then X.getD (cl p s) 0 else 2 :=
  gridTo_at hp hh _ (by omega) s hs

/-- The four squares beside one, in the program's order. -/
theorem up_in {p h n len : Nat} (hp : 1 ≤ p ∧ p ≤ 8) (hh : h ≤ 8) (hl : len = p * h) (hn : n < len) : (inb p len (sq p n - 10) = decide (p ≤ n)) ∧ (p ≤ n → cl p (sq p n - 10) = n - p) := by
  unfold inb cl sq
  subst hl
  rcases cases8 hp with rfl | rfl | rfl | rfl | rfl | rfl | rfl | rfl <;> exact ⟨by rw [decide_eq_decide]; omega, by omega⟩
theorem left_in {p h n len : Nat} (hp : 1 ≤ p ∧ p ≤ 8) (hh : h ≤ 8) (hl : len = p * h) (hn : n < len) : (inb p len (sq p n - 1) = decide (0 < n % p)) ∧ (0 < n % p → cl p (sq p n - 1) = n - 1) := by
  unfold inb cl sq
  subst hl
  rcases cases8 hp with rfl | rfl | rfl | rfl | rfl | rfl | rfl | rfl <;> exact ⟨by rw [decide_eq_decide]; omega, by omega⟩
theorem right_in' {p h n len : Nat} (hp : 1 ≤ p ∧ p ≤ 8) (hh : h ≤ 8) (hl : len = p * h) (hn : n < len) : (inb p len (sq p n + 1) = decide (n % p + 1 < p)) ∧ (n % p + 1 < p → cl p (sq p n + 1) = n + 1) := by
  unfold inb cl sq
  subst hl
  rcases cases8 hp with rfl | rfl | rfl | rfl | rfl | rfl | rfl | rfl <;> exact ⟨by rw [decide_eq_decide]; omega, by omega⟩
theorem down_in {p h n len : Nat} (hp : 1 ≤ p ∧ p ≤ 8) (hh : h ≤ 8) (hl : len = p * h) (hn : n < len) : (inb p len (sq p n + 10) = decide (n + p < len)) ∧ (n + p < len → cl p (sq p n + 10) = n + p) := by
  unfold inb cl sq
  subst hl
  rcases cases8 hp with rfl | rfl | rfl | rfl | rfl | rfl | rfl | rfl <;> exact ⟨by rw [decide_eq_decide]; omega, by omega⟩

/-- Where a side's square is open. -/
def opn (g : List Int) (s : Nat) : Bool := decide (g.getD s 0 ≠ 2)
def side1 (g : List Int) (t : Nat) : List Nat := if opn g t = true then [t] else []
def nsq (g : List Int) (s : Nat) : List Nat := side1 g (s - 10) ++ side1 g (s - 1) ++ side1 g (s + 1) ++ side1 g (s + 10)
theorem opn_grid {p h : Nat} {X : List Int} (hp : 1 ≤ p ∧ p ≤ 8) (hh : h ≤ 8) (hL : X.length = p * h) {s : Nat} (hs : s < 100) : opn (grid p X) s = true ↔ (inb p X.length s = true ∧ X.getD (cl p s) 0 ≠ 2) := by
  unfold opn
  rw [decide_eq_true_eq, grid_at hp hh hL hs]
  split
  · rename_i h; simp [h]
  · rename_i h; simp [h]
theorem nsq_near {p h n : Nat} {X : List Int} (hp : 1 ≤ p ∧ p ≤ 8) (hh : h ≤ 8) (hL : X.length = p * h) (hn : n < X.length) :
    (nsq (grid p X) (sq p n)).map (fun t => ((cl p t : Nat) : Int)) = near p n X := by
  have hsq := sq_lt hp hh (show n < p * h by omega)
  have u := up_in hp hh hL hn
  have l := left_in hp hh hL hn
  have r := right_in' hp hh hL hn
  have d := down_in hp hh hL hn
  have e1 : (side1 (grid p X) (sq p n - 10)).map (fun t => ((cl p t : Nat) : Int)) = n1 p n X := by
    rw [n1_nat]; unfold side1
    have := opn_grid (X := X) hp hh hL (s := sq p n - 10) (by omega)
    rw [u.1, decide_eq_true_eq] at this
    by_cases c : p ≤ n
    · rw [u.2 c] at this
      by_cases c2 : X.getD (n - p) 0 ≠ 2
      · rw [if_pos (this.2 ⟨c, c2⟩), if_pos (by rw [decide_eq_true_eq]; exact ⟨by omega, c2⟩)]
        simp only [List.map_cons, List.map_nil, u.2 c]; congr 1; omega
      · rw [if_neg (fun hc => c2 (this.1 hc).2), if_neg (by rw [decide_eq_true_eq]; exact fun hc => c2 hc.2)]; rfl
    · rw [if_neg (fun hc => c (this.1 hc).1), if_neg (by rw [decide_eq_true_eq]; exact fun hc => c (by omega))]; rfl
  have e2 : (side1 (grid p X) (sq p n - 1)).map (fun t => ((cl p t : Nat) : Int)) = n2 p n X := by
    rw [n2_nat]; unfold side1
    have := opn_grid (X := X) hp hh hL (s := sq p n - 1) (by omega)
    rw [l.1, decide_eq_true_eq] at this
    have hc0 : ((0 : Int) < (n : Int) % (p : Int)) ↔ 0 < n % p := by omega
    by_cases c : 0 < n % p
    · rw [l.2 c] at this
      by_cases c2 : X.getD (n - 1) 0 ≠ 2
      · rw [if_pos (this.2 ⟨c, c2⟩), if_pos (by rw [decide_eq_true_eq]; exact ⟨hc0.2 c, c2⟩)]
        have : n ≠ 0 := fun h => by subst h; simp at c
        simp only [List.map_cons, List.map_nil, l.2 c]; congr 1; omega
      · rw [if_neg (fun hc => c2 (this.1 hc).2), if_neg (by rw [decide_eq_true_eq]; exact fun hc => c2 hc.2)]; rfl
    · rw [if_neg (fun hc => c (this.1 hc).1), if_neg (by rw [decide_eq_true_eq]; exact fun hc => c (hc0.1 hc.1))]; rfl
  have e3 : (side1 (grid p X) (sq p n + 1)).map (fun t => ((cl p t : Nat) : Int)) = n3 p n X := by
    rw [n3_nat]; unfold side1
    have := opn_grid (X := X) hp hh hL (s := sq p n + 1) (by omega)
    rw [r.1, decide_eq_true_eq] at this
    have hc0 : ((n : Int) % (p : Int) < (p : Int) - 1) ↔ n % p + 1 < p := by omega
    by_cases c : n % p + 1 < p
    · rw [r.2 c] at this
      by_cases c2 : X.getD (n + 1) 0 ≠ 2
      · rw [if_pos (this.2 ⟨c, c2⟩), if_pos (by rw [decide_eq_true_eq]; exact ⟨hc0.2 c, c2⟩)]
        simp only [List.map_cons, List.map_nil, r.2 c]; congr 1
      · rw [if_neg (fun hc => c2 (this.1 hc).2), if_neg (by rw [decide_eq_true_eq]; exact fun hc => c2 hc.2)]; rfl
    · rw [if_neg (fun hc => c (this.1 hc).1), if_neg (by rw [decide_eq_true_eq]; exact fun hc => c (hc0.1 hc.1))]; rfl
  have e4 : (side1 (grid p X) (sq p n + 10)).map (fun t => ((cl p t : Nat) : Int)) = n4 p n X := by
    rw [n4_nat]; unfold side1
    have := opn_grid (X := X) hp hh hL (s := sq p n + 10) (by omega)
    rw [d.1, decide_eq_true_eq] at this
    by_cases c : n + p < X.length
    · rw [d.2 c] at this
      by_cases c2 : X.getD (n + p) 0 ≠ 2
      · rw [if_pos (this.2 ⟨c, c2⟩), if_pos (by rw [decide_eq_true_eq]; exact ⟨by omega, c2⟩)]
        simp only [List.map_cons, List.map_nil, d.2 c]; congr 1
      · rw [if_neg (fun hc => c2 (this.1 hc).2), if_neg (by rw [decide_eq_true_eq]; exact fun hc => c2 hc.2)]; rfl
    · rw [if_neg (fun hc => c (this.1 hc).1), if_neg (by rw [decide_eq_true_eq]; exact fun hc => c (by omega))]; rfl
  simp only [nsq, near, List.map_append, e1, e2, e3, e4]
theorem nsq_len (g : List Int) (s : Nat) : (nsq g s).length ≤ 4 := by
  have h : ∀ t, (side1 g t).length ≤ 1 := fun t => by unfold side1; split <;> simp
  have := h (s - 10); have := h (s - 1); have := h (s + 1); have := h (s + 10)
  simp only [nsq, List.length_append]; omega
/-- What lies beside a cell's square and is open is a cell's square. -/
theorem nsq_mem {p h n t : Nat} {X : List Int} (hp : 1 ≤ p ∧ p ≤ 8) (hh : h ≤ 8) (hL : X.length = p * h) (hn : n < X.length) (ht : t ∈ nsq (grid p X) (sq p n)) : inb p X.length t = true := by
  have hsq := sq_lt hp hh (show n < p * h by omega)
  have hs : ∀ u, u < 100 → t ∈ side1 (grid p X) u → inb p X.length t = true := fun u hu h => by
    unfold side1 at h
    split at h
    · rename_i c; simp at h; subst h; exact ((opn_grid hp hh hL hu).1 c).1
    · simp at h
  simp only [nsq, List.mem_append] at ht
  rcases ht with ((ht | ht) | ht) | ht
  · exact hs _ (by omega) ht
  · exact hs _ (by omega) ht
  · exact hs _ (by omega) ht
  · exact hs _ (by omega) ht
end Go.Proofs.YtonalkamfgpokaaGreat.Gr

namespace Go.Proofs.YtonalkamfgpokaaGreat.Wf
open Go.RowKit Kit Rw Ld Bfs Gr

/-- Where there is a way to, one can be. -/
theorem dist_open {p h a : Nat} {X : List Int} (ho : isOpen p h X a = true) {n : Int} (n0 : 0 ≤ n) (n1 : n < X.length) (hd : 0 ≤ at' (distL p X a) n) : isOpen p h X n = true := by
  obtain ⟨hc, h2⟩ := isOpen_of ho
  obtain ⟨hL, h0, h1⟩ := isCell_of hc
  have D := dist_is hL h0 h1
  by_cases hna : n = a
  · rw [hna]; exact ho
  · obtain ⟨m, m0, m1, _, m3, _⟩ := D.pre n n0 n1 hna hd
    have := near_in hL m0 m1 m3
    exact isOpen_mk (isCell_mk hL n0 n1) this.2.2
/-- The next cell of a way is a day nearer. -/
theorem nearer_day {p h a : Nat} {X : List Int} (ho : isOpen p h X a = true) {n : Int} (n0 : 0 ≤ n) (n1 : n < X.length) (hd : 0 ≤ at' (distL p X a) n) (hna : n ≠ a) :
    at' (distL p X a) (nearerOf p X (distL p X a) n) = at' (distL p X a) n - 1 ∧ nearerOf p X (distL p X a) n ∈ near p n X := by
  obtain ⟨hc, h2⟩ := isOpen_of ho
  obtain ⟨hL, h0, h1⟩ := isCell_of hc
  have D := dist_is hL h0 h1
  obtain ⟨m, m0, m1, m2, m3, m4⟩ := D.pre n n0 n1 hna hd
  have hb := near_back (dist_open ho m0 m1 m2) m3
  unfold nearerOf
  cases hf : (near p n X).find? (fun m => at' (distL p X a) m == at' (distL p X a) n - 1) with
  | none =>
    rw [List.find?_eq_none] at hf
    have := hf m hb
    simp at this
    omega
  | some x =>
    have h3 := List.find?_some hf
    simp at h3
    exact ⟨by simp; omega, List.mem_of_find?_eq_some hf⟩
/-- From one to another by way of a third. -/
theorem dist_tri {p h : Nat} {X : List Int} (hL : isLand p h X = true) {a b : Int} (a0 : 0 ≤ a) (a1 : a < X.length) (b0 : 0 ≤ b) (b1 : b < X.length) (hab : 0 ≤ at' (distL p X a) b) : ∀ (k : Nat) (n : Int), 0 ≤ n → n < X.length → at' (distL p X b) n = k → 0 ≤ at' (distL p X a) n ∧ at' (distL p X a) n ≤ at' (distL p X a) b + k := by
  have A := dist_is hL a0 a1
  have B := dist_is hL b0 b1
  intro k
  induction k with
  | zero =>
    intro n h0 h1 hk
    by_cases hn : n = b
    · subst hn; omega
    · obtain ⟨m, m0, m1, m2, _, m4⟩ := B.pre n h0 h1 hn (by omega)
      omega
  | succ k ih =>
    intro n h0 h1 hk
    by_cases hn : n = b
    · subst hn; omega
    · obtain ⟨m, m0, m1, m2, m3, m4⟩ := B.pre n h0 h1 hn (by omega)
      obtain ⟨i1, i2⟩ := ih m m0 m1 (by omega)
      obtain ⟨j1, j2⟩ := A.nxt m m0 m1 i1 n m3
      omega
theorem dist_back {p h a : Nat} {X : List Int} (ho : isOpen p h X a = true) : ∀ (k : Nat) (n : Int), 0 ≤ n → n < X.length → at' (distL p X a) n = k → 0 ≤ at' (distL p X n) a ∧ at' (distL p X n) a ≤ k := by
  obtain ⟨hc, h2⟩ := isOpen_of ho
  obtain ⟨hL, h0, h1⟩ := isCell_of hc
  have A := dist_is hL h0 h1
  intro k
  induction k with
  | zero =>
    intro n n0 n1 hk
    by_cases hn : n = a
    · subst hn; rw [A.src]; omega
    · obtain ⟨m, m0, m1, m2, _, m4⟩ := A.pre n n0 n1 hn (by omega)
      omega
  | succ k ih =>
    intro n n0 n1 hk
    by_cases hn : n = a
    · subst hn; rw [A.src]; omega
    · obtain ⟨m, m0, m1, m2, m3, m4⟩ := A.pre n n0 n1 hn (by omega)
      obtain ⟨i1, i2⟩ := ih m m0 m1 (by omega)
      have hb := near_back (dist_open ho m0 m1 m2) m3
      have N := dist_is hL n0 n1
      have hs := N.src
      obtain ⟨j1, j2⟩ := N.nxt n n0 n1 (by omega) m hb
      obtain ⟨q, hq⟩ : ∃ q : Nat, at' (distL p X m) a = q := ⟨(at' (distL p X m) a).toNat, by omega⟩
      have := dist_tri hL n0 n1 m0 m1 j1 q a h0 h1 hq
      omega
/-- As far there as back. -/
theorem dist_sym {W H a b : Int} {X : List Int} (ha : isOpen W H X a = true) (hb : isOpen W H X b = true) : at' (distL W X a) b = at' (distL W X b) a := by
  obtain ⟨p, h, n, rfl, rfl, rfl, hn, hL, h64, _⟩ := open_nat ha
  obtain ⟨p', q', m, e1, e2, rfl, hm, _, _, _⟩ := open_nat hb
  have A := dist_is hL (a := (n : Int)) (by omega) (by omega)
  have B := dist_is hL (a := (m : Int)) (by omega) (by omega)
  have la := A.low (m : Int) (by omega) (by omega)
  have lb := B.low (n : Int) (by omega) (by omega)
  by_cases c : 0 ≤ at' (distL p X n) (m : Int)
  · obtain ⟨k, hk⟩ : ∃ k : Nat, at' (distL p X n) (m : Int) = k := ⟨(at' (distL p X n) (m : Int)).toNat, by omega⟩
    obtain ⟨u1, u2⟩ := dist_back ha k (m : Int) (by omega) (by omega) hk
    obtain ⟨k', hk'⟩ : ∃ k : Nat, at' (distL p X m) (n : Int) = k := ⟨(at' (distL p X m) (n : Int)).toNat, by omega⟩
    obtain ⟨v1, v2⟩ := dist_back hb k' (n : Int) (by omega) (by omega) hk'
    omega
  · by_cases c' : 0 ≤ at' (distL p X m) (n : Int)
    · obtain ⟨k', hk'⟩ : ∃ k : Nat, at' (distL p X m) (n : Int) = k := ⟨(at' (distL p X m) (n : Int)).toNat, by omega⟩
      obtain ⟨v1, v2⟩ := dist_back hb k' (n : Int) (by omega) (by omega) hk'
      omega
    · omega
end Go.Proofs.YtonalkamfgpokaaGreat.Wf

namespace Go.Proofs.YtonalkamfgpokaaGreat.WayS
open Go.RowKit Kit Rw Ld Bfs Wf LandS FromS

theorem find_drop {L : List Int} {P : Int → Bool} {k : Nat} (hk : k < L.length) : (L.drop k).find? P = if P (L.getD k 0) = true then some (L.getD k 0) else (L.drop (k + 1)).find? P := by
  have e : L.getD k 0 = L[k] := by simp [hk]
  rw [List.drop_eq_getElem_cons hk, List.find?_cons, e]
  cases P L[k] <;> simp

set_option maxRecDepth 100000 in
set_option maxHeartbeats 1000000 in
theorem sWayTo_any (w : World) (W H a b : Int) (v : Value) (X : List Int) (hv : Sees .i64 w v X) :
    Calls Tryz.prog 100 #[.agg #[.int .i64 W, .int .i64 H, v], .int .i64 a, .int .i64 b] w fun e w' => ∃ u, e = .returned u ∧ Own .i64 3 w' w.heap.size u (wayOf W H X a b) ∧ w.grownBy w' none := by
  have hgr := grownN_trans (World.grownBy_alloc w (.cells #[.int .i64 W, .int .i64 H, v] 37 (0, 0)) none) (World.grownBy_alloc (w.alloc (.cells #[.int .i64 W, .int .i64 H, v] 37 (0, 0))) (.cells #[] 3 (0, 0)) none)
  have HG0 := Lib.hid hgr
  have HV0 := Lib.hid (hv.grown hgr)
  have HB0 := Lib.hid ((box_new w #[.int .i64 W, .int .i64 H, v] 37).grown (World.grownBy_alloc _ (.cells #[] 3 (0, 0)) none))
  have ho := own_empty (k := .i64) (E := 3) (w.alloc (.cells #[.int .i64 W, .int .i64 H, v] 37 (0, 0)))
  simp only [World.size_alloc] at ho
  have HO0 := Lib.hid ho
  have HS0 : Hid (((w.alloc (.cells #[.int .i64 W, .int .i64 H, v] 37 (0, 0))).alloc (.cells #[] 3 (0, 0))).heap.size = w.heap.size + 2) := by show _ = _; simp
  obtain ⟨va, vn, vc, hvv, HVN⟩ := hv.shape
  subst hvv
  obtain ⟨c0, c1, c2⟩ := HB0.out.three
  have HVW := Lib.hid hv
  clear hv hgr ho
  obtain ⟨i0, hi, hz0, hz1, hz2⟩ := info_parts Inf.info_i64
  go_enter Tryz.func100, Tryz.ntmps100
  go_upto_region 2 with (fail)
  generalize (w.alloc (.cells #[.int .i64 W, .int .i64 H, .slice va vn vc] 37 (0, 0))).alloc (.cells #[] 3 (0, 0)) = w1 at *
  have hs := sDays_any w1 W H a b _ X HV0.out
  by_cases hneg : daysOf W H X a b < 0
  · have HE : Hid (wayOf W H X a b = []) := by
      show _ = _
      unfold wayOf
      split
      · rename_i h
        obtain ⟨p, q, n, rfl, rfl, rfl, hn, hL, h64, _⟩ := open_nat h.1
        obtain ⟨p', q', m, e1, e2, rfl, hm, _, _, _⟩ := open_nat h.2
        unfold daysOf at hneg
        rw [if_pos h, dist_sym h.1 h.2] at hneg
        have := (dist_is hL (a := (m : Int)) (by omega) (by omega)).low (n : Int) (by omega) (by omega)
        rw [show at' (distL p X m) n = -1 by omega]
        rfl
      · rfl
    have HS := Lib.hid hs
    clear hs
    go_wp2_with fail
    refine HS.out.mono ?_
    rintro e w2 ⟨rfl, hg⟩
    have HG2 := Lib.hid (grownN_trans HG0.out hg)
    have HO2 := Lib.hid (HO0.out.grown hg)
    clear hg
    go_wp2
    go_ret
    exact ⟨_, rfl, by rw [HE.out]; exact HO2.out.lower (Nat.le_succ _), HG2.out⟩
  · have HAB : Hid (isOpen W H X a = true ∧ isOpen W H X b = true ∧ daysOf W H X a b = at' (distL W X b) a ∧ 0 ≤ at' (distL W X b) a) := by
      unfold daysOf at hneg ⊢
      split at hneg
      · rename_i h
        obtain ⟨p, q, n, rfl, rfl, rfl, hn, hL, h64, _⟩ := open_nat h.1
        obtain ⟨p', q', m, e1, e2, rfl, hm, _, _, _⟩ := open_nat h.2
        show _ ∧ _
        rw [if_pos h]
        rw [dist_sym h.1 h.2] at hneg ⊢
        exact ⟨h.1, h.2, rfl, by omega⟩
      · omega
    have HS := Lib.hid hs
    have hneg2 : ¬ daysOf W H X a b < 0 := hneg
    clear hs hneg
    go_wp2_with fail
    refine HS.out.mono ?_
    rintro e w2 ⟨rfl, hg⟩
    have HB2 := Lib.hid (HB0.out.grown hg)
    have HV2 := Lib.hid (HV0.out.grown hg)
    have HG2 := Lib.hid (grownN_trans HG0.out hg)
    have HO2 := Lib.hid (HO0.out.grown hg)
    have HZ2 : Hid (w.heap.size + 2 ≤ w2.heap.size) := by have := hg.size; rw [HS0.out] at this; exact this
    clear hg c0 c1 c2
    obtain ⟨c0, c1, c2⟩ := HB2.out.three
    go_wp2_with fail
    refine (from_any w2 W H b _ X HV2.out (isOpen_of HAB.out.2.1).1).mono ?_
    rintro e w4 ⟨u, rfl, hod, hg⟩
    obtain ⟨ua, un, uc, hu, HUN⟩ := hod.sees.shape
    subst hu
    obtain ⟨p, h, n, rfl, rfl, rfl, hn, hL, h64, _⟩ := open_nat HAB.out.1
    obtain ⟨p', h', m, hp', hh', rfl, hm, _, _, _⟩ := open_nat HAB.out.2.1
    have hdl := (dist_is hL (a := (m : Int)) (by omega) (by omega)).len
    have HL : Hid (isLand p h X = true ∧ n < X.length ∧ X.length ≤ 64 ∧ m < X.length) := ⟨hL, hn, h64, hm⟩
    have HDL : Hid (un = X.length) := by show _ = _; rw [← HUN.out]; exact hdl
    have hu64 : un ≤ 64 := by rw [HDL.out]; exact h64
    have HSL : Hid (DL w w4 w2.heap.size (.slice ua un uc) (distL p X m) (.slice (some ⟨w.heap.size + 1, 0, none⟩) 0 0) []) :=
      ⟨hod, HO2.out.grown hg, (hod.apart HO2.out (Nat.le_refl _)).1, grownN_trans HG2.out hg⟩
    have HB4 := Lib.hid (HB2.out.grown hg)
    have hbase : w.heap.size + 1 ≤ w4.heap.size := by have := HB4.out.lt; omega
    clear hod hg c0 c1 c2 hdl hL hn h64 hm hp' hh'
    go_wp2_with (at_builtin; go_loud (refine wpList_append_one_at _ rfl _ _ 22 rfl (w.heap.size + 1) 3 i0 (.int .i64 0) 8 Tryz.underlying22 hi hz0 hz1 hz2 rfl .i64 _ [] rfl HSL.out.own (n : Int) rfl (i64_mk (by have := HL.out; omega)) (by simp) (by decide) hbase ?_); intro v3 w5 hown3 hgrow3 hpl3; have HT5 := Lib.hid (HSL.out.more (L' := wayFrom p X (distL p X m) (0 + 1) n) hown3 hgrow3 hpl3); have HB5 := Lib.hid (HB4.out.kept hgrow3 (by simp [Act.eval, Act.put, Value.ownBlock])); clear hown3 hgrow3 hpl3)
    obtain ⟨dn, hdn⟩ : ∃ dn : Nat, at' (distL p X m) (n : Int) = dn := ⟨(at' (distL p X m) (n : Int)).toNat, by have := HAB.out.2.2.2; omega⟩
    have HDN := Lib.hid hdn
    have HDI : Hid (isOpen p h X m = true ∧ at' (distL p X m) (m : Int) = 0) := ⟨HAB.out.2.1, (dist_is HL.out.1 (by omega) (by have := HL.out.2.2.2; omega)).src⟩
    clear hdn hbase
    go_loopw [1, 7] (fun s1 s7 wz => ∃ (k r : Nat), s1 = .int .i64 r ∧ r < X.length ∧ Hid (wayAt p X (distL p X m) k n = (r : Int)) ∧ Hid (at' (distL p X m) (r : Int) + k = dn ∧ 0 ≤ at' (distL p X m) (r : Int)) ∧ Hid (DL w wz w2.heap.size (.slice ua un uc) (distL p X m) s7 (wayFrom p X (distL p X m) (k + 1) n)) ∧ Hid (Box wz w.heap.size #[.int .i64 (p : Int), .int .i64 (h : Int), .slice va vn vc] 37)) (fun s1 _ _ => (at' (distL p X m) (intOf s1)).toNat)
    case atStart => exact ⟨0, n, rfl, HL.out.2.1, rfl, ⟨by rw [HDN.out]; omega, by rw [HDN.out]; omega⟩, HT5, HB5⟩
    case round =>
      obtain ⟨k, r, rfl, hr, HW, HK, HT, HB⟩ := hrel
      clear HT5 HB5 HSL HB4
      by_cases hrm : r = m
      · subst hrm
        have HE : Hid (wayOf p h X n r = wayFrom p X (distL p X r) (k + 1) n) := by
          show _ = _
          unfold wayOf
          rw [if_pos ⟨HAB.out.1, HAB.out.2.1⟩]
          congr 1
          have := HK.out.1; have := HDN.out; have := HDI.out.2
          omega
        go_wp2
        go_ret
        exact ⟨_, rfl, by rw [HE.out]; exact HT.out.own.lower (Nat.le_succ _), HT.out.grown⟩
      have hrb : ((r : Int) == (m : Int)) = false := by simp; omega
      have hrb2 : ¬ (r : Int) = (m : Int) := by omega
      have HRM := Lib.hid hrm
      obtain ⟨c0, c1, c2⟩ := HB.out.three
      clear hrm
      go_wp2_with fail
      refine (l4Near_any wr p h r _ X (HVW.out.grown HT.out.grown) (isCell_mk HL.out.1 (by omega) (by omega))).mono ?_
      rintro e w6 ⟨u9, rfl, ho9, hg⟩
      have HT6 := Lib.hid (HT.out.on hg)
      have HB6 := Lib.hid (HB.out.grown hg)
      obtain ⟨na, nn, nc, hu9, HNN⟩ := ho9.sees.shape
      subst hu9
      have HN := Lib.hid ho9.sees
      have hnn4 : nn ≤ 4 := by rw [← HNN.out]; exact near_len _ _ _
      obtain ⟨oa, on, oc, hu7, HON⟩ := HT6.out.own.sees.shape
      subst hu7
      have hon : on = k + 1 := by rw [← HON.out, wayFrom_len]
      subst hon
      obtain ⟨ob, oo, rfl, hck⟩ := HT6.out.own.sees.at_row (j := k) (by rw [wayFrom_len]; omega)
      have hlast : (wayFrom p X (distL p X m) (k + 1) n).getD k 0 = (r : Int) := by
        rw [wayFrom_add, HW.out]
        have := wayFrom_len p X (distL p X m) k n
        rw [List.getD_eq_getElem?_getD, List.getElem?_append_right (by omega)]
        simp [this]
      rw [hlast] at hck
      have hcr := HT6.out.d.sees.at_row (j := r) (by have := (dist_is HL.out.1 (a := (m : Int)) (by omega) (by have := HL.out.2.2.2; omega)).len; omega)
      obtain ⟨ub, uo, rfl, hcr⟩ := hcr
      obtain ⟨z, hz⟩ : ∃ z, z = at' (distL p X m) (r : Int) := ⟨_, rfl⟩
      rw [show (distL p X m).getD r 0 = z from hz.symm] at hcr
      have HZZ := Lib.hid hz
      have hzb : 0 ≤ z ∧ z ≤ 64 := by
        have h1 := dist_lt HL.out.1 (a := (m : Int)) (by omega) (by have := HL.out.2.2.2; omega) (n := (r : Int)) (by omega) (by omega)
        have := HK.out.2; have := HL.out.2.2.1
        omega
      obtain ⟨hzz0, hz64⟩ := hzb
      have hk64 : k ≤ 64 := by
        have h1 := dist_lt HL.out.1 (a := (m : Int)) (by omega) (by have := HL.out.2.2.2; omega) (n := (n : Int)) (by omega) (by have := HL.out.2.1; omega)
        have := HK.out; have := HDN.out; have := HL.out.2.2.1
        omega
      have HCK := Lib.hid hck
      have HCR := Lib.hid hcr
      have hru : r < un := by rw [HDL.out]; exact hr
      clear hz hck hcr ho9 hg c0 c1 c2 HT HB hlast
      go_wp2_with fail
      go_loopw [1, 10] (fun s1 s10 wz => ∃ (kk : Nat) (x : Int), kk ≤ nn ∧ s10 = .int .i64 ((kk : Int) - 1) ∧ s1 = .int .i64 x ∧ Hid (x = (((near p r X).drop kk).find? (fun y => at' (distL p X m) y == at' (distL p X m) (r : Int) - 1)).getD (r : Int)) ∧ Hid (w6.grownBy wz none)) (fun _ s10 _ => (intOf s10 + 1).toNat)
      case atStart => exact ⟨nn, r, Nat.le_refl _, rfl, rfl, by show _ = _; rw [List.drop_of_length_le (by rw [HNN.out]; exact Nat.le_refl _)]; rfl, World.grownBy.refl _ _⟩
      case round =>
        obtain ⟨kk, x, hkk, rfl, rfl, HX, HZ⟩ := hrel
        by_cases h0 : 0 < kk
        · obtain ⟨i, hi⟩ : ∃ i, kk = i + 1 := ⟨kk - 1, by omega⟩
          subst hi
          have hin : i < nn := by omega
          have hiN : i < (near p r X).length := by rw [HNN.out]; exact hin
          obtain ⟨nb, no, rfl, hci⟩ := (HN.out.grown HZ.out).at_row (j := i) hiN
          have hrin := near_in HL.out.1 (by omega) (by omega) (mem_getD hiN)
          obtain ⟨t, ht⟩ : ∃ t : Nat, (near p r X).getD i 0 = t := ⟨((near p r X).getD i 0).toNat, by omega⟩
          rw [ht] at hci hrin
          have htX : t < X.length := by omega
          have htu : t < un := by rw [HDL.out]; exact htX
          have hct := (HT6.out.d.sees.grown HZ.out).at' (j := t) (by have := (dist_is HL.out.1 (a := (m : Int)) (by omega) (by have := HL.out.2.2.2; omega)).len; omega)
          have hck := HZ.out.cell HCK.out (by simp)
          have hcr := HZ.out.cell HCR.out (by simp)
          obtain ⟨y, hy⟩ : ∃ y, y = at' (distL p X m) (t : Int) := ⟨_, rfl⟩
          rw [show (distL p X m).getD t 0 = y from hy.symm] at hct
          have HFD : Hid (((near p r X).drop i).find? (fun y => at' (distL p X m) y == at' (distL p X m) (r : Int) - 1) = if (y == z - 1) = true then some (t : Int) else ((near p r X).drop (i + 1)).find? (fun y => at' (distL p X m) y == at' (distL p X m) (r : Int) - 1)) := by
            show _ = _
            rw [find_drop hiN, ht, hy, HZZ.out]
          have hii : ((i + 1 : Nat) : Int) - 1 = (i : Int) := by omega
          have hw1 : IntKind.i64.wrap (k : Int) = (k : Int) := IntWalk.i64_in _ (by omega)
          have hw3 : IntKind.i64.wrap (z - 1) = z - 1 := IntWalk.i64_in _ (by omega)
          rw [hii]
          clear hrin ht hiN hy hii
          by_cases hyz : y = z - 1
          · have hyb : (y == z - 1) = true := by simpa using hyz
            go_wp2_with fail
            go_quiet (fail)
            go_wp2_with fail
            go_roundw
            case rel =>
              exact ⟨i, (t : Int), by omega, by go_num, rfl, by show _ = _; rw [HFD.out, if_pos hyb]; rfl, grown_drewN HZ.out _⟩
            case measure => simp [intOf] <;> omega
          · have hyb : (y == z - 1) = false := by simpa using hyz
            go_wp2_with fail
            go_quiet (fail)
            go_wp2_with fail
            go_roundw
            case rel =>
              exact ⟨i, x, by omega, by go_num, rfl, by show _ = _; rw [HFD.out, if_neg (by simp [hyb])]; exact HX.out, grown_drewN HZ.out _⟩
            case measure => simp [intOf] <;> omega
        · have hk0 : kk = 0 := by omega
          subst hk0
          have HXN : Hid (x = nearerOf p X (distL p X m) r) := by have := HX.out; rw [List.drop_zero] at this; exact this
          have hday := nearer_day HDI.out.1 (n := (r : Int)) (by omega) (by omega) HK.out.2 (by have := HRM.out; omega)
          rw [← HXN.out] at hday
          have hxin := near_in HL.out.1 (by omega) (by omega) hday.2
          obtain ⟨x', hx'⟩ : ∃ x' : Nat, x = x' := ⟨x.toNat, by omega⟩
          subst hx'
          have HDAY := Lib.hid hday
          have hxX : x' < X.length := by omega
          have HTZ := Lib.hid (HT6.out.on HZ.out)
          have HBZ := Lib.hid (HB6.out.grown HZ.out)
          have HAD : Hid (wayFrom p X (distL p X m) (k + 1 + 1) n = wayFrom p X (distL p X m) (k + 1) n ++ [(x' : Int)]) := by
            show _ = _
            rw [wayFrom_add]
            simp only [wayAt]
            rw [HW.out, ← HXN.out]
          have hbase : w.heap.size + 1 ≤ wr.heap.size := by have := HBZ.out.lt; omega
          have HWL := Lib.hid (wayFrom_len p X (distL p X m) (k + 1) n)
          have hx64 : x' < 64 := by have := HL.out.2.2.1; omega
          clear hday hxin
          go_wp2_with (at_builtin; go_loud (refine wpList_append_one_at _ rfl _ _ 22 rfl (w.heap.size + 1) 3 i0 (.int .i64 0) 8 Tryz.underlying22 hi hz0 hz1 hz2 rfl .i64 _ (wayFrom p X (distL p X m) (k + 1) n) rfl HTZ.out.own (x' : Int) rfl (i64_mk (by omega)) (by rw [HWL.out]; omega) (by decide) hbase ?_); intro v3 w8 hown3 hgrow3 hpl3; have HT8 := Lib.hid (HTZ.out.more (L' := wayFrom p X (distL p X m) (k + 1 + 1) n) (by rw [HAD.out]; exact hown3) hgrow3 hpl3); have HB8 := Lib.hid (HBZ.out.kept hgrow3 (HTZ.out.own.off (Nat.lt_succ_self _))); clear hown3 hgrow3 hpl3)
          go_roundw
          case rel =>
            refine ⟨k + 1, x', rfl, hxX, by show _ = _; simp only [wayAt]; rw [HW.out, ← HXN.out], ⟨?_, ?_⟩, HT8, HB8⟩
            · have := HDAY.out.1; have := HK.out.1; omega
            · have := HDAY.out.1; have := dist_open HDI.out.1 (n := (r : Int)) (by omega) (by omega) HK.out.2
              have hn := (dist_is HL.out.1 (a := (m : Int)) (by omega) (by have := HL.out.2.2.2; omega)).pre (r : Int) (by omega) (by omega) (by have := HRM.out; omega) HK.out.2
              obtain ⟨q, _, _, q2, _, q4⟩ := hn
              omega
          case measure =>
            have h1 := HDAY.out.1
            have h2 := HK.out.2
            have hn := (dist_is HL.out.1 (a := (m : Int)) (by omega) (by have := HL.out.2.2.2; omega)).pre (r : Int) (by omega) (by omega) (by have := HRM.out; omega) HK.out.2
            obtain ⟨q, _, _, q2, _, q4⟩ := hn
            simp only [intOf]
            omega
end Go.Proofs.YtonalkamfgpokaaGreat.WayS
