/- Contract of the model's worst return. -/
import Derived.Test.YtonalkamfgpokaaGreatG21
import Derived.Test.YtonalkamfgpokaaGreatG24
import Derived.Test.YtonalkamfgpokaaGreatG8
import Derived.Test.YtonalkamfgpokaaGreatDepS
import Derived.Test.YtonalkamfgpokaaGreatG19
import Derived.Test.YtonalkamfgpokaaGreatG9
import Derived.Test.YtonalkamfgpokaaGreatExc
import Derived.IntWalk
import Derived.Deep.RegionLaw
import Derived.Deep.RegionHeld3
namespace Go.Proofs.YtonalkamfgpokaaGreat.HomS
open Go.RowKit Kit Rw Rg Ld Bfs Wf LandS Stm StormS Crw CrS Four Pa PartyL Hom Dep Ph Pd WayS

theorem sees_lt {w : World} {v : Value} {L : List Int} (h : Sees .i64 w v L) (h0 : 0 < L.length) : ∀ c, v.ownBlock = some c → c < w.heap.size := fun c hc => by
  obtain ⟨a, n, cap, rfl, HN⟩ := h.shape
  obtain ⟨b, o, rfl, hcell⟩ := h.at_row (j := 0) h0
  have : b = c := by simpa [Value.ownBlock] using hc
  subst this
  exact World.block_lt_of_cell? w _ hcell
/-- The food of the party in its block, as a number. -/
def foodIn (w : World) (C : Nat) : Nat := match w.cell? ⟨C, 1, none⟩ with
  | some (.int .i64 g) => g.toNat
  | _ => 0
theorem foodIn_of {w : World} {C : Nat} {x z u : Value} {g : Int} {T : TypeId} (h : Box w C #[x, .int .i64 g, z, u] T) : foodIn w C = g.toNat := by
  unfold foodIn; rw [h.cell 1]; rfl
/-- The structs that came in, in their blocks, and the party as it is, whose rows lie behind its block. -/
structure HB (w wx : World) (A B C : Nat) (W H m rn n f : Int) (xv cv pv : Value) (L : List Mem) (P : List Bool) : Prop where
  land : Box wx A #[.int .i64 W, .int .i64 H, xv] 37
  rule : Box wx B #[.int .i64 m, .int .i64 rn] 38
  party : Box wx C #[.int .i64 n, .int .i64 f, cv, pv] 42
  sc : SeesG encM wx cv L
  sp : SeesG encB wx pv P
  offc : ∀ c, cv.ownBlock = some c → C < c ∧ c < wx.heap.size
  offp : ∀ c, pv.ownBlock = some c → C < c ∧ c < wx.heap.size
  grown : w.grownBy wx none
  lo : w.heap.size ≤ C
  ab : A < C ∧ B < C
section
variable {w wx wy : World} {A B C : Nat} {W H m rn n f n' f' : Int} {xv cv pv cv' pv' : Value} {L : List Mem} {P P' : List Bool}
theorem HB.on (h : HB w wx A B C W H m rn n f xv cv pv L P) (hg : wx.grownBy wy none) : HB w wy A B C W H m rn n f xv cv pv L P :=
  ⟨h.land.grown hg, h.rule.grown hg, h.party.grown hg, h.sc.grown hg, h.sp.grown hg, fun c e => ⟨(h.offc c e).1, Nat.lt_of_lt_of_le (h.offc c e).2 hg.size⟩, fun c e => ⟨(h.offp c e).1, Nat.lt_of_lt_of_le (h.offp c e).2 hg.size⟩, grownN_trans h.grown hg, h.lo, h.ab⟩
theorem off_of {v : Value} {C n : Nat} (h : ∀ c, v.ownBlock = some c → C < c ∧ c < n) : v.ownBlock = none ∨ v.ownBlock ≠ some C := .inr fun e => by have := h C e; omega
/-- Another party is put in its place. -/
theorem HB.put (h : HB w wx A B C W H m rn n f xv cv pv L P) (hc : SeesG encM wx cv' L) (hp : SeesG encB wx pv' P') (oc : ∀ c, cv'.ownBlock = some c → C < c ∧ c < wx.heap.size) (op : ∀ c, pv'.ownBlock = some c → C < c ∧ c < wx.heap.size) :
    HB w (put4 wx C (.int .i64 n') (.int .i64 f') cv' pv') A B C W H m rn n' f' xv cv' pv' L P' := by
  have hg := put4_grown wx C (.int .i64 n') (.int .i64 f') cv' pv'
  have h1 := h.ab
  have h2 := h.lo
  exact ⟨h.land.kept hg (fun e => by injection e; omega), h.rule.kept hg (fun e => by injection e; omega), put4_box h.party, hc.kept hg (off_of oc), hp.kept hg (off_of op), fun c e => ⟨(oc c e).1, Nat.lt_of_lt_of_le (oc c e).2 hg.size⟩, fun c e => ⟨(op c e).1, Nat.lt_of_lt_of_le (op c e).2 hg.size⟩, grown_new h.grown hg (fun c e => by injection e; omega), h2, h1⟩
theorem HB.kept {b : Nat} (h : HB w wx A B C W H m rn n f xv cv pv L P) (hg : wx.grownBy wy (some b)) (hb : C < b) (hc : cv.ownBlock ≠ some b) (hp : pv.ownBlock ≠ some b) : HB w wy A B C W H m rn n f xv cv pv L P := by
  have h1 := h.ab
  have h2 := h.lo
  exact ⟨h.land.kept hg (fun e => by injection e; omega), h.rule.kept hg (fun e => by injection e; omega), h.party.kept hg (fun e => by injection e; omega), h.sc.kept hg (.inr hc), h.sp.kept hg (.inr hp), fun c e => ⟨(h.offc c e).1, Nat.lt_of_lt_of_le (h.offc c e).2 hg.size⟩, fun c e => ⟨(h.offp c e).1, Nat.lt_of_lt_of_le (h.offp c e).2 hg.size⟩, grown_new h.grown hg (fun c e => by injection e; omega), h2, h1⟩
theorem HB.cells (h : HB w wx A B C W H m rn n f xv cv pv L P) : (wx.cell? ⟨A, 0, none⟩ = some (.int .i64 W) ∧ wx.cell? ⟨A, 1, none⟩ = some (.int .i64 H) ∧ wx.cell? ⟨A, 2, none⟩ = some xv) ∧ (wx.cell? ⟨B, 0, none⟩ = some (.int .i64 m) ∧ wx.cell? ⟨B, 1, none⟩ = some (.int .i64 rn)) ∧
    (wx.cell? ⟨C, 0, none⟩ = some (.int .i64 n) ∧ wx.cell? ⟨C, 1, none⟩ = some (.int .i64 f) ∧ wx.cell? ⟨C, 2, none⟩ = some cv ∧ wx.cell? ⟨C, 3, none⟩ = some pv) :=
  ⟨h.land.three, ⟨h.rule.cell 0, h.rule.cell 1⟩, Four.four h.party⟩
end
/-- The three structs that came in, in their blocks. -/
structure H0 (w wx : World) (A : Nat) (W H m rn n f : Int) (xv cv pv : Value) : Prop where
  land : Box wx A #[.int .i64 W, .int .i64 H, xv] 37
  rule : Box wx (A + 1) #[.int .i64 m, .int .i64 rn] 38
  party : Box wx (A + 2) #[.int .i64 n, .int .i64 f, cv, pv] 42
  grown : w.grownBy wx none
  eq : A = w.heap.size
section
variable {w wx wy : World} {A : Nat} {W H m rn n f : Int} {xv cv pv : Value}
theorem H0.on (h : H0 w wx A W H m rn n f xv cv pv) (hg : wx.grownBy wy none) : H0 w wy A W H m rn n f xv cv pv :=
  ⟨h.land.grown hg, h.rule.grown hg, h.party.grown hg, grownN_trans h.grown hg, h.eq⟩
theorem H0.start : H0 w (((w.alloc (.cells #[.int .i64 W, .int .i64 H, xv] 37 (0, 0))).alloc (.cells #[.int .i64 m, .int .i64 rn] 38 (0, 0))).alloc (.cells #[.int .i64 n, .int .i64 f, cv, pv] 42 (0, 0))) w.heap.size W H m rn n f xv cv pv := by
  have g1 := World.grownBy_alloc w (.cells #[.int .i64 W, .int .i64 H, xv] 37 (0, 0)) (none : Option Nat)
  have g2 := World.grownBy_alloc (w.alloc (.cells #[.int .i64 W, .int .i64 H, xv] 37 (0, 0))) (.cells #[.int .i64 m, .int .i64 rn] 38 (0, 0)) (none : Option Nat)
  have g3 := World.grownBy_alloc ((w.alloc (.cells #[.int .i64 W, .int .i64 H, xv] 37 (0, 0))).alloc (.cells #[.int .i64 m, .int .i64 rn] 38 (0, 0))) (.cells #[.int .i64 n, .int .i64 f, cv, pv] 42 (0, 0)) (none : Option Nat)
  have b2 := box_new (w.alloc (.cells #[.int .i64 W, .int .i64 H, xv] 37 (0, 0))) #[.int .i64 m, .int .i64 rn] 38
  have b3 := box_new ((w.alloc (.cells #[.int .i64 W, .int .i64 H, xv] 37 (0, 0))).alloc (.cells #[.int .i64 m, .int .i64 rn] 38 (0, 0))) #[.int .i64 n, .int .i64 f, cv, pv] 42
  simp only [World.size_alloc] at b2 b3
  exact ⟨(box_new w _ _).grown (grownN_trans g2 g3), b2.grown g3, b3, grownN_trans g1 (grownN_trans g2 g3), rfl⟩
theorem H0.cells (h : H0 w wx A W H m rn n f xv cv pv) : (wx.cell? ⟨A, 0, none⟩ = some (.int .i64 W) ∧ wx.cell? ⟨A, 1, none⟩ = some (.int .i64 H) ∧ wx.cell? ⟨A, 2, none⟩ = some xv) ∧ (wx.cell? ⟨A + 1, 0, none⟩ = some (.int .i64 m) ∧ wx.cell? ⟨A + 1, 1, none⟩ = some (.int .i64 rn)) ∧
    (wx.cell? ⟨A + 2, 0, none⟩ = some (.int .i64 n) ∧ wx.cell? ⟨A + 2, 1, none⟩ = some (.int .i64 f) ∧ wx.cell? ⟨A + 2, 2, none⟩ = some cv ∧ wx.cell? ⟨A + 2, 3, none⟩ = some pv) :=
  ⟨h.land.three, ⟨h.rule.cell 0, h.rule.cell 1⟩, Four.four h.party⟩
theorem H0.put {cv' pv' : Value} {L : List Mem} {P' : List Bool} {n' f' : Int} (h : H0 w wx A W H m rn n f xv cv pv) (hc : SeesG encM wx cv' L) (hp : SeesG encB wx pv' P') (oc : ∀ c, cv'.ownBlock = some c → A + 2 < c ∧ c < wx.heap.size) (op : ∀ c, pv'.ownBlock = some c → A + 2 < c ∧ c < wx.heap.size) :
    HB w (put4 wx (A + 2) (.int .i64 n') (.int .i64 f') cv' pv') A (A + 1) (A + 2) W H m rn n' f' xv cv' pv' L P' := by
  have hg := put4_grown wx (A + 2) (.int .i64 n') (.int .i64 f') cv' pv'
  have h1 := h.eq
  exact ⟨h.land.kept hg (fun e => by injection e; omega), h.rule.kept hg (fun e => by injection e; omega), put4_box h.party, hc.kept hg (off_of oc), hp.kept hg (off_of op), fun c e => ⟨(oc c e).1, Nat.lt_of_lt_of_le (oc c e).2 hg.size⟩, fun c e => ⟨(op c e).1, Nat.lt_of_lt_of_le (op c e).2 hg.size⟩, grown_new h.grown hg (fun c e => by injection e; omega), by omega, by omega⟩
end
theorem canAsk_no1 {W H : Int} {X : List Int} {base m rn : Int} {D : List (Int × Int)} {n f : Int} {L : List Mem} {P : List Bool} (h : isRule m rn = false ∨ areDep W H X D = false ∨ isParty W H X n f L P = false ∨ wayOf W H X n base = []) : left W H X base m rn D n f L P = -1 := by
  unfold left
  have : canAsk W H X base m rn D n f L P = false := by
    unfold canAsk
    rcases h with h | h | h | h <;> simp [h]
  rw [this]; rfl

set_option maxRecDepth 20000 in
set_option maxHeartbeats 4000000 in
theorem sWorst_any (w : World) (W H base m rn n f : Int) (xv dv cv pv : Value) (X : List Int) (D : List (Int × Int)) (L : List Mem) (P : List Bool) (hm : (Lit.int .i64 m).wf = true) (hrn : (Lit.int .i64 rn).wf = true) (hf : (Lit.int .i64 f).wf = true)
    (hx : Sees .i64 w xv X) (hd : SeesG encP w dv D) (hc : SeesG encM w cv L) (hp : SeesG encB w pv P) :
    Calls Tryz.prog 122 #[.agg #[.int .i64 W, .int .i64 H, xv], .int .i64 base, .agg #[.int .i64 m, .int .i64 rn], dv, .agg #[.int .i64 n, .int .i64 f, cv, pv]] w fun e w' => e = .returned (.int .i64 (left W H X base m rn D n f L P)) ∧ w.grownBy w' none := by
  obtain ⟨xa, xn, xc, hxv, HXN⟩ := hx.shape
  subst hxv
  obtain ⟨da, dn, dc, hdv, HDN⟩ := hd.shape
  subst hdv
  obtain ⟨ca, cn, cc, hcv, HCN⟩ := hc.shape
  subst hcv
  obtain ⟨pa, pn, pc, hpv, HPN⟩ := hp.shape
  subst hpv
  have HB0 := Lib.hid (H0.start (w := w) (W := W) (H := H) (m := m) (rn := rn) (n := n) (f := f) (xv := .slice xa xn xc) (cv := .slice ca cn cc) (pv := .slice pa pn pc))
  have HX := Lib.hid hx
  have HD := Lib.hid hd
  have HC := Lib.hid hc
  have HP := Lib.hid hp
  have HM := Lib.hid hm
  have HN := Lib.hid hrn
  have HF := Lib.hid hf
  obtain ⟨way, hway⟩ : ∃ way, way = wayOf W H X n base := ⟨_, rfl⟩
  have HWY := Lib.hid hway
  clear hx hd hc hp hm hrn hf hway
  go_enter Tryz.func122, Tryz.ntmps122
  go_wp2_with fail
  generalize ((w.alloc (.cells #[.int .i64 W, .int .i64 H, .slice xa xn xc] 37 (0, 0))).alloc (.cells #[.int .i64 m, .int .i64 rn] 38 (0, 0))).alloc (.cells #[.int .i64 n, .int .i64 f, .slice ca cn cc, .slice pa pn pc] 42 (0, 0)) = W0 at *
  refine (sWayTo_any _ W H n base _ X (HX.out.grown HB0.out.grown)).mono ?_
  rintro e w1 ⟨wv, rfl, ho, hg⟩
  rw [← HWY.out] at ho
  have HB1 := Lib.hid (HB0.out.on hg)
  have HWO := Lib.hid ho.sees
  have HWLT := Lib.hid ho.lt
  obtain ⟨wa, wn, wc, rfl, HWN⟩ := ho.sees.shape
  have HBS := Lib.hid HB0.out.party.lt
  clear ho hg HB0
  obtain ⟨⟨a0, a1, a2⟩, ⟨b0, b1⟩, c0, c1, c2, c3⟩ := HB1.out.cells
  have HEQ := Lib.hid HB1.out.eq
  have HWL : Hid (∀ c, (Value.slice wa wn wc).ownBlock = some c → w.heap.size + 2 < c) := fun c hc => by
    have h1 := HWLT.out c hc
    have h2 := HB1.out.party.lt
    have h3 := HBS.out
    omega
  generalize w.heap.size = A at *
  go_wp2_with fail
  refine (sIsRule_any _ m rn HM.out HN.out).mono ?_
  rintro e w2 ⟨rfl, hg⟩
  have HB2 := Lib.hid (HB1.out.on hg)
  have HWO2 := Lib.hid (HWO.out.grown hg)
  clear hg HB1 HWO a0 a1 a2 b0 b1 c0 c1 c2 c3
  obtain ⟨⟨a0, a1, a2⟩, ⟨b0, b1⟩, c0, c1, c2, c3⟩ := HB2.out.cells
  cases hr : isRule m rn
  · have HR : Hid (left W H X base m rn D n f L P = -1) := canAsk_no1 (.inl hr)
    clear hr
    go_wp2
    go_ret
    exact ⟨ret_i64 HR.out.symm, HB2.out.grown⟩
  · have HRU := Lib.hid hr
    clear hr
    go_wp2_with fail
    refine (DepS.sAreDepots_any _ W H _ X _ D (HX.out.grown HB2.out.grown) (HD.out.grown HB2.out.grown)).mono ?_
    rintro e w3 ⟨rfl, hg⟩
    have HB3 := Lib.hid (HB2.out.on hg)
    have HWO3 := Lib.hid (HWO2.out.grown hg)
    clear hg HB2 HWO2 a0 a1 a2 b0 b1 c0 c1 c2 c3
    obtain ⟨⟨a0, a1, a2⟩, ⟨b0, b1⟩, c0, c1, c2, c3⟩ := HB3.out.cells
    cases hr : areDep W H X D
    · have HR : Hid (left W H X base m rn D n f L P = -1) := canAsk_no1 (.inr (.inl hr))
      clear hr
      go_wp2
      go_ret
      exact ⟨ret_i64 HR.out.symm, HB3.out.grown⟩
    · have HDU := Lib.hid hr
      clear hr
      go_wp2_with fail
      refine (sIsParty_any _ W H _ X n f _ _ L P (HX.out.grown HB3.out.grown) (HC.out.grown HB3.out.grown) (HP.out.grown HB3.out.grown)).mono ?_
      rintro e w4 ⟨rfl, hg⟩
      have HB4 := Lib.hid (HB3.out.on hg)
      have HWO4 := Lib.hid (HWO3.out.grown hg)
      clear hg HB3 HWO3 a0 a1 a2 b0 b1 c0 c1 c2 c3
      obtain ⟨⟨a0, a1, a2⟩, ⟨b0, b1⟩, c0, c1, c2, c3⟩ := HB4.out.cells
      cases hr : isParty W H X n f L P
      · have HR : Hid (left W H X base m rn D n f L P = -1) := canAsk_no1 (.inr (.inr (.inl hr)))
        clear hr
        go_wp2
        go_ret
        exact ⟨ret_i64 HR.out.symm, HB4.out.grown⟩
      · have HPU := Lib.hid hr
        clear hr
        by_cases h0 : wn = 0
        · have HR : Hid (left W H X base m rn D n f L P = -1) := canAsk_no1 (.inr (.inr (.inr (by rw [← HWY.out]; exact List.eq_nil_of_length_eq_zero (by rw [HWN.out]; exact h0)))))
          subst h0
          go_wp2
          go_ret
          exact ⟨ret_i64 HR.out.symm, HB4.out.grown⟩
        · have h0b : ((wn : Int) == 0) = false := by have : (wn : Int) ≠ 0 := by omega
                                                     simpa using this
          obtain ⟨M, N, rfl, rfl, hMN, hN10⟩ := rule_nat HRU.out
          obtain ⟨hop, hcr, hf10, hP10⟩ := isParty_of HPU.out
          have hCL := (crew_len hcr)
          have HLF : Hid (left W H X base M N D n f L P = onWay L D (signs M N P (wn - 1)) (way.drop 1) (gain L D n f)) := by
            show _ = _
            unfold left
            have : canAsk W H X base M N D n f L P = true := by
              unfold canAsk
              rw [HRU.out, HDU.out, HPU.out, ← HWY.out]
              have : way ≠ [] := fun e => h0 (by rw [← HWN.out, e]; rfl)
              simp [this]
            rw [if_pos this, ← HWY.out, HWN.out]
            simp
          have HG0 := Lib.hid (gain_bd L D n hf10)
          have HBD := Lib.hid (HB4.out.on (grown_drew (World.grownBy.refl w4 none)))
          have HQ := Lib.hid (needOf_pos hcr)
          have HCR := Lib.hid hcr
          have HK := Lib.hid (And.intro hMN hN10)
          have HMAY := Lib.hid (fun Q => mayStorm_may (L := Q) HRU.out)
          have hPl : P.length ≤ 1000000000 := by omega
          have hLl : L.length ≤ 1000000000 := by omega
          obtain ⟨g0, hg0⟩ : ∃ g0, g0 = gain L D n f := ⟨_, rfl⟩
          rw [← hg0] at HLF HG0
          have hpk : pickF L f (foodAt D n) = g0 := hg0.symm
          have HFB := Lib.hid hf10
          have HP10 := Lib.hid hP10
          clear hop hcr hMN hN10 hf10 hP10 HRU HDU HPU HB4 hg0
          go_wp2_with fail
          refine Exc.region_E 9 (S := fun w' => w'.cell? ⟨A + 2, 0, none⟩ = some (.int .i64 n) ∧ w'.cell? ⟨A + 2, 1, none⟩ = some (.int .i64 f) ∧ w'.cell? ⟨A + 2, 2, none⟩ = some (.slice ca cn cc) ∧ w'.cell? ⟨A + 2, 3, none⟩ = some (.slice pa pn pc)) (by kernel_rfl) (four HBD.out.party) (fun hHeld => ?_)
          refine Exc.take_E (i := 0) (v := ?_) rfl (by kernel_rfl) (by kernel_rfl) (by kernel_rfl) (by kernel_rfl) (by kernel_rfl) (by kernel_rfl) (fun _ _ _ h => h) (Or.inl ⟨by rfl, ?_⟩) (by assumption) ?_; rotate_left; (focus (intro wS hSw; (try dsimp only at hSw); go_simp <;> with_reducible rfl)); (try simp only [Act.put, List.getElem_toArray, List.getElem_cons_succ, List.getElem_cons_zero, List.setIfInBounds_toArray, List.set_cons_zero, List.set_cons_succ])
          refine Exc.take_W (i := 1) (v := ?_) rfl (by kernel_rfl) (by kernel_rfl) (by kernel_rfl) (by kernel_rfl) (fun _ _ _ h => h) (Or.inl ⟨by rfl, ?_⟩) (by first | exact (fun _ => by assumption) | exact (fun h => absurd h (by decide))) ?_; rotate_left; (focus (intro wS hSw; (try dsimp only at hSw); go_simp <;> with_reducible rfl)); (try simp only [Act.put, List.getElem_toArray, List.getElem_cons_succ, List.getElem_cons_zero, List.setIfInBounds_toArray, List.set_cons_zero, List.set_cons_succ])
          refine Exc.take_W (i := 2) (v := ?_) rfl (by kernel_rfl) (by kernel_rfl) (by kernel_rfl) (by kernel_rfl) (fun _ _ _ h => h) (Or.inl ⟨by rfl, ?_⟩) (by first | exact (fun _ => by assumption) | exact (fun h => absurd h (by decide))) ?_; rotate_left; (focus (intro wS hSw; (try dsimp only at hSw); go_simp <;> with_reducible rfl)); (try simp only [Act.put, List.getElem_toArray, List.getElem_cons_succ, List.getElem_cons_zero, List.setIfInBounds_toArray, List.set_cons_zero, List.set_cons_succ])
          refine Exc.take_E (i := 3) (v := ?_) rfl (by kernel_rfl) (by kernel_rfl) (by kernel_rfl) (by kernel_rfl) (by kernel_rfl) (by kernel_rfl) (fun _ _ _ h => h) (Or.inl ⟨by rfl, ?_⟩) (by assumption) ?_; rotate_left; (focus (intro wS hSw; (try dsimp only at hSw); go_simp <;> with_reducible rfl)); (try simp only [Act.put, List.getElem_toArray, List.getElem_cons_succ, List.getElem_cons_zero, List.setIfInBounds_toArray, List.set_cons_zero, List.set_cons_succ])
          refine Exc.ready_E (i := 4) (by kernel_rfl) rfl (fun K hK => ?_); go_simp; (go_at_call 96; refine (DepI.sFoodAt_any _ _ D n (HD.out.grown HBD.out.grown)).mono ?_; rintro e w5 ⟨rfl, hg⟩; have HB5 := Lib.hid (HBD.out.on hg); have HWO5 := Lib.hid ((HWO4.out.grown (grown_drew (World.grownBy.refl w4 none))).grown hg); clear hg)
          refine hK.out _ _ ?_ (fun hHeld => ?_)
          · exact four HB5.out.party
          clear hK K
          (try simp only [Act.put, List.getElem_toArray, List.getElem_cons_succ, List.getElem_cons_zero, List.setIfInBounds_toArray, List.set_cons_zero, List.set_cons_succ])
          refine Exc.ready_E (i := 5) (by kernel_rfl) rfl (fun K hK => ?_); go_simp; (go_at_call 95; refine (sPick_any _ n f (foodAt D n) _ _ L P HF.out (HC.out.grown HB5.out.grown) (HP.out.grown HB5.out.grown) hLl hPl).mono ?_; rintro e w6 ⟨u, t, rfl, hou, hot, hap, hg⟩; rw [hpk]; obtain ⟨ua, un, uc, rfl, _⟩ := hou.sees.shape; obtain ⟨ta, tn, tc, rfl, _⟩ := hot.sees.shape; have HB6 := Lib.hid (HB5.out.on hg); have HWO6 := Lib.hid (HWO5.out.grown hg); have HOU := Lib.hid hou; have HOT := Lib.hid hot; have HSZ := Lib.hid HB5.out.party.lt; obtain ⟨⟨p0, r0⟩, ⟨p1, r1⟩, ⟨p2, r2⟩, ⟨p3, r3⟩⟩ := put4_on HB6.out.party (.int .i64 n) (.int .i64 g0) (.slice ua un uc) (.slice ta tn tc); clear hg hap hou hot)
          refine hK.out _ _ ?_ (fun hHeld => ?_)
          · exact four HB6.out.party
          clear hK K
          (try simp only [Act.put, List.getElem_toArray, List.getElem_cons_succ, List.getElem_cons_zero, List.setIfInBounds_toArray, List.set_cons_zero, List.set_cons_succ])
          refine Exc.take_W (i := 6) (v := ?_) rfl (by kernel_rfl) (by kernel_rfl) (by kernel_rfl) (by kernel_rfl) (fun _ _ _ h => h) (Or.inl ⟨by rfl, ?_⟩) (by first | exact (fun _ => by assumption) | exact (fun h => absurd h (by decide))) ?_; rotate_left; (focus (intro wS hSw; (try dsimp only at hSw); go_simp <;> with_reducible rfl)); (try simp only [Act.put, List.getElem_toArray, List.getElem_cons_succ, List.getElem_cons_zero, List.setIfInBounds_toArray, List.set_cons_zero, List.set_cons_succ])
          refine Exc.take_W (i := 7) (v := ?_) rfl (by kernel_rfl) (by kernel_rfl) (by kernel_rfl) (by kernel_rfl) (fun _ _ _ h => h) (Or.inl ⟨by rfl, ?_⟩) (by first | exact (fun _ => by assumption) | exact (fun h => absurd h (by decide))) ?_; rotate_left; (focus (intro wS hSw; (try dsimp only at hSw); go_simp <;> with_reducible rfl)); (try simp only [Act.put, List.getElem_toArray, List.getElem_cons_succ, List.getElem_cons_zero, List.setIfInBounds_toArray, List.set_cons_zero, List.set_cons_succ])
          refine Exc.take_W (i := 8) (v := ?_) rfl (by kernel_rfl) (by kernel_rfl) (by kernel_rfl) (by kernel_rfl) (fun _ _ _ h => h) (Or.inl ⟨by rfl, ?_⟩) (by first | exact (fun _ => by assumption) | exact (fun h => absurd h (by decide))) ?_; rotate_left; (focus (intro wS hSw; (try dsimp only at hSw); go_simp <;> with_reducible rfl)); (try simp only [Act.put, List.getElem_toArray, List.getElem_cons_succ, List.getElem_cons_zero, List.setIfInBounds_toArray, List.set_cons_zero, List.set_cons_succ])
          refine Exc.last_E (by kernel_rfl) rfl (by kernel_rfl) (fun K hK => ?_); go_simp
          refine hK.out _ _ ?_
          clear hK K
          (try simp only [Act.put, List.getElem_toArray, List.getElem_cons_succ, List.getElem_cons_zero, List.setIfInBounds_toArray, List.set_cons_zero, List.set_cons_succ])
          refine Exc.done_E (by kernel_rfl) ?_ _
          (try simp only [Act.put, List.getElem_toArray, List.getElem_cons_succ, List.getElem_cons_zero, List.setIfInBounds_toArray, List.set_cons_zero, List.set_cons_succ])
          have HB7 : Hid (HB w ((((w6.setCell ⟨A + 2, 0, none⟩ (.int .i64 n)).setCell ⟨A + 2, 1, none⟩ (.int .i64 g0)).setCell ⟨A + 2, 2, none⟩ (.slice ua un uc)).setCell ⟨A + 2, 3, none⟩ (.slice ta tn tc)) A (A + 1) (A + 2) W H M N n g0 (.slice xa xn xc) (.slice ua un uc) (.slice ta tn tc) L P) :=
            HB6.out.put HOU.out.sees HOT.out.sees (fun c hc => by have := HOU.out.lt c hc; have := HSZ.out; omega) (fun c hc => by have := HOT.out.lt c hc; have := HSZ.out; omega)
          have HWO7 : Hid (Sees .i64 ((((w6.setCell ⟨A + 2, 0, none⟩ (.int .i64 n)).setCell ⟨A + 2, 1, none⟩ (.int .i64 g0)).setCell ⟨A + 2, 2, none⟩ (.slice ua un uc)).setCell ⟨A + 2, 3, none⟩ (.slice ta tn tc)) (.slice wa wn wc) way) := by
            show Sees _ _ _ _
            exact HWO6.out.kept (put4_grown w6 (A + 2) (.int .i64 n) (.int .i64 g0) (.slice ua un uc) (.slice ta tn tc)) (.inr (fun e => by have := HWL.out _ e; omega))
          generalize (((w6.setCell ⟨A + 2, 0, none⟩ (.int .i64 n)).setCell ⟨A + 2, 1, none⟩ (.int .i64 g0)).setCell ⟨A + 2, 2, none⟩ (.slice ua un uc)).setCell ⟨A + 2, 3, none⟩ (.slice ta tn tc) = w7 at *
          clear p0 r0 p1 r1 p2 r2 p3 r3 HB5 HB6 HBD HWO4 HWO5 HWO6 HOU HOT hHeld a0 a1 a2 b0 b1 c0 c1 c2 c3 hpk
          have HWL2 : Hid (∀ c, (Value.slice wa wn wc).ownBlock = some c → A + 2 < c ∧ c < w7.heap.size) := fun c hc => ⟨by have := HWL.out c hc; omega, sees_lt HWO7.out (by rw [HWN.out]; omega) c hc⟩
          go_wp2
          go_loopw [12] (fun i wr => ∃ k : Nat, ∃ at' g : Int, ∃ ua un uc ta tn tc, ∃ P' : List Bool, 1 ≤ k ∧ k ≤ wn ∧ i = .int .i64 k ∧ Hid (0 ≤ g ∧ g ≤ 10000) ∧ Hid (P'.length ≤ 10) ∧ Hid (onWay L D (signs M N P' (wn - k)) (way.drop k) g = left W H X base M N D n f L P) ∧ Hid (HB w wr A (A + 1) (A + 2) W H M N at' g (.slice xa xn xc) (.slice ua un uc) (.slice ta tn tc) L P') ∧ Hid (Sees .i64 wr (.slice wa wn wc) way) ∧ Hid (w7.heap.size ≤ wr.heap.size)) (fun i wr => (wn - (intOf i).toNat) * 20001 + foodIn wr (A + 2))
          case atStart => exact ⟨1, n, g0, ua, un, uc, ta, tn, tc, P, Nat.le_refl _, by omega, rfl, by show _ ∧ _; have := HG0.out; have := HFB.out; omega, by show _ ≤ _; exact HP10.out, HLF.out.symm, HB7, HWO7, Nat.le_refl _⟩
          case round =>
            rename_i _ wr
            obtain ⟨k, at', g, ua, un, uc, ta, tn, tc, P', hk1, hkn, rfl, HGB, HPL, HE, HBr, HWr, HWS⟩ := hrel
            obtain ⟨⟨a0, a1, a2⟩, ⟨b0, b1⟩, c0, c1, c2, c3⟩ := HBr.out.cells
            have hgb := HGB.out
            by_cases hlt : k < wn
            · have hgw : (Lit.int .i64 g).wf = true := i64_mk (by omega)
              have hpl : P'.length ≤ 1000000000 := by have := HPL.out; omega
              have HS0 := Lib.hid (signs_next (L := P') HK.out.1 HK.out.2 (show wn - k ≠ 0 by omega))
              obtain ⟨ge, hge⟩ : ∃ ge, ge = eatF L g := ⟨_, rfl⟩
              go_wp2_with fail
              refine (sEat_any _ at' g _ _ L P' hgw HBr.out.sc HBr.out.sp hLl hpl).mono ?_
              rintro e v1 ⟨u, t, rfl, hou, hot, hap, hg⟩
              rw [← hge]
              have HGQ := Lib.hid hge
              clear hge
              obtain ⟨u1, u2, u3, rfl, _⟩ := hou.sees.shape
              obtain ⟨t1, t2, t3, rfl, _⟩ := hot.sees.shape
              have hga := World.grownBy_alloc v1 (.cells #[.int .i64 at', .int .i64 ge, .slice u1 u2 u3, .slice t1 t2 t3] 42 (0, 0)) (none : Option Nat)
              have HB2 := Lib.hid (HBr.out.on (grownN_trans hg hga))
              have HW2 := Lib.hid (HWr.out.grown (grownN_trans hg hga))
              have HY2 := Lib.hid (box_new v1 #[.int .i64 at', .int .i64 ge, .slice u1 u2 u3, .slice t1 t2 t3] 42)
              have HU2 := Lib.hid (hou.sees.grown hga)
              have HSV := Lib.hid hg.size
              have HCL := Lib.hid HBr.out.party.lt
              have HOFF : Hid ((Value.slice ua un uc).ownBlock ≠ some v1.heap.size ∧ (Value.slice ta tn tc).ownBlock ≠ some v1.heap.size ∧ (Value.slice wa wn wc).ownBlock ≠ some v1.heap.size ∧ (Value.slice u1 u2 u3).ownBlock ≠ some v1.heap.size ∧ A + 2 < v1.heap.size) :=
                ⟨fun e => by have := (HBr.out.offc _ e).2; have := HSV.out; omega, fun e => by have := (HBr.out.offp _ e).2; have := HSV.out; omega, fun e => by have := HWL2.out _ e; have := HWS.out; have := HSV.out; omega, fun e => by have := (hou.lt _ e).2; omega, by have := HCL.out; have := HSV.out; omega⟩
              have HUL : Hid (∀ c, (Value.slice u1 u2 u3).ownBlock = some c → A + 2 < c ∧ c < v1.heap.size) := fun c e => by have := hou.lt _ e; have := HCL.out; omega
              have HFO : Hid (foodIn wr (A + 2) = g.toNat) := foodIn_of HBr.out.party
              clear hg hga hou hot hap HBr HWr a0 a1 a2 b0 b1 c0 c1 c2 c3
              obtain ⟨⟨a0, a1, a2⟩, ⟨b0, b1⟩, c0, c1, c2, c3⟩ := HB2.out.cells
              obtain ⟨d0, d1, d2, d3⟩ := four HY2.out
              cases hb : eatB L g
              · have hlt' : g < needOf L := by unfold eatB at hb; rw [HCR.out] at hb; simpa using hb
                have HR : Hid (left W H X base M N D n f L P = -1) := by show _ = _; rw [← HE.out, HS0.out]; exact walk_no hlt'
                clear hb hlt'
                go_wp2
                go_ret
                exact ⟨ret_i64 HR.out.symm, HB2.out.grown⟩
              · have hle : needOf L ≤ g := by unfold eatB at hb; rw [HCR.out] at hb; simpa using hb
                have HGE : Hid (ge = g - needOf L) := by show _ = _; rw [HGQ.out]; unfold eatF; rw [hb]; rfl
                have HLE := Lib.hid hle
                have HGEB : Hid (0 ≤ ge ∧ ge ≤ 10000) := by have := HGE.out; have := HQ.out; exact ⟨by omega, by omega⟩
                clear hb hle
                go_wp2_with fail
                generalize v1.alloc (.cells #[.int .i64 at', .int .i64 ge, .slice u1 u2 u3, .slice t1 t2 t3] 42 (0, 0)) = v2 at *
                generalize v1.heap.size = K at *
                refine (sMayStorm_any _ M N HM.out HN.out _ P' HB2.out.sp).mono ?_
                rintro e v3 ⟨rfl, hg⟩
                rw [HMAY.out P']
                have HB3 := Lib.hid (HB2.out.on hg)
                have HW3 := Lib.hid (HW2.out.grown hg)
                have HY3 := Lib.hid (HY2.out.grown hg)
                have HU3 := Lib.hid (HU2.out.grown hg)
                have HK3 := Lib.hid HY3.out.lt
                clear hg HB2 HW2 HY2 HU2 a0 a1 a2 b0 b1 c0 c1 c2 c3 d0 d1 d2 d3
                obtain ⟨⟨a0, a1, a2⟩, ⟨b0, b1⟩, c0, c1, c2, c3⟩ := HB3.out.cells
                cases hs : may M N P'
                · rw [hs] at HS0
                  obtain ⟨wk, hwk⟩ : ∃ wk, wk = way.getD k 0 := ⟨_, rfl⟩
                  have hkw : k < way.length := by rw [HWN.out]; exact hlt
                  have HDR : Hid (way.drop k = wk :: way.drop (k + 1)) := by show _ = _; rw [List.drop_eq_getElem_cons hkw, hwk]; simp [hkw]
                  have HE2 : Hid (onWay L D (signs M N (addDay P' false) (wn - (k + 1))) (way.drop (k + 1)) (gain L D wk ge) = left W H X base M N D n f L P) := by
                    show _ = _
                    rw [← HE.out, HS0.out, if_neg (by simp), HGE.out, signs_alike HK.out.1 HK.out.2 (addDay_alike HK.out.2 P' false), HDR.out, show wn - (k + 1) = wn - k - 1 by omega]
                    exact (walk_calm (by have := HLE.out; omega)).symm
                  have HWK := Lib.hid hwk
                  clear hs hwk
                  go_wp2_with fail
                  refine (sAddDay_any _ _ P' false HB3.out.sp (by have := HPL.out; omega)).mono ?_
                  rintro e v4 ⟨q, rfl, hq, hql, hg⟩
                  obtain ⟨q1, q2, q3, rfl, _⟩ := hq.shape
                  have HB4 := Lib.hid (HB3.out.on hg)
                  have HW4 := Lib.hid (HW3.out.grown hg)
                  have HY4 := Lib.hid (HY3.out.grown hg)
                  have HU4 := Lib.hid (HU3.out.grown hg)
                  have HQ4 := Lib.hid hq
                  have HQL := Lib.hid hql
                  have HS4 := Lib.hid hg.size
                  clear hg hq hql HB3 HW3 HY3 HU3 a0 a1 a2 b0 b1 c0 c1 c2 c3
                  have hset := grown_trans (grown_set v4 K 3 (.slice q1 q2 q3)) (grown_set (v4.setCell ⟨K, 3, none⟩ (.slice q1 q2 q3)) K 0 (.int .i64 wk))
                  have HY5 := Lib.hid (four_set3 (v := .slice q1 q2 q3) HY4.out)
                  have HY6 := Lib.hid (four_set0 (v := .int .i64 wk) HY5.out)
                  have HB6 := Lib.hid (HB4.out.kept hset HOFF.out.2.2.2.2 HOFF.out.1 HOFF.out.2.1)
                  have HW6 := Lib.hid (HW4.out.kept hset (.inr HOFF.out.2.2.1))
                  have HU6 := Lib.hid (HU4.out.kept hset (.inr HOFF.out.2.2.2.1))
                  have HQ6 := Lib.hid (HQ4.out.kept hset (.inr (fun e => by have := (HQL.out _ e).1; have := HK3.out; omega)))
                  have HSS := Lib.hid hset.size
                  have y3 := HY4.out.cell 3
                  have z3 := HY4.out.free 3
                  have y0 := HY5.out.cell 0
                  have z0 := HY5.out.free 0
                  have hwn65 : wn ≤ 65 := by rw [← HWN.out, HWY.out]; exact wayOf_len _ _ _ _ _
                  have hkI : (k : Int) < (wn : Int) := by omega
                  have hk0 : (0 : Int) ≤ (k : Int) := by omega
                  obtain ⟨rb, ro, hwa, hck⟩ := (HW4.out.kept (grown_set v4 K 3 (.slice q1 q2 q3)) (.inr HOFF.out.2.2.1)).at_row (j := k) hkw
                  subst hwa
                  rw [← HWK.out] at hck
                  have hgw2 : (Lit.int .i64 ge).wf = true := i64_mk (by have := HGEB.out; omega)
                  have HGW2 := Lib.hid hgw2
                  have hpl2 : (addDay P' false).length ≤ 1000000000 := by have := addDay_len P' false; omega
                  clear hset hgw2
                  go_wp2_with fail
                  generalize (v4.setCell ⟨K, 3, none⟩ (.slice q1 q2 q3)).setCell ⟨K, 0, none⟩ (.int .i64 wk) = v6 at *
                  have HYD := Lib.hid (HY6.out.grown (grown_drew (World.grownBy.refl v6 none)))
                  have HBD := Lib.hid (HB6.out.on (grown_drew (World.grownBy.refl v6 none)))
                  have HWD := Lib.hid (HW6.out.grown (grown_drew (World.grownBy.refl v6 none)))
                  have HUD := Lib.hid (HU6.out.grown (grown_drew (World.grownBy.refl v6 none)))
                  have HQD := Lib.hid (HQ6.out.grown (grown_drew (World.grownBy.refl v6 none)))
                  have hpk : pickF L ge (foodAt D wk) = gain L D wk ge := rfl
                  have HGN := Lib.hid (gain_bd L D wk HGEB.out)
                  obtain ⟨gn, hgn⟩ : ∃ gn, gn = gain L D wk ge := ⟨_, rfl⟩
                  rw [← hgn] at hpk HE2 HGN
                  have HV6 : Hid (v4.heap.size ≤ v6.drew.heap.size) := HSS.out
                  clear y3 z3 y0 z0 hck hgn
                  refine Exc.region_E 9 (S := fun w' => w'.cell? ⟨K, 0, none⟩ = some (.int .i64 wk) ∧ w'.cell? ⟨K, 1, none⟩ = some (.int .i64 ge) ∧ w'.cell? ⟨K, 2, none⟩ = some (.slice u1 u2 u3) ∧ w'.cell? ⟨K, 3, none⟩ = some (.slice q1 q2 q3)) (by kernel_rfl) (four HYD.out) (fun hHeld => ?_)
                  refine Exc.take_E (i := 0) (v := ?_) rfl (by kernel_rfl) (by kernel_rfl) (by kernel_rfl) (by kernel_rfl) (by kernel_rfl) (by kernel_rfl) (fun _ _ _ h => h) (Or.inl ⟨by rfl, ?_⟩) (by assumption) ?_; rotate_left; (focus (intro wS hSw; (try dsimp only at hSw); go_simp <;> with_reducible rfl)); (try simp only [Act.put, List.getElem_toArray, List.getElem_cons_succ, List.getElem_cons_zero, List.setIfInBounds_toArray, List.set_cons_zero, List.set_cons_succ])
                  refine Exc.take_W (i := 1) (v := ?_) rfl (by kernel_rfl) (by kernel_rfl) (by kernel_rfl) (by kernel_rfl) (fun _ _ _ h => h) (Or.inl ⟨by rfl, ?_⟩) (by first | exact (fun _ => by assumption) | exact (fun h => absurd h (by decide))) ?_; rotate_left; (focus (intro wS hSw; (try dsimp only at hSw); go_simp <;> with_reducible rfl)); (try simp only [Act.put, List.getElem_toArray, List.getElem_cons_succ, List.getElem_cons_zero, List.setIfInBounds_toArray, List.set_cons_zero, List.set_cons_succ])
                  refine Exc.take_W (i := 2) (v := ?_) rfl (by kernel_rfl) (by kernel_rfl) (by kernel_rfl) (by kernel_rfl) (fun _ _ _ h => h) (Or.inl ⟨by rfl, ?_⟩) (by first | exact (fun _ => by assumption) | exact (fun h => absurd h (by decide))) ?_; rotate_left; (focus (intro wS hSw; (try dsimp only at hSw); go_simp <;> with_reducible rfl)); (try simp only [Act.put, List.getElem_toArray, List.getElem_cons_succ, List.getElem_cons_zero, List.setIfInBounds_toArray, List.set_cons_zero, List.set_cons_succ])
                  refine Exc.take_E (i := 3) (v := ?_) rfl (by kernel_rfl) (by kernel_rfl) (by kernel_rfl) (by kernel_rfl) (by kernel_rfl) (by kernel_rfl) (fun _ _ _ h => h) (Or.inl ⟨by rfl, ?_⟩) (by assumption) ?_; rotate_left; (focus (intro wS hSw; (try dsimp only at hSw); go_simp <;> with_reducible rfl)); (try simp only [Act.put, List.getElem_toArray, List.getElem_cons_succ, List.getElem_cons_zero, List.setIfInBounds_toArray, List.set_cons_zero, List.set_cons_succ])
                  refine Exc.ready_E (i := 4) (by kernel_rfl) rfl (fun K hK => ?_); go_simp; (go_at_call 96; refine (DepI.sFoodAt_any _ _ D wk (HD.out.grown HBD.out.grown)).mono ?_; rintro e v7 ⟨rfl, hg⟩; have HB7 := Lib.hid (HBD.out.on hg); have HW7 := Lib.hid (HWD.out.grown hg); have HU7 := Lib.hid (HUD.out.grown hg); have HQ7 := Lib.hid (HQD.out.grown hg); have HY7 := Lib.hid (HYD.out.grown hg); have HV7 := Lib.hid (Nat.le_trans HV6.out hg.size); clear hg)
                  refine hK.out _ _ ?_ (fun hHeld => ?_)
                  · exact four HY7.out
                  clear hK K
                  (try simp only [Act.put, List.getElem_toArray, List.getElem_cons_succ, List.getElem_cons_zero, List.setIfInBounds_toArray, List.set_cons_zero, List.set_cons_succ])
                  refine Exc.ready_E (i := 5) (by kernel_rfl) rfl (fun K hK => ?_); go_simp; (go_at_call 95; refine (sPick_any _ wk ge (foodAt D wk) _ _ L (addDay P' false) HGW2.out HU7.out HQ7.out hLl hpl2).mono ?_; rintro e v8 ⟨m, r, rfl, hou, hot, hap, hg⟩; rw [hpk]; obtain ⟨m1, m2, m3, rfl, _⟩ := hou.sees.shape; obtain ⟨r1, r2, r3, rfl, _⟩ := hot.sees.shape; have HB8 := Lib.hid (HB7.out.on hg); have HW8 := Lib.hid (HW7.out.grown hg); have HY8 := Lib.hid (HY7.out.grown hg); have HM8 := Lib.hid hou; have HR8 := Lib.hid hot; have HV8 := Lib.hid (Nat.le_trans HV7.out hg.size); obtain ⟨⟨p0, f0⟩, ⟨p1, f1⟩, ⟨p2, f2⟩, ⟨p3, f3⟩⟩ := put4_on HY8.out (.int .i64 wk) (.int .i64 gn) (.slice m1 m2 m3) (.slice r1 r2 r3); clear hg hap hou hot)
                  refine hK.out _ _ ?_ (fun hHeld => ?_)
                  · exact four HY8.out
                  clear hK K
                  (try simp only [Act.put, List.getElem_toArray, List.getElem_cons_succ, List.getElem_cons_zero, List.setIfInBounds_toArray, List.set_cons_zero, List.set_cons_succ])
                  refine Exc.take_W (i := 6) (v := ?_) rfl (by kernel_rfl) (by kernel_rfl) (by kernel_rfl) (by kernel_rfl) (fun _ _ _ h => h) (Or.inl ⟨by rfl, ?_⟩) (by first | exact (fun _ => by assumption) | exact (fun h => absurd h (by decide))) ?_; rotate_left; (focus (intro wS hSw; (try dsimp only at hSw); go_simp <;> with_reducible rfl)); (try simp only [Act.put, List.getElem_toArray, List.getElem_cons_succ, List.getElem_cons_zero, List.setIfInBounds_toArray, List.set_cons_zero, List.set_cons_succ])
                  refine Exc.take_W (i := 7) (v := ?_) rfl (by kernel_rfl) (by kernel_rfl) (by kernel_rfl) (by kernel_rfl) (fun _ _ _ h => h) (Or.inl ⟨by rfl, ?_⟩) (by first | exact (fun _ => by assumption) | exact (fun h => absurd h (by decide))) ?_; rotate_left; (focus (intro wS hSw; (try dsimp only at hSw); go_simp <;> with_reducible rfl)); (try simp only [Act.put, List.getElem_toArray, List.getElem_cons_succ, List.getElem_cons_zero, List.setIfInBounds_toArray, List.set_cons_zero, List.set_cons_succ])
                  refine Exc.take_W (i := 8) (v := ?_) rfl (by kernel_rfl) (by kernel_rfl) (by kernel_rfl) (by kernel_rfl) (fun _ _ _ h => h) (Or.inl ⟨by rfl, ?_⟩) (by first | exact (fun _ => by assumption) | exact (fun h => absurd h (by decide))) ?_; rotate_left; (focus (intro wS hSw; (try dsimp only at hSw); go_simp <;> with_reducible rfl)); (try simp only [Act.put, List.getElem_toArray, List.getElem_cons_succ, List.getElem_cons_zero, List.setIfInBounds_toArray, List.set_cons_zero, List.set_cons_succ])
                  refine Exc.last_E (by kernel_rfl) rfl (by kernel_rfl) (fun K hK => ?_); go_simp
                  refine hK.out _ _ ?_
                  clear hK K
                  (try simp only [Act.put, List.getElem_toArray, List.getElem_cons_succ, List.getElem_cons_zero, List.setIfInBounds_toArray, List.set_cons_zero, List.set_cons_succ])
                  refine Exc.done_E (by kernel_rfl) ?_ _
                  (try simp only [Act.put, List.getElem_toArray, List.getElem_cons_succ, List.getElem_cons_zero, List.setIfInBounds_toArray, List.set_cons_zero, List.set_cons_succ])
                  have hput := put4_grown v8 K (.int .i64 wk) (.int .i64 gn) (.slice m1 m2 m3) (.slice r1 r2 r3)
                  have HK7 := Lib.hid HY7.out.lt
                  have HY9 : Hid (Box ((((v8.setCell ⟨K, 0, none⟩ (.int .i64 wk)).setCell ⟨K, 1, none⟩ (.int .i64 gn)).setCell ⟨K, 2, none⟩ (.slice m1 m2 m3)).setCell ⟨K, 3, none⟩ (.slice r1 r2 r3)) K #[.int .i64 wk, .int .i64 gn, .slice m1 m2 m3, .slice r1 r2 r3] 42) := put4_box (x' := .int .i64 wk) (y' := .int .i64 gn) (z' := .slice m1 m2 m3) (u' := .slice r1 r2 r3) HY8.out
                  have HB9 : Hid (HB w ((((v8.setCell ⟨K, 0, none⟩ (.int .i64 wk)).setCell ⟨K, 1, none⟩ (.int .i64 gn)).setCell ⟨K, 2, none⟩ (.slice m1 m2 m3)).setCell ⟨K, 3, none⟩ (.slice r1 r2 r3)) A (A + 1) (A + 2) W H M N at' g (.slice xa xn xc) (.slice ua un uc) (.slice ta tn tc) L P') := HB8.out.kept hput HOFF.out.2.2.2.2 HOFF.out.1 HOFF.out.2.1
                  have HW9 : Hid (Sees .i64 ((((v8.setCell ⟨K, 0, none⟩ (.int .i64 wk)).setCell ⟨K, 1, none⟩ (.int .i64 gn)).setCell ⟨K, 2, none⟩ (.slice m1 m2 m3)).setCell ⟨K, 3, none⟩ (.slice r1 r2 r3)) (.slice (some ⟨rb, ro, none⟩) wn wc) way) := by show Sees _ _ _ _; exact HW8.out.kept hput (.inr HOFF.out.2.2.1)
                  have HM9 : Hid (SeesG encM ((((v8.setCell ⟨K, 0, none⟩ (.int .i64 wk)).setCell ⟨K, 1, none⟩ (.int .i64 gn)).setCell ⟨K, 2, none⟩ (.slice m1 m2 m3)).setCell ⟨K, 3, none⟩ (.slice r1 r2 r3)) (.slice m1 m2 m3) L) := HM8.out.sees.kept hput (.inr (fun e => by have := (HM8.out.lt _ e).1; have := HK7.out; omega))
                  have HR9 : Hid (SeesG encB ((((v8.setCell ⟨K, 0, none⟩ (.int .i64 wk)).setCell ⟨K, 1, none⟩ (.int .i64 gn)).setCell ⟨K, 2, none⟩ (.slice m1 m2 m3)).setCell ⟨K, 3, none⟩ (.slice r1 r2 r3)) (.slice r1 r2 r3) (addDay P' false)) := HR8.out.sees.kept hput (.inr (fun e => by have := (HR8.out.lt _ e).1; have := HK7.out; omega))
                  have HV9 : Hid (v8.heap.size ≤ ((((v8.setCell ⟨K, 0, none⟩ (.int .i64 wk)).setCell ⟨K, 1, none⟩ (.int .i64 gn)).setCell ⟨K, 2, none⟩ (.slice m1 m2 m3)).setCell ⟨K, 3, none⟩ (.slice r1 r2 r3)).heap.size) := hput.size
                  generalize (((v8.setCell ⟨K, 0, none⟩ (.int .i64 wk)).setCell ⟨K, 1, none⟩ (.int .i64 gn)).setCell ⟨K, 2, none⟩ (.slice m1 m2 m3)).setCell ⟨K, 3, none⟩ (.slice r1 r2 r3) = v9 at *
                  clear p0 f0 p1 f1 p2 f2 p3 f3 hput hHeld hpk
                  obtain ⟨d0, d1, d2, d3⟩ := four HY9.out
                  obtain ⟨⟨p0, f0⟩, ⟨p1, f1⟩, ⟨p2, f2⟩, ⟨p3, f3⟩⟩ := put4_on HB9.out.party (.int .i64 wk) (.int .i64 gn) (.slice m1 m2 m3) (.slice r1 r2 r3)
                  have HB10 := Lib.hid (HB9.out.put (n' := wk) (f' := gn) HM9.out HR9.out (fun c e => by have := HM8.out.lt c e; have := HK7.out; have := HOFF.out.2.2.2.2; have := HV9.out; omega) (fun c e => by have := HR8.out.lt c e; have := HK7.out; have := HOFF.out.2.2.2.2; have := HV9.out; omega))
                  have HW10 := Lib.hid (HW9.out.kept (put4_grown _ (A + 2) (.int .i64 wk) (.int .i64 gn) (.slice m1 m2 m3) (.slice r1 r2 r3)) (.inr (fun e => by have := HWL2.out _ e; omega)))
                  have HPG := Lib.hid (put4_grown v9 (A + 2) (.int .i64 wk) (.int .i64 gn) (.slice m1 m2 m3) (.slice r1 r2 r3)).size
                  go_wp2
                  go_roundw
                  case rel => exact ⟨k + 1, wk, gn, m1, m2, m3, r1, r2, r3, addDay P' false, by omega, by omega, by go_num, by show _ ∧ _; have := HGN.out; have := HGEB.out; omega, addDay_len P' false, HE2, HB10, HW10, by show _ ≤ _; have h1 := HWS.out; have h2 := HSV.out; have h3 := HK3.out; have h4 := HS4.out; have h5 := HV8.out; have h6 := HV9.out; have h7 := HPG.out; exact Nat.le_trans (show w7.heap.size ≤ v9.heap.size by omega) h7⟩
                  case measure =>
                    have h6 := foodIn_of HB10.out.party
                    have h7 := HFO.out
                    have h10 := HGN.out
                    have h11 := HGEB.out
                    have h12 := HGB.out
                    unfold put4 at h6
                    simp only [intOf]
                    rw [h6, h7]
                    omega
                · rw [hs] at HS0
                  have HE2 : Hid (onWay L D (signs M N (addDay P' true) (wn - k)) (way.drop k) ge = left W H X base M N D n f L P) := by
                    show _ = _
                    rw [← HE.out, HS0.out, if_pos rfl, HGE.out, signs_alike HK.out.1 HK.out.2 (addDay_alike HK.out.2 P' true)]
                    exact (walk_storm (by have := HLE.out; omega)).symm
                  clear hs
                  go_wp2_with fail
                  refine (sAddDay_any _ _ P' true HB3.out.sp (by have := HPL.out; omega)).mono ?_
                  rintro e v4 ⟨q, rfl, hq, hql, hg⟩
                  obtain ⟨q1, q2, q3, rfl, _⟩ := hq.shape
                  have HB4 := Lib.hid (HB3.out.on hg)
                  have HW4 := Lib.hid (HW3.out.grown hg)
                  have HY4 := Lib.hid (HY3.out.grown hg)
                  have HU4 := Lib.hid (HU3.out.grown hg)
                  have HQ4 := Lib.hid hq
                  have HQL := Lib.hid hql
                  have HS4 := Lib.hid hg.size
                  clear hg hq hql HB3 HW3 HY3 HU3 a0 a1 a2 b0 b1 c0 c1 c2 c3
                  have hset := grown_set v4 K 3 (.slice q1 q2 q3)
                  have HY5 := Lib.hid (four_set3 (v := .slice q1 q2 q3) HY4.out)
                  have HB5 := Lib.hid (HB4.out.kept hset HOFF.out.2.2.2.2 HOFF.out.1 HOFF.out.2.1)
                  have HW5 := Lib.hid (HW4.out.kept hset (.inr HOFF.out.2.2.1))
                  have HU5 := Lib.hid (HU4.out.kept hset (.inr HOFF.out.2.2.2.1))
                  have HQ5 := Lib.hid (HQ4.out.kept hset (.inr (fun e => by have := (HQL.out _ e).1; have := HK3.out; omega)))
                  have HSS := Lib.hid hset.size
                  have y3 := HY4.out.cell 3
                  have z3 := HY4.out.free 3
                  obtain ⟨d0, d1, d2, d3⟩ := four HY5.out
                  obtain ⟨⟨p0, r0⟩, ⟨p1, r1⟩, ⟨p2, r2⟩, ⟨p3, r3⟩⟩ := put4_on HB5.out.party (.int .i64 at') (.int .i64 ge) (.slice u1 u2 u3) (.slice q1 q2 q3)
                  have HB6 := Lib.hid (HB5.out.put (n' := at') (f' := ge) HU5.out HQ5.out (fun c e => by have := HUL.out c e; have := HK3.out; have := HS4.out; have := HSS.out; omega) (fun c e => by have := HQL.out c e; have := HOFF.out.2.2.2.2; have := HK3.out; have := HSS.out; omega))
                  have HW6 := Lib.hid (HW5.out.kept (put4_grown _ (A + 2) (.int .i64 at') (.int .i64 ge) (.slice u1 u2 u3) (.slice q1 q2 q3)) (.inr (fun e => by have := HWL2.out _ e; omega)))
                  clear hset
                  go_wp2
                  go_roundw
                  case rel => exact ⟨k, at', ge, u1, u2, u3, q1, q2, q3, addDay P' true, hk1, hkn, rfl, HGEB, addDay_len P' true, HE2, HB6, HW6, by show _ ≤ _; have h1 := HWS.out; have h2 := HSV.out; have h3 := HK3.out; have h4 := HS4.out; have h5 := (put4_grown (v4.setCell ⟨K, 3, none⟩ (.slice q1 q2 q3)) (A + 2) (.int .i64 at') (.int .i64 ge) (.slice u1 u2 u3) (.slice q1 q2 q3)).size; have h6 := HSS.out; exact Nat.le_trans (show w7.heap.size ≤ (v4.setCell ⟨K, 3, none⟩ (.slice q1 q2 q3)).heap.size by omega) h5⟩
                  case measure =>
                    have h6 := foodIn_of HB6.out.party
                    have h7 := HFO.out
                    have h8 := HGE.out
                    have h9 := HQ.out
                    have h10 := HGEB.out
                    unfold put4 at h6
                    rw [h6, h7]
                    omega
            · have hkk : k = wn := by omega
              have HR : Hid (g = left W H X base M N D n f L P) := by
                show _ = _
                rw [← HE.out, hkk, Nat.sub_self, signs_zero]; rfl
              subst hkk
              go_wp2
              go_ret
              exact ⟨ret_i64 HR.out, HBr.out.grown⟩
end Go.Proofs.YtonalkamfgpokaaGreat.HomS
