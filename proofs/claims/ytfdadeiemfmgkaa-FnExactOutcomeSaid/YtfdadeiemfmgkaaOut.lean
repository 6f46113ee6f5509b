/- Contracts of the outcome of a vote, of the program and of its model. -/
import Derived.Test.YtfdadeiemfmgkaaOutF
import Derived.Test.YtfdadeiemfmgkaaVotA
import Derived.Deep.WholeRow
import Derived.Laws.Rows
import Derived.Deep.RegionHeld3
namespace Go.Proofs.Ytfdadeiemfmgkaa.Out
open Go.RowKit Kit Rw Rg Crw Vot

theorem tally_info : (Try.prog.info? 87).map (fun i => (i.zero, i.size)) = some (some (.agg #[.int .i64 0, .int .i64 0, .int .i64 0, .int .i64 0, .int .i64 0, .int .i64 0, .int .i64 0, .int .i64 0, .int .i64 0, .int .i64 0]), 10) := by kernel_rfl
theorem tally_size {cs : Array Value} (h : cs.size = 10) : (Try.prog.info? 87).map (·.size) = some cs.size := by
  rw [h]
  have := tally_info
  cases hq : Try.prog.info? 87 with
  | none => rw [hq] at this; cases this
  | some i => rw [hq] at this; simp at this; simp [this.2]
theorem stores {w : World} {b : Nat} {cs cs' : Array Value} {T : TypeId} (h : Box w b cs T) (hn : cs.size = cs'.size) (h1 : cs'.all (·.oneCell') = true) : (storeCells ⟨b, 0, none⟩ cs'.toList 0).run Try.prog w = .ok () (w.setRow b cs') := by
  have := run_storeCells_from (P := Try.prog) b T cs'.toList 0 cs w h (by simpa using hn.symm) (fun v hv => (Array.all_eq_true_iff_forall_mem.1 h1) v (by simpa using hv))
  simpa using this
def z10 : Array Value := #[.int .i64 0, .int .i64 0, .int .i64 0, .int .i64 0, .int .i64 0, .int .i64 0, .int .i64 0, .int .i64 0, .int .i64 0, .int .i64 0]
theorem z10_arr (V : List V2) : z10 = arr V 0 := rfl

theorem idxl (x0 x1 x2 x3 x4 x5 x6 x7 x8 x9 : Int) (w : World) : (Instr.index 87 (.agg #[.int .i64 x0, .int .i64 x1, .int .i64 x2, .int .i64 x3, .int .i64 x4, .int .i64 x5, .int .i64 x6, .int .i64 x7, .int .i64 x8, .int .i64 x9]) (.int .i64 0)).run Try.prog w = .ok (.int .i64 x0) w ∧ (Instr.index 87 (.agg #[.int .i64 x0, .int .i64 x1, .int .i64 x2, .int .i64 x3, .int .i64 x4, .int .i64 x5, .int .i64 x6, .int .i64 x7, .int .i64 x8, .int .i64 x9]) (.int .i64 1)).run Try.prog w = .ok (.int .i64 x1) w ∧ (Instr.index 87 (.agg #[.int .i64 x0, .int .i64 x1, .int .i64 x2, .int .i64 x3, .int .i64 x4, .int .i64 x5, .int .i64 x6, .int .i64 x7, .int .i64 x8, .int .i64 x9]) (.int .i64 2)).run Try.prog w = .ok (.int .i64 x2) w ∧ (Instr.index 87 (.agg #[.int .i64 x0, .int .i64 x1, .int .i64 x2, .int .i64 x3, .int .i64 x4, .int .i64 x5, .int .i64 x6, .int .i64 x7, .int .i64 x8, .int .i64 x9]) (.int .i64 3)).run Try.prog w = .ok (.int .i64 x3) w ∧ (Instr.index 87 (.agg #[.int .i64 x0, .int .i64 x1, .int .i64 x2, .int .i64 x3, .int .i64 x4, .int .i64 x5, .int .i64 x6, .int .i64 x7, .int .i64 x8, .int .i64 x9]) (.int .i64 4)).run Try.prog w = .ok (.int .i64 x4) w ∧ (Instr.index 87 (.agg #[.int .i64 x0, .int .i64 x1, .int .i64 x2, .int .i64 x3, .int .i64 x4, .int .i64 x5, .int .i64 x6, .int .i64 x7, .int .i64 x8, .int .i64 x9]) (.int .i64 5)).run Try.prog w = .ok (.int .i64 x5) w ∧ (Instr.index 87 (.agg #[.int .i64 x0, .int .i64 x1, .int .i64 x2, .int .i64 x3, .int .i64 x4, .int .i64 x5, .int .i64 x6, .int .i64 x7, .int .i64 x8, .int .i64 x9]) (.int .i64 6)).run Try.prog w = .ok (.int .i64 x6) w ∧ (Instr.index 87 (.agg #[.int .i64 x0, .int .i64 x1, .int .i64 x2, .int .i64 x3, .int .i64 x4, .int .i64 x5, .int .i64 x6, .int .i64 x7, .int .i64 x8, .int .i64 x9]) (.int .i64 7)).run Try.prog w = .ok (.int .i64 x7) w ∧ (Instr.index 87 (.agg #[.int .i64 x0, .int .i64 x1, .int .i64 x2, .int .i64 x3, .int .i64 x4, .int .i64 x5, .int .i64 x6, .int .i64 x7, .int .i64 x8, .int .i64 x9]) (.int .i64 8)).run Try.prog w = .ok (.int .i64 x8) w ∧ (Instr.index 87 (.agg #[.int .i64 x0, .int .i64 x1, .int .i64 x2, .int .i64 x3, .int .i64 x4, .int .i64 x5, .int .i64 x6, .int .i64 x7, .int .i64 x8, .int .i64 x9]) (.int .i64 9)).run Try.prog w = .ok (.int .i64 x9) w := by
  refine ⟨?_, ?_, ?_, ?_, ?_, ?_, ?_, ?_, ?_, ?_⟩ <;> kernel_rfl
theorem idx_any (V : List V2) (n : Nat) (w : World) : ∀ k : Nat, k < 10 → (Instr.index 87 (.agg (arr V n)) (.int .i64 (k : Int))).run Try.prog w = .ok (.int .i64 (cnt V k n)) w := fun k hk => by
  obtain ⟨h0, h1, h2, h3, h4, h5, h6, h7, h8, h9⟩ := idxl (cnt V ((0 : Nat) : Int) n) (cnt V ((1 : Nat) : Int) n) (cnt V ((2 : Nat) : Int) n) (cnt V ((3 : Nat) : Int) n) (cnt V ((4 : Nat) : Int) n) (cnt V ((5 : Nat) : Int) n) (cnt V ((6 : Nat) : Int) n) (cnt V ((7 : Nat) : Int) n) (cnt V ((8 : Nat) : Int) n) (cnt V ((9 : Nat) : Int) n) w
  match k, hk with
  | 0, _ => exact h0
  | 1, _ => exact h1
  | 2, _ => exact h2
  | 3, _ => exact h3
  | 4, _ => exact h4
  | 5, _ => exact h5
  | 6, _ => exact h6
  | 7, _ => exact h7
  | 8, _ => exact h8
  | 9, _ => exact h9

/-- Where tallyOf stands. -/
structure TS (w wr : World) (V : List V2) (j : Nat) : Prop where
  res : Box wr w.heap.size z10 87
  row : Box wr (w.heap.size + 1) (arr V j) 87
  grown : w.grownBy wr none

set_option maxRecDepth 20000 in
set_option maxHeartbeats 2000000 in
theorem tally_any (w : World) (v : Value) (V : List V2) (hv : SeesG encP w v V) (hr : ∀ i, i < V.length → 0 ≤ (V.getD i (0, 0)).2 ∧ (V.getD i (0, 0)).2 ≤ 9) (hn : V.length ≤ 100000000) :
    Calls Try.prog 74 #[v] w fun e w' => e = .returned (.agg (arr V V.length)) ∧ w.grownBy w' none := by
  have hl := hv.len
  have HV := Lib.hid hv
  have HRG := Lib.hid hr
  have hg1 := World.grownBy_alloc w (.cells z10 87 (0, 0)) (none : Option Nat)
  have hg2 := World.grownBy_alloc (w.alloc (.cells z10 87 (0, 0))) (.cells z10 87 (0, 0)) (none : Option Nat)
  have hb2 := box_new (w.alloc (.cells z10 87 (0, 0))) z10 87
  rw [World.size_alloc] at hb2
  have HT : Hid (TS w ((w.alloc (.cells z10 87 (0, 0))).alloc (.cells z10 87 (0, 0))) V 0) := ⟨(box_new w z10 87).grown hg2, by rw [← z10_arr]; exact hb2, grownN_trans hg1 hg2⟩
  obtain ⟨a, cap, rfl, _⟩ := hv
  clear hg1 hg2 hb2 hr
  go_enter Try.func74, Try.ntmps74
  go_wp2
  go_loopw [9] (fun i wr => ∃ j : Nat, j ≤ V.length ∧ i = .int .i64 j ∧ Hid (TS w wr V j)) (fun i _ => V.length - (intOf i).toNat)
  case atStart => exact ⟨0, Nat.zero_le _, rfl, HT⟩
  case round =>
    rename_i _ wr
    obtain ⟨j, hj, rfl, HQ⟩ := hrel
    by_cases hlt : j < V.length
    · obtain ⟨b, o, rfl, _, _⟩ := HV.out.at_row hlt
      obtain ⟨x, hx⟩ : ∃ x, V.getD j (0, 0) = x := ⟨_, rfl⟩
      obtain ⟨d0, d1⟩ := atP_in HV.out HQ.out.grown hlt hx
      have hxr := HRG.out j hlt
      have hnx := fun c h => arr_next (V := V) (j := j) (c := c) h
      rw [hx] at hxr hnx
      clear hx
      obtain ⟨x0, x1⟩ := x
      dsimp only at d0 d1 hxr hnx
      obtain ⟨c, rfl⟩ : ∃ c : Nat, x1 = c := ⟨x1.toNat, by omega⟩
      have hc10 : c < 10 := by omega
      have hnx2 := hnx c hc10 rfl
      have hcb := cnt_bd V c j
      have hga := World.grownBy_alloc wr (.cells #[.int .i64 x0, .int .i64 (c : Int)] 49 (0, 0)) none
      have hro := HQ.out.row.grown hga
      have hre := HQ.out.res.grown hga
      have e1 : (wr.alloc (.cells #[.int .i64 x0, .int .i64 (c : Int)] 49 (0, 0))).cell? ⟨w.heap.size + 1, c, none⟩ = some (.int .i64 (cnt V c j)) := by rw [hro.cell]; exact arr_get V j hc10
      have e0 : wr.cell? ⟨w.heap.size + 1, c, none⟩ = some (.int .i64 (cnt V c j)) := by rw [HQ.out.row.cell]; exact arr_get V j hc10
      have f1 := HQ.out.row.free c
      have f2 := hro.free c
      obtain ⟨k, hk⟩ : ∃ k, k = cnt V c j := ⟨_, rfl⟩
      rw [← hk] at e0 e1 hcb hnx2
      have hst := box_set hro c (.int .i64 (k + 1))
      rw [hnx2] at hst
      have hgs := grown_set (wr.alloc (.cells #[.int .i64 x0, .int .i64 (c : Int)] 49 (0, 0))) (w.heap.size + 1) c (.int .i64 (k + 1))
      have HTN : Hid (TS w ((wr.alloc (.cells #[.int .i64 x0, .int .i64 (c : Int)] 49 (0, 0))).setCell ⟨w.heap.size + 1, c, none⟩ (.int .i64 (k + 1))) V (j + 1)) :=
        ⟨hre.kept hgs (by simp), hst, grown_new (grownN_trans HQ.out.grown hga) hgs (fun g h => by injection h with h; omega)⟩
      clear hk hst hgs hro hre hga hnx hnx2
      go_wp2
      go_roundw
      case rel => exact ⟨j + 1, by omega, by go_num, HTN⟩
      case measure => simp [intOf]; omega
    · have hjn : j = V.length := by omega
      subst hjn
      obtain ⟨cs, hcs⟩ : ∃ cs, cs = arr V V.length := ⟨_, rfl⟩
      have hsz : cs.size = 10 := by rw [hcs]; exact arr_size _ _
      have h1c : cs.all (·.oneCell') = true := by rw [hcs]; exact arr_one _ _
      have HBX : Hid (Box wr (w.heap.size + 1) cs 87) := by rw [hcs]; exact HQ.out.row
      have hst := stores (cs' := cs) HQ.out.res (by rw [hsz]; rfl) h1c
      have HCS := Lib.hid hcs
      clear hcs h1c
      go_wp2_with (refine wpList_load_part rfl 87 _ rfl (w.heap.size + 1) 0 rfl cs _ HBX.out.part Try.underlying87 rfl (tally_size hsz) ?_)
      have hr := box_setRow (cs' := cs) HQ.out.res
      have hk := grown_setRow wr w.heap.size cs
      have hgw : w.grownBy (wr.setRow w.heap.size cs) none := grown_new HQ.out.grown hk (fun c hc => by injection hc with hc; omega)
      refine bodyPost_ret (v := .agg cs) (results_cell_row rfl _ _ w.heap.size _ cs (0, 0) _ rfl hr Try.underlying87 rfl (tally_size hsz)) rfl ⟨by rw [HCS.out], hgw⟩

set_option maxRecDepth 20000 in
set_option maxHeartbeats 2000000 in
theorem lead_any (w : World) (V : List V2) (n : Nat) (hn : n ≤ 100000000) :
    Calls Try.prog 75 #[.agg (arr V n)] w fun e w' => e = .returned (.int .i64 (bestTo V n 9 : Nat)) ∧ w.grownBy w' none := by
  obtain ⟨cs, hcs⟩ : ∃ cs, cs = arr V n := ⟨_, rfl⟩
  have hsz : cs.size = 10 := by rw [hcs]; exact arr_size _ _
  have hidx : ∀ (w : World) (k : Nat), k < 10 → (Instr.index 87 (.agg cs) (.int .i64 (k : Int))).run Try.prog w = .ok (.int .i64 (cnt V k n)) w := fun w k h => by rw [hcs]; exact idx_any V n w k h
  have HIDX := Lib.hid hidx
  clear hidx
  have hget : ∀ c : Nat, c < 10 → cs[c]? = some (.int .i64 (cnt V c n)) := fun c h => by rw [hcs]; exact arr_get V n h
  rw [← hcs]
  have HGA := Lib.hid (World.grownBy_alloc w (.cells cs 87 (0, 0)) (none : Option Nat))
  have HB := Lib.hid (box_new w cs 87)
  have HGET := Lib.hid hget
  clear hget hcs
  go_enter Try.func75, Try.ntmps75
  go_wp2_with (refine wpList_load_part rfl 87 _ rfl w.heap.size 0 rfl cs _ HB.out.part Try.underlying87 rfl (tally_size hsz) ?_)
  generalize w.alloc (.cells cs 87 (0, 0)) = w1 at *
  go_loop [3, 7] (fun b i => ∃ k : Nat, k ≤ 10 ∧ i = .int .i64 k ∧ b = .int .i64 (bestTo V n (k - 1) : Nat)) (fun _ i => 10 - (intOf i).toNat)
  case atStart => exact ⟨0, Nat.zero_le _, rfl, rfl⟩
  case round =>
    obtain ⟨k, hk, rfl, rfl⟩ := hrel
    have hbl := bestTo_le V n (k - 1)
    obtain ⟨q, hq⟩ : ∃ q, q = bestTo V n (k - 1) := ⟨_, rfl⟩
    rw [← hq] at hbl ⊢
    have HQ := Lib.hid hq
    clear hq
    by_cases hlt : k < 10
    · have hg1 := fun w => HIDX.out w k hlt
      have hq10 : q < 10 := by omega
      have e1 : w1.cell? ⟨w.heap.size, q, none⟩ = some (.int .i64 (cnt V q n)) := by rw [HB.out.cell]; exact HGET.out q hq10
      obtain ⟨x, hx⟩ : ∃ x, x = cnt V k n := ⟨_, rfl⟩
      obtain ⟨y, hy⟩ : ∃ y, y = cnt V q n := ⟨_, rfl⟩
      rw [← hx] at hg1
      rw [← hy] at e1
      have HN : Hid (bestTo V n k = if y < x then k else q) := by
        show _ = _
        cases k with
        | zero =>
          have h0 : q = 0 := by omega
          rw [h0] at hy
          rw [if_neg (by rw [hx, hy]; simp)]
          rw [h0]; rfl
        | succ k =>
          have hq' : q = bestTo V n k := by rw [HQ.out]; rfl
          simp only [bestTo]
          rw [← hq', ← hy, ← hx]
      clear hx hy
      by_cases hc : y < x
      · rw [if_pos hc] at HN
        go_wp2
        go_round
        case rel => exact ⟨k + 1, by omega, by go_num, by rw [Nat.add_sub_cancel, HN.out]⟩
        case measure => simp [intOf]; omega
      · rw [if_neg hc] at HN
        go_wp2
        go_round
        case rel => exact ⟨k + 1, by omega, by go_num, by rw [Nat.add_sub_cancel, HN.out]⟩
        case measure => simp [intOf]; omega
    · have hk10 : k = 10 := by omega
      subst hk10
      go_wp2
      go_ret
      exact ⟨ret_i64 (by rw [HQ.out]), HGA.out⟩

set_option maxRecDepth 20000 in
set_option maxHeartbeats 2000000 in
theorem iOut_any (w : World) (lv v : Value) (L : List Mem) (V : List V2) (leader : Int) (hl : SeesG encM w lv L) (hv : SeesG encP w v V) (hn : V.length ≤ 100000000) :
    Calls Try.prog 36 #[lv, v, .int .i64 leader] w fun e w' => e = .returned (.int .i64 (outcome L V leader)) ∧ w.grownBy w' none := by
  have HV := Lib.hid hv
  have HVT := Lib.hid (VotI.iVotes_any w lv v L V hl hv)
  obtain ⟨a, cap, rfl, _⟩ := hv
  by_cases h0 : V.length = 0
  · have HR : Hid (outcome L V leader = -1) := by show _ = _; unfold outcome; rw [if_pos (.inl (List.eq_nil_of_length_eq_zero h0))]
    have hb : ((V.length : Int) == 0) = true := by simp [h0]
    go_enter Try.func36, Try.ntmps36
    go_wp2
    go_ret
    exact ⟨ret_i64 HR.out.symm, World.grownBy.refl _ _⟩
  · have hb : ((V.length : Int) == 0) = false := by rw [beq_eq_false_iff_ne]; omega
    have hne : V ≠ [] := fun e => h0 (by rw [e]; rfl)
    cases hok : areVotes L V
    · have HR : Hid (outcome L V leader = -1) := by show _ = _; unfold outcome; rw [if_pos (.inr hok)]
      rw [hok] at HVT
      clear hok
      go_enter Try.func36, Try.ntmps36
      go_wp2_with (go_at_call 34; refine HVT.out.mono ?_; rintro e w2 ⟨rfl, hg⟩; have HG2 := Lib.hid hg; clear hg)
      go_ret
      exact ⟨ret_i64 HR.out.symm, HG2.out⟩
    · have HR : Hid (outcome L V leader = choice V leader) := by
        show _ = _; unfold outcome
        rw [if_neg (by intro h; rcases h with h | h; exact hne h; rw [hok] at h; cases h)]
      obtain ⟨hcrew, hup⟩ := votes_of hok
      have HUP := Lib.hid hup
      have hrng : ∀ i, i < V.length → 0 ≤ (V.getD i (0, 0)).2 ∧ (V.getD i (0, 0)).2 ≤ 9 := fun i hi => (hup i hi).2.1
      have HRNG := Lib.hid hrng
      rw [hok] at HVT
      clear hok hup hrng hcrew
      go_enter Try.func36, Try.ntmps36
      go_wp2_with (go_at_call 34; refine HVT.out.mono ?_; rintro e w2 ⟨rfl, hg⟩; have HG2 := Lib.hid hg; have HTL := Lib.hid (tally_any w2 _ V (HV.out.grown hg) HRNG.out hn); clear hg)
      refine HTL.out.mono ?_
      rintro e w3 ⟨rfl, hg⟩
      have HG3 := Lib.hid (grownN_trans HG2.out hg)
      obtain ⟨cs, hcs⟩ : ∃ cs, cs = arr V V.length := ⟨_, rfl⟩
      have hsz : cs.size = 10 := by rw [hcs]; exact arr_size _ _
      have h1c : cs.all (·.oneCell') = true := by rw [hcs]; exact arr_one _ _
      have hst := run_storeCells_new (P := Try.prog) w3 87 z10 cs (tally_size hsz) (by rw [hsz]; rfl) h1c
      unfold z10 at hst
      have HCS := Lib.hid hcs
      rw [← hcs]
      clear hg hcs h1c
      have HB4 := Lib.hid (box_new w3 cs 87)
      have hga := World.grownBy_alloc w3 (.cells cs 87 (0, 0)) none
      have HG4 := Lib.hid (grownN_trans HG3.out hga)
      have hld := fun w => lead_any w V V.length hn
      rw [← HCS.out] at hld
      have HLD := Lib.hid hld
      have hbl := bestTo_le V V.length 9
      obtain ⟨q, hq⟩ : ∃ q, q = bestTo V V.length 9 := ⟨_, rfl⟩
      rw [← hq] at HLD hbl
      have HQ := Lib.hid hq
      clear hga hld hq
      go_wp2_with (first
        | (refine wpList_load_part rfl 87 _ rfl w3.heap.size 0 rfl cs _ HB4.out.part Try.underlying87 rfl (tally_size hsz) ?_)
        | (go_at_call 75; refine (HLD.out _).mono ?_; rintro e w5 ⟨rfl, hg⟩; have HG5 := Lib.hid (grownN_trans HG4.out hg); have HB5 := Lib.hid (HB4.out.grown hg); have HPL := Lib.hid (VotA.place_any w5 _ leader V (HV.out.grown HG5.out)); clear hg))
      refine HPL.out.mono ?_
      rintro e w6 ⟨rfl, hg⟩
      have HG6 := Lib.hid (grownN_trans HG5.out hg)
      have HB6 := Lib.hid (HB5.out.grown hg)
      clear hg
      have hgd := grown_drew (World.grownBy.refl w6 (none : Option Nat))
      have HG7 := Lib.hid (grownN_trans HG6.out hgd)
      have HB7 := Lib.hid (HB6.out.grown hgd)
      clear hgd
      rcases Wat.place_of (whos V) leader 0 with ⟨hp, _⟩ | ⟨k, hk, hkw, hp⟩
      · have HRR : Hid (choice V leader = (q : Int)) := by show _ = _; rw [HQ.out]; exact choice_miss (.inl hp)
        rw [show Wat.place (VotA.whos V) leader 0 = -1 from hp]
        clear hp
        go_wp2_with fail
        refine wp_region_held_drew (S := fun w' => True) (by kernel_rfl) trivial (fun hHeld => ?_)
        refine wpAnyH_take (i := 0) (v := ?_) rfl (by kernel_rfl) (by kernel_rfl) (by kernel_rfl) (fun _ _ _ h => h) (Or.inl ⟨by rfl, ?_⟩) (by assumption) ?_; rotate_left; (focus (intro wS hSw; (try dsimp only at hSw); go_simp <;> with_reducible rfl)); (try simp only [Act.put, List.getElem_toArray, List.getElem_cons_succ, List.getElem_cons_zero, List.setIfInBounds_toArray, List.set_cons_zero, List.set_cons_succ])
        refine wpAnyH_take (i := 1) (v := ?_) rfl (by kernel_rfl) (by kernel_rfl) (by kernel_rfl) (fun _ _ _ h => h) (Or.inl ⟨by rfl, ?_⟩) (by assumption) ?_; rotate_left; (focus (intro wS hSw; (try dsimp only at hSw); go_simp <;> with_reducible rfl)); (try simp only [Act.put, List.getElem_toArray, List.getElem_cons_succ, List.getElem_cons_zero, List.setIfInBounds_toArray, List.set_cons_zero, List.set_cons_succ])
        refine wpAnyH_take (i := 2) (v := ?_) rfl (by kernel_rfl) (by kernel_rfl) (by kernel_rfl) (fun _ _ _ h => h) (Or.inl ⟨by rfl, ?_⟩) (by assumption) ?_; rotate_left; (focus (intro wS hSw; (try dsimp only at hSw); go_simp <;> with_reducible rfl)); (try simp only [Act.put, List.getElem_toArray, List.getElem_cons_succ, List.getElem_cons_zero, List.setIfInBounds_toArray, List.set_cons_zero, List.set_cons_succ])
        refine wpAnyH_take (i := 3) (v := undef) rfl (by kernel_rfl) (by kernel_rfl) (by kernel_rfl) (fun _ _ _ h => h) (Or.inr ⟨by rfl, rfl⟩) (by assumption) ?_; (try simp only [Act.put, List.getElem_toArray, List.getElem_cons_succ, List.getElem_cons_zero, List.setIfInBounds_toArray, List.set_cons_zero, List.set_cons_succ])
        refine wpAnyH_take (i := 4) (v := undef) rfl (by kernel_rfl) (by kernel_rfl) (by kernel_rfl) (fun _ _ _ h => h) (Or.inr ⟨by rfl, rfl⟩) (by assumption) ?_; (try simp only [Act.put, List.getElem_toArray, List.getElem_cons_succ, List.getElem_cons_zero, List.setIfInBounds_toArray, List.set_cons_zero, List.set_cons_succ])
        refine wpAnyH_take (i := 5) (v := undef) rfl (by kernel_rfl) (by kernel_rfl) (by kernel_rfl) (fun _ _ _ h => h) (Or.inr ⟨by rfl, rfl⟩) (by assumption) ?_; (try simp only [Act.put, List.getElem_toArray, List.getElem_cons_succ, List.getElem_cons_zero, List.setIfInBounds_toArray, List.set_cons_zero, List.set_cons_succ])
        refine wpAnyH_take (i := 6) (v := undef) rfl (by kernel_rfl) (by kernel_rfl) (by kernel_rfl) (fun _ _ _ h => h) (Or.inr ⟨by rfl, rfl⟩) (by assumption) ?_; (try simp only [Act.put, List.getElem_toArray, List.getElem_cons_succ, List.getElem_cons_zero, List.setIfInBounds_toArray, List.set_cons_zero, List.set_cons_succ])
        refine wpAnyH_take (i := 7) (v := undef) rfl (by kernel_rfl) (by kernel_rfl) (by kernel_rfl) (fun _ _ _ h => h) (Or.inr ⟨by rfl, rfl⟩) (by assumption) ?_; (try simp only [Act.put, List.getElem_toArray, List.getElem_cons_succ, List.getElem_cons_zero, List.setIfInBounds_toArray, List.set_cons_zero, List.set_cons_succ])
        refine wpAnyH_take (i := 8) (v := undef) rfl (by kernel_rfl) (by kernel_rfl) (by kernel_rfl) (fun _ _ _ h => h) (Or.inr ⟨by rfl, rfl⟩) (by assumption) ?_; (try simp only [Act.put, List.getElem_toArray, List.getElem_cons_succ, List.getElem_cons_zero, List.setIfInBounds_toArray, List.set_cons_zero, List.set_cons_succ])
        refine wpAnyH_take (i := 9) (v := undef) rfl (by kernel_rfl) (by kernel_rfl) (by kernel_rfl) (fun _ _ _ h => h) (Or.inr ⟨by rfl, rfl⟩) (by assumption) ?_; (try simp only [Act.put, List.getElem_toArray, List.getElem_cons_succ, List.getElem_cons_zero, List.setIfInBounds_toArray, List.set_cons_zero, List.set_cons_succ])
        refine wpAnyH_take (i := 10) (v := undef) rfl (by kernel_rfl) (by kernel_rfl) (by kernel_rfl) (fun _ _ _ h => h) (Or.inr ⟨by rfl, rfl⟩) (by assumption) ?_; (try simp only [Act.put, List.getElem_toArray, List.getElem_cons_succ, List.getElem_cons_zero, List.setIfInBounds_toArray, List.set_cons_zero, List.set_cons_succ])
        refine wpAnyH_take (i := 11) (v := undef) rfl (by kernel_rfl) (by kernel_rfl) (by kernel_rfl) (fun _ _ _ h => h) (Or.inr ⟨by rfl, rfl⟩) (by assumption) ?_; (try simp only [Act.put, List.getElem_toArray, List.getElem_cons_succ, List.getElem_cons_zero, List.setIfInBounds_toArray, List.set_cons_zero, List.set_cons_succ])
        refine wpAnyH_take (i := 12) (v := undef) rfl (by kernel_rfl) (by kernel_rfl) (by kernel_rfl) (fun _ _ _ h => h) (Or.inr ⟨by rfl, rfl⟩) (by assumption) ?_; (try simp only [Act.put, List.getElem_toArray, List.getElem_cons_succ, List.getElem_cons_zero, List.setIfInBounds_toArray, List.set_cons_zero, List.set_cons_succ])
        refine wpAnyH_take (i := 13) (v := undef) rfl (by kernel_rfl) (by kernel_rfl) (by kernel_rfl) (fun _ _ _ h => h) (Or.inr ⟨by rfl, rfl⟩) (by assumption) ?_; (try simp only [Act.put, List.getElem_toArray, List.getElem_cons_succ, List.getElem_cons_zero, List.setIfInBounds_toArray, List.set_cons_zero, List.set_cons_succ])
        refine wpAnyH_take (i := 14) (v := ?_) rfl (by kernel_rfl) (by kernel_rfl) (by kernel_rfl) (fun _ _ _ h => h) (Or.inl ⟨by rfl, ?_⟩) (by assumption) ?_; rotate_left; (focus (intro wS hSw; (try dsimp only at hSw); go_simp <;> with_reducible rfl)); (try simp only [Act.put, List.getElem_toArray, List.getElem_cons_succ, List.getElem_cons_zero, List.setIfInBounds_toArray, List.set_cons_zero, List.set_cons_succ])
        refine wpAnyH_done (by kernel_rfl) ?_ _
        (try simp only [Act.put, List.getElem_toArray, List.getElem_cons_succ, List.getElem_cons_zero, List.setIfInBounds_toArray, List.set_cons_zero, List.set_cons_succ])
        go_wp2
        go_ret
        exact ⟨ret_i64 (by rw [HR.out, HRR.out]), HG7.out⟩
      · have hkV : k < V.length := by simpa using hk
        have hkI : (k : Int) < (V.length : Int) := by omega
        have hk0 : (0 : Int) ≤ (k : Int) := by omega
        rw [Nat.zero_add] at hp
        rw [show Wat.place (VotA.whos V) leader 0 = (k : Int) from hp]
        obtain ⟨b, o, rfl, _, _⟩ := HV.out.at_row hkV
        obtain ⟨x, hx⟩ : ∃ x, V.getD k (0, 0) = x := ⟨_, rfl⟩
        have hD := fun w' (hg : w.grownBy w' none) => atP_in HV.out hg hkV hx
        have hxr := HRNG.out k hkV
        rw [hx] at hxr
        have HX := Lib.hid hx
        have HPP := Lib.hid hp
        clear hx hk hkw hp
        obtain ⟨x0, x1⟩ := x
        dsimp only at hD hxr
        obtain ⟨c, rfl⟩ : ∃ c : Nat, x1 = c := ⟨x1.toNat, by omega⟩
        have HD := Lib.hid hD
        have hc10 : c < 10 := by omega
        have hc10I : (c : Int) < 10 := by omega
        have hc0I : (0 : Int) ≤ (c : Int) := by omega
        have hq10 : q < 10 := by omega
        have hq10I : (q : Int) < 10 := by omega
        have hq0I : (0 : Int) ≤ (q : Int) := by omega
        have e1 : w6.drew.cell? ⟨w3.heap.size, c, none⟩ = some (.int .i64 (cnt V c V.length)) := by rw [HB7.out.cell, HCS.out]; exact arr_get V _ hc10
        have e2 : w6.drew.cell? ⟨w3.heap.size, q, none⟩ = some (.int .i64 (cnt V q V.length)) := by rw [HB7.out.cell, HCS.out]; exact arr_get V _ hq10
        obtain ⟨z, hz⟩ : ∃ z, z = cnt V c V.length := ⟨_, rfl⟩
        obtain ⟨y, hy⟩ : ∃ y, y = cnt V q V.length := ⟨_, rfl⟩
        rw [← hz] at e1
        rw [← hy] at e2
        have HZ := Lib.hid hz
        have HY := Lib.hid hy
        clear hD hz hy hxr
        by_cases he : z = y
        · have HRR : Hid (choice V leader = (c : Int)) := by
            show _ = _
            rw [choice_hit HPP.out (by rw [HX.out]; dsimp only; rw [← HZ.out, he, HY.out, HQ.out]), HX.out]
          have heb : (z == y) = true := by simpa using he
          go_wp2_with fail
          refine wp_region_held_drew (S := fun w' => (w'.cell? ⟨b, o + k * 2, none⟩ = some (.int .i64 x0) ∧ w'.cell? ⟨b, o + k * 2 + 1, none⟩ = some (.int .i64 (c : Int))) ∧ (w'.cell? ⟨w3.heap.size, c, none⟩ = some (.int .i64 z) ∧ w'.cell? ⟨w3.heap.size, q, none⟩ = some (.int .i64 y))) (by kernel_rfl) ⟨HD.out _ HG7.out, e1, e2⟩ (fun hHeld => ?_)
          refine wpAnyH_take (i := 0) (v := ?_) rfl (by kernel_rfl) (by kernel_rfl) (by kernel_rfl) (fun _ _ _ h => h) (Or.inl ⟨by rfl, ?_⟩) (by assumption) ?_; rotate_left; (focus (intro wS hSw; (try dsimp only at hSw); go_simp <;> with_reducible rfl)); (try simp only [Act.put, List.getElem_toArray, List.getElem_cons_succ, List.getElem_cons_zero, List.setIfInBounds_toArray, List.set_cons_zero, List.set_cons_succ])
          refine wpAnyH_take (i := 1) (v := ?_) rfl (by kernel_rfl) (by kernel_rfl) (by kernel_rfl) (fun _ _ _ h => h) (Or.inl ⟨by rfl, ?_⟩) (by assumption) ?_; rotate_left; (focus (intro wS hSw; (try dsimp only at hSw); go_simp <;> with_reducible rfl)); (try simp only [Act.put, List.getElem_toArray, List.getElem_cons_succ, List.getElem_cons_zero, List.setIfInBounds_toArray, List.set_cons_zero, List.set_cons_succ])
          refine wpAnyH_take (i := 2) (v := ?_) rfl (by kernel_rfl) (by kernel_rfl) (by kernel_rfl) (fun _ _ _ h => h) (Or.inl ⟨by rfl, ?_⟩) (by assumption) ?_; rotate_left; (focus (intro wS hSw; (try dsimp only at hSw); go_simp <;> with_reducible rfl)); (try simp only [Act.put, List.getElem_toArray, List.getElem_cons_succ, List.getElem_cons_zero, List.setIfInBounds_toArray, List.set_cons_zero, List.set_cons_succ])
          refine wpAnyH_take (i := 3) (v := ?_) rfl (by kernel_rfl) (by kernel_rfl) (by kernel_rfl) (fun _ _ _ h => h) (Or.inl ⟨by rfl, ?_⟩) (by assumption) ?_; rotate_left; (focus (intro wS hSw; (try dsimp only at hSw); go_simp <;> with_reducible rfl)); (try simp only [Act.put, List.getElem_toArray, List.getElem_cons_succ, List.getElem_cons_zero, List.setIfInBounds_toArray, List.set_cons_zero, List.set_cons_succ])
          refine wpAnyH_take (i := 4) (v := ?_) rfl (by kernel_rfl) (by kernel_rfl) (by kernel_rfl) (fun _ _ _ h => h) (Or.inl ⟨by rfl, ?_⟩) (by assumption) ?_; rotate_left; (focus (intro wS hSw; (try dsimp only at hSw); go_simp <;> with_reducible rfl)); (try simp only [Act.put, List.getElem_toArray, List.getElem_cons_succ, List.getElem_cons_zero, List.setIfInBounds_toArray, List.set_cons_zero, List.set_cons_succ])
          refine wpAnyH_take (i := 5) (v := ?_) rfl (by kernel_rfl) (by kernel_rfl) (by kernel_rfl) (fun _ _ _ h => h) (Or.inl ⟨by rfl, ?_⟩) (by assumption) ?_; rotate_left; (focus (intro wS hSw; (try dsimp only at hSw); go_simp <;> with_reducible rfl)); (try simp only [Act.put, List.getElem_toArray, List.getElem_cons_succ, List.getElem_cons_zero, List.setIfInBounds_toArray, List.set_cons_zero, List.set_cons_succ])
          refine wpAnyH_take (i := 6) (v := ?_) rfl (by kernel_rfl) (by kernel_rfl) (by kernel_rfl) (fun _ _ _ h => h) (Or.inl ⟨by rfl, ?_⟩) (by assumption) ?_; rotate_left; (focus (intro wS hSw; (try dsimp only at hSw); go_simp <;> with_reducible rfl)); (try simp only [Act.put, List.getElem_toArray, List.getElem_cons_succ, List.getElem_cons_zero, List.setIfInBounds_toArray, List.set_cons_zero, List.set_cons_succ])
          refine wpAnyH_take (i := 7) (v := ?_) rfl (by kernel_rfl) (by kernel_rfl) (by kernel_rfl) (fun _ _ _ h => h) (Or.inl ⟨by rfl, ?_⟩) (by assumption) ?_; rotate_left; (focus (intro wS hSw; (try dsimp only at hSw); go_simp <;> with_reducible rfl)); (try simp only [Act.put, List.getElem_toArray, List.getElem_cons_succ, List.getElem_cons_zero, List.setIfInBounds_toArray, List.set_cons_zero, List.set_cons_succ])
          refine wpAnyH_take (i := 8) (v := ?_) rfl (by kernel_rfl) (by kernel_rfl) (by kernel_rfl) (fun _ _ _ h => h) (Or.inl ⟨by rfl, ?_⟩) (by assumption) ?_; rotate_left; (focus (intro wS hSw; (try dsimp only at hSw); go_simp <;> with_reducible rfl)); (try simp only [Act.put, List.getElem_toArray, List.getElem_cons_succ, List.getElem_cons_zero, List.setIfInBounds_toArray, List.set_cons_zero, List.set_cons_succ])
          refine wpAnyH_take (i := 9) (v := ?_) rfl (by kernel_rfl) (by kernel_rfl) (by kernel_rfl) (fun _ _ _ h => h) (Or.inl ⟨by rfl, ?_⟩) (by assumption) ?_; rotate_left; (focus (intro wS hSw; (try dsimp only at hSw); go_simp <;> with_reducible rfl)); (try simp only [Act.put, List.getElem_toArray, List.getElem_cons_succ, List.getElem_cons_zero, List.setIfInBounds_toArray, List.set_cons_zero, List.set_cons_succ])
          refine wpAnyH_take (i := 10) (v := ?_) rfl (by kernel_rfl) (by kernel_rfl) (by kernel_rfl) (fun _ _ _ h => h) (Or.inl ⟨by rfl, ?_⟩) (by assumption) ?_; rotate_left; (focus (intro wS hSw; (try dsimp only at hSw); go_simp <;> with_reducible rfl)); (try simp only [Act.put, List.getElem_toArray, List.getElem_cons_succ, List.getElem_cons_zero, List.setIfInBounds_toArray, List.set_cons_zero, List.set_cons_succ])
          refine wpAnyH_take (i := 11) (v := ?_) rfl (by kernel_rfl) (by kernel_rfl) (by kernel_rfl) (fun _ _ _ h => h) (Or.inl ⟨by rfl, ?_⟩) (by assumption) ?_; rotate_left; (focus (intro wS hSw; (try dsimp only at hSw); go_simp <;> with_reducible rfl)); (try simp only [Act.put, List.getElem_toArray, List.getElem_cons_succ, List.getElem_cons_zero, List.setIfInBounds_toArray, List.set_cons_zero, List.set_cons_succ])
          refine wpAnyH_take (i := 12) (v := ?_) rfl (by kernel_rfl) (by kernel_rfl) (by kernel_rfl) (fun _ _ _ h => h) (Or.inl ⟨by rfl, ?_⟩) (by assumption) ?_; rotate_left; (focus (intro wS hSw; (try dsimp only at hSw); go_simp <;> with_reducible rfl)); (try simp only [Act.put, List.getElem_toArray, List.getElem_cons_succ, List.getElem_cons_zero, List.setIfInBounds_toArray, List.set_cons_zero, List.set_cons_succ])
          refine wpAnyH_take (i := 13) (v := ?_) rfl (by kernel_rfl) (by kernel_rfl) (by kernel_rfl) (fun _ _ _ h => h) (Or.inl ⟨by rfl, ?_⟩) (by assumption) ?_; rotate_left; (focus (intro wS hSw; (try dsimp only at hSw); go_simp <;> with_reducible rfl)); (try simp only [Act.put, List.getElem_toArray, List.getElem_cons_succ, List.getElem_cons_zero, List.setIfInBounds_toArray, List.set_cons_zero, List.set_cons_succ])
          refine wpAnyH_take (i := 14) (v := ?_) rfl (by kernel_rfl) (by kernel_rfl) (by kernel_rfl) (fun _ _ _ h => h) (Or.inl ⟨by rfl, ?_⟩) (by assumption) ?_; rotate_left; (focus (intro wS hSw; (try dsimp only at hSw); go_simp <;> with_reducible rfl)); (try simp only [Act.put, List.getElem_toArray, List.getElem_cons_succ, List.getElem_cons_zero, List.setIfInBounds_toArray, List.set_cons_zero, List.set_cons_succ])
          refine wpAnyH_done (by kernel_rfl) ?_ _
          (try simp only [Act.put, List.getElem_toArray, List.getElem_cons_succ, List.getElem_cons_zero, List.setIfInBounds_toArray, List.set_cons_zero, List.set_cons_succ])
          obtain ⟨d0, d1⟩ := HD.out _ HG7.out
          go_wp2
          go_ret
          exact ⟨ret_i64 (by rw [HR.out, HRR.out]), HG7.out⟩
        · have HRR : Hid (choice V leader = (q : Int)) := by
            show _ = _
            rw [HQ.out]
            exact choice_miss (.inr ⟨k, HPP.out, by rw [HX.out, ← HQ.out]; dsimp only; rw [← HZ.out, ← HY.out]; exact he⟩)
          have heb : (z == y) = false := by simpa using he
          go_wp2_with fail
          refine wp_region_held_drew (S := fun w' => (w'.cell? ⟨b, o + k * 2, none⟩ = some (.int .i64 x0) ∧ w'.cell? ⟨b, o + k * 2 + 1, none⟩ = some (.int .i64 (c : Int))) ∧ (w'.cell? ⟨w3.heap.size, c, none⟩ = some (.int .i64 z) ∧ w'.cell? ⟨w3.heap.size, q, none⟩ = some (.int .i64 y))) (by kernel_rfl) ⟨HD.out _ HG7.out, e1, e2⟩ (fun hHeld => ?_)
          refine wpAnyH_take (i := 0) (v := ?_) rfl (by kernel_rfl) (by kernel_rfl) (by kernel_rfl) (fun _ _ _ h => h) (Or.inl ⟨by rfl, ?_⟩) (by assumption) ?_; rotate_left; (focus (intro wS hSw; (try dsimp only at hSw); go_simp <;> with_reducible rfl)); (try simp only [Act.put, List.getElem_toArray, List.getElem_cons_succ, List.getElem_cons_zero, List.setIfInBounds_toArray, List.set_cons_zero, List.set_cons_succ])
          refine wpAnyH_take (i := 1) (v := ?_) rfl (by kernel_rfl) (by kernel_rfl) (by kernel_rfl) (fun _ _ _ h => h) (Or.inl ⟨by rfl, ?_⟩) (by assumption) ?_; rotate_left; (focus (intro wS hSw; (try dsimp only at hSw); go_simp <;> with_reducible rfl)); (try simp only [Act.put, List.getElem_toArray, List.getElem_cons_succ, List.getElem_cons_zero, List.setIfInBounds_toArray, List.set_cons_zero, List.set_cons_succ])
          refine wpAnyH_take (i := 2) (v := ?_) rfl (by kernel_rfl) (by kernel_rfl) (by kernel_rfl) (fun _ _ _ h => h) (Or.inl ⟨by rfl, ?_⟩) (by assumption) ?_; rotate_left; (focus (intro wS hSw; (try dsimp only at hSw); go_simp <;> with_reducible rfl)); (try simp only [Act.put, List.getElem_toArray, List.getElem_cons_succ, List.getElem_cons_zero, List.setIfInBounds_toArray, List.set_cons_zero, List.set_cons_succ])
          refine wpAnyH_take (i := 3) (v := ?_) rfl (by kernel_rfl) (by kernel_rfl) (by kernel_rfl) (fun _ _ _ h => h) (Or.inl ⟨by rfl, ?_⟩) (by assumption) ?_; rotate_left; (focus (intro wS hSw; (try dsimp only at hSw); go_simp <;> with_reducible rfl)); (try simp only [Act.put, List.getElem_toArray, List.getElem_cons_succ, List.getElem_cons_zero, List.setIfInBounds_toArray, List.set_cons_zero, List.set_cons_succ])
          refine wpAnyH_take (i := 4) (v := ?_) rfl (by kernel_rfl) (by kernel_rfl) (by kernel_rfl) (fun _ _ _ h => h) (Or.inl ⟨by rfl, ?_⟩) (by assumption) ?_; rotate_left; (focus (intro wS hSw; (try dsimp only at hSw); go_simp <;> with_reducible rfl)); (try simp only [Act.put, List.getElem_toArray, List.getElem_cons_succ, List.getElem_cons_zero, List.setIfInBounds_toArray, List.set_cons_zero, List.set_cons_succ])
          refine wpAnyH_take (i := 5) (v := ?_) rfl (by kernel_rfl) (by kernel_rfl) (by kernel_rfl) (fun _ _ _ h => h) (Or.inl ⟨by rfl, ?_⟩) (by assumption) ?_; rotate_left; (focus (intro wS hSw; (try dsimp only at hSw); go_simp <;> with_reducible rfl)); (try simp only [Act.put, List.getElem_toArray, List.getElem_cons_succ, List.getElem_cons_zero, List.setIfInBounds_toArray, List.set_cons_zero, List.set_cons_succ])
          refine wpAnyH_take (i := 6) (v := ?_) rfl (by kernel_rfl) (by kernel_rfl) (by kernel_rfl) (fun _ _ _ h => h) (Or.inl ⟨by rfl, ?_⟩) (by assumption) ?_; rotate_left; (focus (intro wS hSw; (try dsimp only at hSw); go_simp <;> with_reducible rfl)); (try simp only [Act.put, List.getElem_toArray, List.getElem_cons_succ, List.getElem_cons_zero, List.setIfInBounds_toArray, List.set_cons_zero, List.set_cons_succ])
          refine wpAnyH_take (i := 7) (v := ?_) rfl (by kernel_rfl) (by kernel_rfl) (by kernel_rfl) (fun _ _ _ h => h) (Or.inl ⟨by rfl, ?_⟩) (by assumption) ?_; rotate_left; (focus (intro wS hSw; (try dsimp only at hSw); go_simp <;> with_reducible rfl)); (try simp only [Act.put, List.getElem_toArray, List.getElem_cons_succ, List.getElem_cons_zero, List.setIfInBounds_toArray, List.set_cons_zero, List.set_cons_succ])
          refine wpAnyH_take (i := 8) (v := ?_) rfl (by kernel_rfl) (by kernel_rfl) (by kernel_rfl) (fun _ _ _ h => h) (Or.inl ⟨by rfl, ?_⟩) (by assumption) ?_; rotate_left; (focus (intro wS hSw; (try dsimp only at hSw); go_simp <;> with_reducible rfl)); (try simp only [Act.put, List.getElem_toArray, List.getElem_cons_succ, List.getElem_cons_zero, List.setIfInBounds_toArray, List.set_cons_zero, List.set_cons_succ])
          refine wpAnyH_take (i := 9) (v := ?_) rfl (by kernel_rfl) (by kernel_rfl) (by kernel_rfl) (fun _ _ _ h => h) (Or.inl ⟨by rfl, ?_⟩) (by assumption) ?_; rotate_left; (focus (intro wS hSw; (try dsimp only at hSw); go_simp <;> with_reducible rfl)); (try simp only [Act.put, List.getElem_toArray, List.getElem_cons_succ, List.getElem_cons_zero, List.setIfInBounds_toArray, List.set_cons_zero, List.set_cons_succ])
          refine wpAnyH_take (i := 10) (v := ?_) rfl (by kernel_rfl) (by kernel_rfl) (by kernel_rfl) (fun _ _ _ h => h) (Or.inl ⟨by rfl, ?_⟩) (by assumption) ?_; rotate_left; (focus (intro wS hSw; (try dsimp only at hSw); go_simp <;> with_reducible rfl)); (try simp only [Act.put, List.getElem_toArray, List.getElem_cons_succ, List.getElem_cons_zero, List.setIfInBounds_toArray, List.set_cons_zero, List.set_cons_succ])
          refine wpAnyH_take (i := 11) (v := ?_) rfl (by kernel_rfl) (by kernel_rfl) (by kernel_rfl) (fun _ _ _ h => h) (Or.inl ⟨by rfl, ?_⟩) (by assumption) ?_; rotate_left; (focus (intro wS hSw; (try dsimp only at hSw); go_simp <;> with_reducible rfl)); (try simp only [Act.put, List.getElem_toArray, List.getElem_cons_succ, List.getElem_cons_zero, List.setIfInBounds_toArray, List.set_cons_zero, List.set_cons_succ])
          refine wpAnyH_take (i := 12) (v := ?_) rfl (by kernel_rfl) (by kernel_rfl) (by kernel_rfl) (fun _ _ _ h => h) (Or.inl ⟨by rfl, ?_⟩) (by assumption) ?_; rotate_left; (focus (intro wS hSw; (try dsimp only at hSw); go_simp <;> with_reducible rfl)); (try simp only [Act.put, List.getElem_toArray, List.getElem_cons_succ, List.getElem_cons_zero, List.setIfInBounds_toArray, List.set_cons_zero, List.set_cons_succ])
          refine wpAnyH_take (i := 13) (v := ?_) rfl (by kernel_rfl) (by kernel_rfl) (by kernel_rfl) (fun _ _ _ h => h) (Or.inl ⟨by rfl, ?_⟩) (by assumption) ?_; rotate_left; (focus (intro wS hSw; (try dsimp only at hSw); go_simp <;> with_reducible rfl)); (try simp only [Act.put, List.getElem_toArray, List.getElem_cons_succ, List.getElem_cons_zero, List.setIfInBounds_toArray, List.set_cons_zero, List.set_cons_succ])
          refine wpAnyH_take (i := 14) (v := ?_) rfl (by kernel_rfl) (by kernel_rfl) (by kernel_rfl) (fun _ _ _ h => h) (Or.inl ⟨by rfl, ?_⟩) (by assumption) ?_; rotate_left; (focus (intro wS hSw; (try dsimp only at hSw); go_simp <;> with_reducible rfl)); (try simp only [Act.put, List.getElem_toArray, List.getElem_cons_succ, List.getElem_cons_zero, List.setIfInBounds_toArray, List.set_cons_zero, List.set_cons_succ])
          refine wpAnyH_done (by kernel_rfl) ?_ _
          (try simp only [Act.put, List.getElem_toArray, List.getElem_cons_succ, List.getElem_cons_zero, List.setIfInBounds_toArray, List.set_cons_zero, List.set_cons_succ])
          go_wp2
          go_ret
          exact ⟨ret_i64 (by rw [HR.out, HRR.out]), HG7.out⟩
end Go.Proofs.Ytfdadeiemfmgkaa.Out
