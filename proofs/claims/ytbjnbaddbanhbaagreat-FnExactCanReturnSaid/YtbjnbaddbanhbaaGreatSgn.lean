/- Contract of the weather's text: a sign for each day of the worst return. -/
import Derived.Test.YtbjnbaddbanhbaaGreatG30
import Derived.Test.YtbjnbaddbanhbaaGreatG20
import Derived.Test.YtbjnbaddbanhbaaGreatG9
namespace Go.Proofs.YtbjnbaddbanhbaaGreat.Sgn
open Go.RowKit Kit Rw Rg Stm Md StormS StI Hom Bld

def code (b : Bool) : Int := if b then 115 else 46
def codes (S : List Bool) : List Int := S.map code
def byte (b : Bool) : UInt8 := if b then 115 else 46
/-- The text of a weather. -/
def text (S : List Bool) : ByteArray := ⟨(S.map byte).toArray⟩
theorem codes_cells (S : List Bool) : (codes S).map (Value.int .u8) = Lib.byteCells (S.map byte) := by
  unfold codes Lib.byteCells
  rw [List.map_map, List.map_map]
  apply List.map_congr_left
  intro b _
  cases b <;> rfl
theorem codes_len (S : List Bool) : (codes S).length = S.length := by simp [codes]
theorem codes_next (S : List Bool) (b : Bool) : codes (S ++ [b]) = codes S ++ [code b] := by simp [codes]
theorem isB {w : World} {b : Nat} {S : List Bool} (h : Bd w b (codes S)) : Lib.IsBuilder 166 5 b b (Lib.byteCells (S.map byte)) w := by
  obtain ⟨p, v, hp, hb, ho⟩ := h
  have hown : w.ownsRow b 5 1 v (Lib.byteCells (S.map byte)).length (Lib.byteCells (S.map byte)) := by
    have h1 := ho.1
    rw [codes_cells] at h1
    have hl : (codes S).length = (Lib.byteCells (S.map byte)).length := by rw [← codes_cells]; simp
    rw [hl] at h1
    obtain ⟨h1, h2⟩ := h1
    refine ⟨h1, ?_⟩
    rcases h2 with h2 | ⟨g, cap, cur, hv, hg, r⟩
    · exact .inl h2
    · exact .inr ⟨g, cap, cur, hv, by omega, r⟩
  have hne : v.ownBlock ≠ some b := fun e => by have := ho.1.lt _ e; omega
  rcases hp with rfl | rfl
  · exact .inl ⟨Nat.le_refl _, v, hb, hown, hne⟩
  · exact .inr ⟨Nat.le_refl _, v, hb, hown, hne⟩
theorem string_any (w : World) (b : Nat) (S : List Bool) (h : Bd w b (codes S)) :
    Calls Tryz.prog 158 #[.pointer (some ⟨b, 0, none⟩)] w fun e w' => e = .returned (.string (text S)) ∧ Below b w w' :=
  Any.Builder_String_any Tryz.lays169 Tryz.Builder_Extra_169 b b (S.map byte) w (isB h) (Nat.le_of_lt h.lt)

set_option maxHeartbeats 1000000 in
/-- The closure, and what it leaves as it was. -/
theorem clos_two (w : World) (base b g cap p : Nat) (m : Int) (n : Nat) (L : List Bool) (hW : Wy w base b g cap m n L) (hp : Box w p #[.pointer (some ⟨b, 0, none⟩)] 135) (hpb : p ≠ b) (hpg : p ≠ g) :
    Calls Tryz.prog 177 #[.pointer (some ⟨p, 0, none⟩)] w fun e w' => e = .returned (.bool (decide ((lastN (n - 1) L : Int) < m))) ∧
      Wy w' base b g cap m n (L ++ [decide ((lastN (n - 1) L : Int) < m)]) ∧ Box w' p #[.pointer (some ⟨b, 0, none⟩)] 135 ∧ Below base w w' ∧ ∀ k, k < w.heap.size → k ≠ b → k ≠ g → w'.heap[k]? = w.heap[k]? := by
  have HW := Lib.hid hW
  have HP := Lib.hid hp
  have c0 := hp.cell 0
  have hbs : base ≤ w.heap.size := by obtain ⟨D, t, h1, h2, _⟩ := hW; have := h2.lt g rfl; omega
  have hsz := hp.lt
  obtain ⟨s, hs⟩ : ∃ s, s = decide ((lastN (n - 1) L : Int) < m) := ⟨_, rfl⟩
  have ha := may_any w base b m n L hW.any
  rw [← hs] at ha ⊢
  have HA := Lib.hid ha
  clear ha hs hW hp
  go_enter Tryz.func177, Tryz.ntmps177
  go_wp2_with fail
  refine HA.out.mono ?_
  rintro e w1 ⟨rfl, hg⟩
  have HW1 := Lib.hid (HW.out.grown hg)
  have HP1 := Lib.hid (HP.out.grown hg)
  have HB1 := Lib.hid (grown_below hg base hbs)
  have HK1 : Hid (∀ k, k < w.heap.size → w1.heap[k]? = w.heap[k]?) := fun k hk => hg.block k hk (fun e => by cases e)
  have HS1 := Lib.hid hg.size
  have c1 := HP1.out.cell 0
  have hsz1 := HP1.out.lt
  clear hg c0
  go_wp2_with fail
  refine (pass_one _ base b g cap m n L s HW1.out).mono ?_
  rintro e w2 ⟨rfl, hw, hb, hk⟩
  have HW2 := Lib.hid hw
  have HB2 := Lib.hid hb
  have HP2 : Hid (Box w2 p #[.pointer (some ⟨b, 0, none⟩)] 135) := (hk p hsz1 hpb hpg).trans HP1.out
  have HK2 : Hid (∀ k, k < w.heap.size → k ≠ b → k ≠ g → w2.heap[k]? = w.heap[k]?) := fun k h1 h2 h3 => (hk k (Nat.lt_of_lt_of_le h1 HS1.out) h2 h3).trans (HK1.out k h1)
  clear hw hb hk c1
  go_wp2
  go_ret
  exact ⟨rfl, HW2.out, HP2.out, HB1.out.trans HB2.out, HK2.out⟩

/-- Where the weather's ring, its closure and the builder stand. -/
structure WB (w : World) (base b g cap p B : Nat) (m : Int) (n : Nat) (L S : List Bool) : Prop where
  ring : Wy w base b g cap m n L
  clo : Box w p #[.pointer (some ⟨b, 0, none⟩)] 135
  bd : Bd w B (codes S)
  off : p ≠ b ∧ p ≠ g ∧ b < B ∧ g < B ∧ p < B ∧ base ≤ B
theorem wy_below {w w' : World} {base b g cap : Nat} {m : Int} {n B : Nat} {L : List Bool} (h : Wy w base b g cap m n L) (hb : Below B w w') (h1 : b < B) (h2 : g < B) : Wy w' base b g cap m n L := by
  obtain ⟨D, t, q1, q2, q3⟩ := h
  exact ⟨D, t, (hb.block b h1).trans q1, q2.under hb (fun c hc => by have : g = c := (by simpa [Value.ownBlock] using hc); omega), q3⟩
theorem WB.write {w w' : World} {base b g cap p B : Nat} {m : Int} {n : Nat} {L S S' : List Bool} (h : WB w base b g cap p B m n L S) (hb : Below B w w') (hd : Bd w' B (codes S')) : WB w' base b g cap p B m n L S' :=
  ⟨wy_below h.ring hb h.off.2.2.1 h.off.2.2.2.1, (hb.block p h.off.2.2.2.2.1).trans h.clo, hd, h.off⟩
theorem WB.day {w w' : World} {base b g cap p B : Nat} {m : Int} {n : Nat} {L L' S : List Bool} (h : WB w base b g cap p B m n L S) (hw : Wy w' base b g cap m n L') (hp : Box w' p #[.pointer (some ⟨b, 0, none⟩)] 135) (hs : w.heap.size ≤ w'.heap.size) (hk : ∀ k, k < w.heap.size → k ≠ b → k ≠ g → w'.heap[k]? = w.heap[k]?) : WB w' base b g cap p B m n L' S :=
  ⟨hw, hp, h.bd.kept hs (fun k h1 h2 => hk k h2 (by have := h.off; omega) (by have := h.off; omega)), h.off⟩

theorem ret_str {S T : List Bool} (h : S = T) : Ending.returned (.string (text S)) = .returned (.string (text T)) := by rw [h]
theorem may_dec {m n : Nat} (L : List Bool) : decide ((lastN (n - 1) L : Int) < (m : Int)) = may m n L := by
  unfold may
  by_cases h : lastN (n - 1) L < m
  · rw [decide_eq_true h, decide_eq_true (by omega)]
  · rw [decide_eq_false h, decide_eq_false (by omega)]

set_option maxRecDepth 20000 in
set_option maxHeartbeats 2000000 in
theorem signs_any (w : World) (M N : Nat) (k : Int) (hM : (Lit.int .i64 (M : Int)).wf = true) (hMN : M < N) (hN : N ≤ 10) (hk : k ≤ 100000) (v : Value) (P : List Bool) (hv : SeesG encB w v P) :
    Calls Tryz.prog 115 #[.agg #[.int .i64 (M : Int), .int .i64 (N : Int)], v, .int .i64 k] w fun e w' => e = .returned (.string (text (signs M N P k.toNat))) ∧ w.grownBy w' none := by
  have hgr := World.grownBy_alloc w (.cells #[.int .i64 (M : Int), .int .i64 (N : Int)] 38 (0, 0)) none
  have HV := Lib.hid (hv.grown hgr)
  have HG0 := Lib.hid hgr
  obtain ⟨c0, c1⟩ := StormS.two (box_new w #[.int .i64 (M : Int), .int .i64 (N : Int)] 38)
  have ha := fun w hv => worstW_any w (M : Int) N v P hM (by omega) hN hv
  have HA := Lib.hid ha
  have HK := Lib.hid (And.intro hMN hN)
  obtain ⟨T, hT⟩ : ∃ T, T = signs M N P k.toNat := ⟨_, rfl⟩
  have HT := Lib.hid hT
  rw [← hT]
  have hTl : T.length ≤ 3000000 := by rw [hT]; have := signs_len M N P k.toNat; omega
  clear hT
  clear ha hgr hv hM
  go_enter Tryz.func115, Tryz.ntmps115
  go_wp2_with fail
  generalize w.alloc (.cells #[.int .i64 (M : Int), .int .i64 (N : Int)] 38 (0, 0)) = w0 at *
  refine (HA.out _ HV.out).mono ?_
  rintro e w1 ⟨b, g, cap, p, rfl, hW, hp, hpb, hpg, hg⟩
  have hg2 := World.grownBy_alloc w1 (.cells #[.pointer none, .slice none 0 0] 166 (0, 0)) (none : Option Nat)
  have hlts : b < w1.heap.size ∧ g < w1.heap.size ∧ w0.heap.size ≤ w1.heap.size := by
    obtain ⟨D, t, h1, h2, _⟩ := hW
    exact ⟨h1.lt, (h2.lt g rfl).2, hg.size⟩
  have HWB : Hid (WB (w1.alloc (.cells #[.pointer none, .slice none 0 0] 166 (0, 0))) w0.heap.size b g cap p w1.heap.size (M : Int) N P []) :=
    ⟨hW.grown hg2, hp.grown hg2, Bd.new w1, hpb, hpg, hlts.1, hlts.2.1, hp.lt, hlts.2.2⟩
  have HG2 := Lib.hid (grownN_trans (grownN_trans HG0.out hg) hg2)
  have HSZ : Hid (w.heap.size ≤ w0.heap.size) := HG0.out.size
  clear hg hW hp hpb hpg c0 c1 HA hg2 hlts
  go_wp2
  generalize w1.alloc (.cells #[.pointer none, .slice none 0 0] 166 (0, 0)) = w2 at *
  generalize w1.heap.size = B at *
  generalize w0.heap.size = base at *
  go_loopw [13] (fun i wr => ∃ j : Nat, ∃ L S : List Bool, j ≤ k.toNat ∧ i = .int .i64 j ∧ Hid (S ++ signs M N L (k.toNat - j) = T) ∧ Hid (WB wr base b g cap p B (M : Int) N L S) ∧ Hid (w.grownBy wr none)) (fun i _ => k.toNat - (intOf i).toNat)
  case atStart => exact ⟨0, P, [], Nat.zero_le _, rfl, by show _ = _; rw [HT.out]; simp, HWB, HG2⟩
  case round =>
    rename_i _ wr
    obtain ⟨j, L, S, hj, rfl, HE, HW, HG⟩ := hrel
    by_cases hlt : j < k.toNat
    · have hltI : (j : Int) < k := by omega
      go_wp2
      go_loopw [] (fun wz => ∃ L S : List Bool, Hid (S ++ signs M N L (k.toNat - j) = T) ∧ Hid (WB wz base b g cap p B (M : Int) N L S) ∧ Hid (w.grownBy wz none)) (fun wz => 3000001 - bufLen wz B)
      case atStart => exact ⟨L, S, HE, HW, HG⟩
      case round =>
        obtain ⟨L2, S2, HE2, HW2, HG2'⟩ := hrel
        have HN := Lib.hid (signs_next (L := L2) HK.out.1 HK.out.2 (show k.toNat - j ≠ 0 by omega))
        have hSl : S2.length ≤ 3000000 := by
          have h := congrArg List.length HE2.out
          rw [List.length_append] at h
          omega
        have HC := Lib.hid (clos_two _ base b g cap p (M : Int) N L2 HW2.out.ring HW2.out.clo HW2.out.off.1 HW2.out.off.2.1)
        rw [may_dec] at HC
        cases hm : may M N L2
        · rw [hm] at HC HN
          have HE3 : Hid ((S2 ++ [false]) ++ signs M N (L2 ++ [false]) (k.toNat - (j + 1)) = T) := by
            show _ = _
            rw [← HE2.out, HN.out, if_neg (by simp), List.append_assoc, show k.toNat - (j + 1) = k.toNat - j - 1 by omega]; rfl
          have HSL := Lib.hid (show (codes S2).length ≤ 3000000 by rw [codes_len]; exact hSl)
          clear hm
          go_wp2_with fail
          refine HC.out.mono ?_
          rintro e w5 ⟨rfl, h5, h6, h7, h8⟩
          have HS5 := Lib.hid h7.size
          have HW5 := Lib.hid (HW2.out.day h5 h6 HS5.out h8)
          have HG5 := Lib.hid (below_grown ((grown_below HG2'.out _ (Nat.le_refl _)).trans (h7.mono HSZ.out)))
          clear h5 h6 h7 h8
          go_wp2_with fail
          refine (write_any w5 B (codes S2) 46 (.inr rfl) HW5.out.bd HSL.out).mono ?_
          rintro e w6 ⟨rfl, h5, h6⟩
          have HW6 := Lib.hid (HW5.out.write (S' := S2 ++ [false]) h6 (by rw [codes_next]; exact h5))
          have HG6 := Lib.hid (below_grown ((grown_below HG5.out _ (Nat.le_refl _)).trans (h6.mono (by have := HSZ.out; have := HW5.out.off; omega))))
          clear h5 h6
          go_wp2
          go_roundw
          case rel => exact ⟨j + 1, L2 ++ [false], S2 ++ [false], by omega, by go_num, HE3, HW6, HG6⟩
          case measure => simp [intOf]; omega
        · rw [hm] at HC HN
          have HE3 : Hid ((S2 ++ [true]) ++ signs M N (L2 ++ [true]) (k.toNat - j) = T) := by
            show _ = _
            rw [← HE2.out, HN.out, if_pos rfl, List.append_assoc]; rfl
          have HSL := Lib.hid (show (codes S2).length ≤ 3000000 by rw [codes_len]; exact hSl)
          have HBL := Lib.hid HW2.out.bd.bufLen
          have hS3 : (S2 ++ [true]).length ≤ 3000000 := by
            have h := congrArg List.length HE3.out
            rw [List.length_append] at h
            omega
          clear hm
          go_wp2_with fail
          refine HC.out.mono ?_
          rintro e w5 ⟨rfl, h5, h6, h7, h8⟩
          have HS5 := Lib.hid h7.size
          have HW5 := Lib.hid (HW2.out.day h5 h6 HS5.out h8)
          have HG5 := Lib.hid (below_grown ((grown_below HG2'.out _ (Nat.le_refl _)).trans (h7.mono HSZ.out)))
          clear h5 h6 h7 h8
          go_wp2_with fail
          refine (write_any w5 B (codes S2) 115 (.inl rfl) HW5.out.bd HSL.out).mono ?_
          rintro e w6 ⟨rfl, h5, h6⟩
          have HW6 := Lib.hid (HW5.out.write (S' := S2 ++ [true]) h6 (by rw [codes_next]; exact h5))
          have HG6 := Lib.hid (below_grown ((grown_below HG5.out _ (Nat.le_refl _)).trans (h6.mono (by have := HSZ.out; have := HW5.out.off; omega))))
          clear h5 h6
          go_wp2
          go_roundw
          case rel => exact ⟨L2 ++ [true], S2 ++ [true], HE3, HW6, HG6⟩
          case measure =>
            have h1 := HW6.out.bd.bufLen
            have h2 := HBL.out
            rw [codes_len] at h1 h2
            simp only [List.length_append, List.length_singleton] at h1 hS3
            omega
    · have hjk : j = k.toNat := by omega
      have HR : Hid (S = T) := by show _ = _; rw [← HE.out, hjk, Nat.sub_self, signs_zero, List.append_nil]
      have hnl : ¬ (j : Int) < k := by omega
      go_wp2_with fail
      refine (string_any wr B S HW.out.bd).mono ?_
      rintro e w5 ⟨rfl, hb⟩
      have HB := Lib.hid hb
      clear hb
      go_wp2
      go_ret
      exact ⟨ret_str HR.out, below_grown ((grown_below HG.out _ (Nat.le_refl _)).trans (HB.out.mono (by have := HSZ.out; have := HW.out.off; omega)))⟩
end Go.Proofs.YtbjnbaddbanhbaaGreat.Sgn
