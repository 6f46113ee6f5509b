/- Contract of the program's spread: from one cell of the queue to those near it. -/
import Derived.Test.YtbpiojnehomljaaSrD
import Derived.StillTailTactics
namespace Go.Proofs.Ytbpiojnehomljaa.Sr
open Go.RowKit Kit Rw Ld Gr GrI Bfs

/-- Where spread stands: the search, what is near, what has not been written. -/
structure SN (w wr : World) (b p : Nat) (g : List Int) (qv : Value) (Q M : List Int) (u : Value) (N : List Nat) : Prop where
  sb : SB wr b p g qv Q M
  row : Own .i64 150 wr (b + 1) u (ints N)
  apart : u.ownBlock = none ∨ u.ownBlock ≠ qv.ownBlock
  below : Below b w wr
section
variable {w wr wy : World} {b p : Nat} {g Q Q' M : List Int} {qv qv' u : Value} {N : List Nat}
theorem SN.on (h : SN w wr b p g qv Q M u N) (hg : wr.grownBy wy none) : SN w wy b p g qv Q M u N :=
  ⟨h.sb.on hg, h.row.grown hg, h.apart, h.below.grown hg (Nat.le_of_lt h.sb.box.lt) (fun _ h => by cases h)⟩
theorem SN.put (h : SN w wr b p g qv Q M u N) (s : Nat) (x : Int) : SN w (wr.setCell ⟨b, 102 + s, none⟩ (.int .i64 x)) b p g qv Q (M.set s x) u N :=
  ⟨h.sb.put s x, h.row.set (Nat.lt_succ_self _) _ _, h.apart, h.below.setCell (Nat.le_refl _) _⟩
theorem SN.push (h : SN w wr b p g qv Q M u N) (ho : Own .i64 150 wy (b + 1) qv' Q') (hg : wr.grownBy wy qv.ownBlock) (hl : qv'.ownBlock = qv.ownBlock ∨ ∃ c, qv'.ownBlock = some c ∧ wr.heap.size ≤ c) : SN w (wy.setCell ⟨b, 101, none⟩ qv') b p g qv' Q' M u N := by
  refine ⟨h.sb.push ho hg, (h.row.kept hg h.apart).set (Nat.lt_succ_self _) _ _, ?_, h.below.trans (h.sb.below hg _ _)⟩
  rcases hl with hl | ⟨c, hl, hle⟩
  · rw [hl]; exact h.apart
  · rw [hl]
    cases hu : u.ownBlock with
    | none => exact .inl rfl
    | some e => have := h.row.lt e hu; exact .inr (fun e' => by injection e' with e'; omega)
end

set_option maxRecDepth 100000 in
set_option maxHeartbeats 4000000 in
theorem spread_any (w : World) (b p h : Nat) (X : List Int) (a D : Int) (i cn : Nat) (d q M : List Int) (qv : Value) (hS : SB w b p (grid p X) qv (sqs p q) M) (hM : Marks p X M d) (hI : Inv p X a i d q) (hi : i < q.length) (hL : isLand p h X = true) (hcn : q.getD i 0 = (cn : Int)) (hD : at' d cn + 1 ≤ D) (hC : ∀ n ∈ q, at' d n ≤ D) :
    Calls Try.prog 131 #[.pointer (some ⟨b, 0, none⟩), .int .i64 ((sq p cn : Nat) : Int)] w fun e w' => e = .returned (.tuple #[]) ∧ ∃ qv' d' q' M', SB w' b p (grid p X) qv' (sqs p q') M' ∧ Marks p X M' d' ∧ Inv p X a (i + 1) d' q' ∧ (∀ n ∈ q', at' d' n ≤ D) ∧ Below b w w' := by
  obtain ⟨hp, hH, hLen, _⟩ := isLand_of hL
  have hA := area hp hH
  have hxl : X.length = p * h := by exact_mod_cast hLen
  have hcl := hI.inq _ (mem_getD hi)
  rw [hcn] at hcl
  have HP : Hid ((1 ≤ p ∧ p ≤ 8) ∧ h ≤ 8 ∧ X.length = p * h ∧ cn < X.length ∧ X.length ≤ 64) := ⟨by omega, by omega, hxl, by omega, by omega⟩
  have HL := Lib.hid hL
  have HSQ := Lib.hid (sq_lt HP.out.1 HP.out.2.1 (show cn < p * h by have := HP.out; omega))
  obtain ⟨cs, hcs⟩ : ∃ cs, cs = gcells p (grid p X) := ⟨_, rfl⟩
  have hsz : cs.size = 101 := by rw [hcs]; exact gcells_size (grid_len _ _)
  have HCS := Lib.hid hcs
  have HS := Lib.hid hS
  have HM0 := Lib.hid hM
  have HI0 := Lib.hid hI
  have HQ0 : Hid (i < q.length ∧ q.getD i 0 = (cn : Int)) := ⟨hi, hcn⟩
  have HD0 := Lib.hid hD
  have HC0 := Lib.hid hC
  obtain ⟨i0, hi0, hz0, hz1, hz2⟩ := info_parts info_sq
  obtain ⟨s, hss⟩ : ∃ s, s = sq p cn := ⟨_, rfl⟩
  rw [← hss]
  have HSS := Lib.hid hss
  clear hp hH hLen hA hxl hcl hcs hS hM hI hi hL hcn hD hC hss
  go_enter Try.func131, Try.ntmps131
  go_wp2_with (refine wpList_load_part rfl 144 _ rfl b 0 rfl cs _ (by rw [HCS.out]; exact HS.out.part) Try.underlying144 rfl (grid_size hsz) ?_)
  refine (gnear_any w p s cs (grid p X) HCS.out (grid_len _ _) (by rw [HSS.out]; exact HSQ.out.1) (by rw [HSS.out]; exact HSQ.out.2)).mono ?_
  rintro e w1 ⟨u, rfl, ho, hg⟩
  obtain ⟨ua, un, uc, hu, HUN⟩ := ho.sees.shape
  subst hu
  have hle := HS.out.box.lt
  have HN0 : Hid (SN w w1 b p (grid p X) qv (sqs p q) M (.slice ua un uc) (nsq (grid p X) (sq p cn))) :=
    ⟨HS.out.on hg, by have := ho.lower (show b + 1 ≤ w.heap.size by omega); rwa [HSS.out] at this, (ho.apart HS.out.own (Nat.le_refl _)).1, (Below.refl b w).grown hg (Nat.le_of_lt hle) (fun _ h => by cases h)⟩
  have hun4 : un ≤ 4 := by have := HUN.out; have := nsq_len (grid p X) s; simp [ints] at *; omega
  have HUN2 : Hid ((nsq (grid p X) (sq p cn)).length = un) := by have := HUN.out; show _ = _; rw [← HSS.out]; simpa [ints] using this
  have HNR : Hid ((nsq (grid p X) (sq p cn)).map (fun t => ((cl p t : Nat) : Int)) = near p cn X) := nsq_near HP.out.1 HP.out.2.1 HP.out.2.2.1 HP.out.2.2.2.1
  clear ho hg hle HUN
  go_wp2_with fail
  go_loopw [13] (fun s13 wz => ∃ (k : Nat) (d2 q2 M2 : List Int) (qv2 : Value), k ≤ un ∧ s13 = .int .i64 k ∧ Hid (Inv p X a i d2 q2) ∧ Hid (Marks p X M2 d2) ∧ Hid (SN w wz b p (grid p X) qv2 (sqs p q2) M2 (.slice ua un uc) (nsq (grid p X) (sq p cn))) ∧ Hid (i < q2.length ∧ q2.getD i 0 = (cn : Int)) ∧ Hid (∀ j, j < k → 0 ≤ at' d2 ((near p cn X).getD j 0) ∧ at' d2 ((near p cn X).getD j 0) ≤ at' d2 cn + 1) ∧ Hid (∀ n ∈ q2, at' d2 n ≤ D) ∧ Hid (at' d2 cn + 1 ≤ D)) (fun s13 _ => un - (intOf s13).toNat)
  case atStart => exact ⟨0, d, q, M, qv, Nat.zero_le _, rfl, HI0, HM0, HN0, HQ0, (fun j hj => absurd hj (Nat.not_lt_zero _)), HC0, HD0⟩
  case round =>
    obtain ⟨k, d2, q2, M2, qv2, hk, rfl, HI4, HM4, HN4, HQ4, HE4, HC4, HD4⟩ := hrel
    clear HI0 HM0 HN0 HQ0 HC0 HD0 HS
    by_cases hkn : k < un
    · have hkN : k < (nsq (grid p X) (sq p cn)).length := by rw [HUN2.out]; exact hkn
      obtain ⟨t, ht⟩ : ∃ t, t = (nsq (grid p X) (sq p cn))[k] := ⟨_, rfl⟩
      have hin := nsq_mem HP.out.1 HP.out.2.1 HP.out.2.2.1 HP.out.2.2.2.1 (t := t) (by rw [ht]; exact List.getElem_mem hkN)
      have htb := sq_cl HP.out.1 hin
      simp only [inb, decide_eq_true_eq] at hin
      obtain ⟨r, hr⟩ : ∃ r, r = cl p t := ⟨_, rfl⟩
      rw [← hr] at htb hin
      have hrX : r < X.length := hin.2.2.2
      have ht2 := sq_lt HP.out.1 HP.out.2.1 (show r < p * h by rw [← HP.out.2.2.1]; exact hrX)
      rw [htb] at ht2
      have ht100 : t < 100 := by omega
      have hnk : (near p cn X).getD k 0 = (r : Int) := by
        rw [← HNR.out]; simp [hkN, ← ht, hr]
      have hmem : (r : Int) ∈ near p cn X := by rw [← hnk]; exact mem_getD (by rw [← HNR.out]; simpa using hkN)
      obtain ⟨ub, uo, rfl, hcj⟩ := HN4.out.row.sees.at_row (j := k) (by simp [ints]; exact hkN)
      have e1 : (ints (nsq (grid p X) (sq p cn))).getD k 0 = (t : Int) := by simp [ints, ht, hkN]
      rw [e1] at hcj
      have hs100 : s < 100 := by have := HSQ.out; rw [← HSS.out] at this; omega
      have hmt := HN4.out.sb.m ht100
      have hms := HN4.out.sb.m hs100
      have hzt : M2.getD t 0 = at' d2 (r : Int) + 1 := by rw [← htb]; exact HM4.out.at_ r hrX
      have hzs : M2.getD s 0 = at' d2 (cn : Int) + 1 := by rw [HSS.out]; exact HM4.out.at_ cn HP.out.2.2.2.1
      rw [hzt] at hmt
      rw [hzs] at hms
      obtain ⟨hiq, hqc⟩ := HQ4.out
      have hcb : 0 ≤ at' d2 cn ∧ at' d2 cn ≤ 64 := by
        have h1 := (HI4.out.inq (q2.getD i 0) (mem_getD hiq)).2.2
        have h2 := HI4.out.bnd i hiq
        have h3 := HI4.out.short
        rw [hqc] at h1 h2
        have := HP.out
        omega
      obtain ⟨hcb0, hcb1⟩ := hcb
      obtain ⟨z, hz⟩ : ∃ z, z = at' d2 (r : Int) + 1 := ⟨_, rfl⟩
      obtain ⟨y, hy⟩ : ∃ y, y = at' d2 (cn : Int) + 1 := ⟨_, rfl⟩
      rw [← hz] at hmt
      rw [← hy] at hms
      have hy1 : 1 ≤ y ∧ y ≤ 65 := by omega
      obtain ⟨hy1, hy65⟩ := hy1
      have hq64 : q2.length ≤ 64 := by have := HI4.out.short; have := HP.out; omega
      have hti : (t : Int) < 100 := by omega
      have hsi : (s : Int) < 100 := by omega
      have HT : Hid (sq p r = t ∧ r < X.length ∧ (near p cn X).getD k 0 = (r : Int) ∧ (r : Int) ∈ near p cn X) := ⟨htb, hrX, hnk, hmem⟩
      have HZ := Lib.hid hz
      have HY := Lib.hid hy
      have HQL := Lib.hid hq64
      have hqcell := HN4.out.sb.q
      have hfr := HN4.out.sb.box.free (102 + t)
      clear hkN ht hin htb hr hrX ht2 hnk hmem e1 hzt hzs hiq hqc hcb0 hcb1 hz hy hq64
      by_cases h0 : z = 0
      · subst h0
        have hw1 : IntKind.i64.wrap (y + 1) = y + 1 := IntWalk.i64_in _ (by omega)
        go_wp2_with fail
        refine wp_region_still_tail 12 (by kernel_rfl) (by kernel_rfl) ?_
        simp only [List.take_succ_cons, List.take_zero, List.drop_succ_cons, List.drop_zero]
        repeat still_step
        refine wpStill_nil ?_
        clear hw1
        have hgd0 := grown_drew (World.grownBy.refl (wr.setCell ⟨b, 102 + t, none⟩ (.int .i64 (y + 1))) none)
        have HNP := Lib.hid ((HN4.out.put t (y + 1)).on hgd0)
        have hcj2 : (wr.setCell ⟨b, 102 + t, none⟩ (.int .i64 (y + 1))).drew.cell? ⟨ub, uo + k, none⟩ = some (.int .i64 (t : Int)) := by
          have h1 := HN4.out.row.lt ub rfl
          exact hgd0.cell ((grown_set wr b (102 + t) (.int .i64 (y + 1))).cell hcj (by simp; omega)) (by simp)
        have hqcell2 := HNP.out.sb.q
        have hbase : b + 1 ≤ (wr.setCell ⟨b, 102 + t, none⟩ (.int .i64 (y + 1))).drew.heap.size := HNP.out.sb.box.lt
        have hqz : (wr.setCell ⟨b, 102 + t, none⟩ (.int .i64 (y + 1))).drew.heap.size = wr.heap.size := by simp [World.setCell, World.drew]
        clear hqcell hms hgd0 hcj
        go_wp2_with (at_builtin; go_loud (refine wpList_append_one_at _ rfl _ _ 146 rfl (b + 1) 150 i0 (.int .i64 0) 8 Try.underlying146 hi0 hz0 hz1 hz2 rfl .i64 _ (sqs p q2) rfl HNP.out.sb.own (t : Int) (by rw [hqz]; rfl) (i64_mk (by omega)) (by simp [sqs]; have := HQL.out; omega) (by decide) hbase ?_); intro v3 w3 hown3 hgrow3 hpl3; obtain ⟨va3, vn3, vc3, hv3, HV3⟩ := hown3.sees.shape; subst hv3; have hb3 := HNP.out.sb.box.kept hgrow3 (HNP.out.sb.own.off (Nat.lt_succ_self _)); have c3 := (hb3.cell 101).trans (scells_q (HNP.out.sb.gl)); have f3 := hb3.free 101; have HPU := Lib.hid (HNP.out.push hown3 hgrow3 hpl3); clear hown3 hgrow3 hpl3 hb3)
        go_roundw
        case rel =>
          have hd0 : at' d2 (r : Int) < 0 := by have := HZ.out; omega
          have hI := HI4.out.meet HL.out HQ4.out.1 (n := (r : Int)) (by rw [HQ4.out.2]; exact HT.out.2.2.2) hd0
          have hM := HM4.out.set HP.out.1 HP.out.2.1 HP.out.2.2.1 HN4.out.sb.ml HT.out.2.1 (at' d2 (cn : Int) + 1)
          rw [HT.out.1, ← HY.out] at hM
          rw [HQ4.out.2, Int.toNat_natCast, ← HY.out] at hI
          have hdl : d2.length = X.length := HI4.out.len
          have hrl := HT.out.2.1
          have hset : ∀ z : Int, 0 ≤ z → at' (d2.set r y) z = if z = (r : Int) then y else at' d2 z := fun z hz => by
            have := at_set (d := d2) (n := (r : Int)) (m := z) (v := y) (by omega) (by omega) hz
            rwa [Int.toNat_natCast] at this
          have hcne : (cn : Int) ≠ r := fun e => by rw [← e] at hd0; have := HY.out; omega
          have hcv : at' (d2.set r y) cn = at' d2 cn := by rw [hset cn (by omega), if_neg hcne]
          have hpu := HPU.out
          rw [show sqs p q2 ++ [(t : Int)] = sqs p (q2 ++ [(r : Int)]) by rw [sqs_add, HT.out.1]] at hpu
          refine ⟨k + 1, d2.set r y, q2 ++ [(r : Int)], M2.set t (y + 1), _, by omega, by go_num, hI, hM, hpu, ⟨by simp; have := HQ4.out.1; omega, by rw [getD_append_l HQ4.out.1]; exact HQ4.out.2⟩, fun j hj => ?_, fun n hn => ?_, by rw [hcv]; exact HD4.out⟩
          · rw [hcv]
            by_cases e : j = k
            · subst e
              rw [HT.out.2.2.1, hset r (by omega), if_pos rfl]
              have := HY.out
              omega
            · have h1 := HE4.out j (by omega)
              have hjl : j < (near p cn X).length := by rw [← HNR.out, List.length_map, HUN2.out]; omega
              have hz := near_in HL.out (by omega) (by have := HP.out.2.2.2.1; omega) (mem_getD (L := near p cn X) (j := j) hjl)
              rw [hset _ hz.1, if_neg (fun e => by rw [e] at h1; omega)]
              exact h1
          · rcases List.mem_append.1 hn with hn | hn
            · have h0 := (HI4.out.inq n hn)
              rw [hset n h0.1, if_neg (fun e => by rw [e] at h0; omega)]
              exact HC4.out n hn
            · simp at hn; subst hn
              rw [hset r (by omega), if_pos rfl]
              have := HD4.out; have := HY.out; omega
        case measure => simp [intOf]; omega
      · have hzb : (z == 0) = false := by simpa using h0
        go_wp2
        go_roundw
        case rel =>
          refine ⟨k + 1, d2, q2, M2, qv2, by omega, by go_num, HI4, HM4, HN4, HQ4, fun j hj => ?_, HC4, HD4⟩
          by_cases e : j = k
          · subst e
            rw [HT.out.2.2.1]
            have hrl := HT.out.2.1
            have h1 := HI4.out.low r (by omega) (by omega)
            have h2 : 0 ≤ at' d2 (r : Int) := by have := HZ.out; omega
            refine ⟨h2, ?_⟩
            obtain ⟨kk, hkk, hkv⟩ := mem_ix (HI4.out.known r (by omega) (by omega) h2)
            have := HI4.out.top HQ4.out.1 kk hkk
            rw [hkv, HQ4.out.2] at this
            exact this
          · exact HE4.out j (by omega)
        case measure => simp [intOf]; omega
    · have hkk : k = un := by omega
      have hnx := HI4.out.next HQ4.out.1 (fun n hn => by
        rw [HQ4.out.2] at hn ⊢
        obtain ⟨j, hj, e⟩ := mem_ix hn
        have := HE4.out j (by rw [← HNR.out, List.length_map, HUN2.out] at hj; omega)
        rwa [e] at this)
      have HX := Lib.hid hnx
      clear hnx
      go_wp2
      first | go_ret | go_end0 | refine bodyPost_ret (results_none rfl _ _ _) rfl ?_
      exact ⟨rfl, qv2, d2, q2, M2, HN4.out.sb, HM4.out, HX.out, HC4.out, HN4.out.below⟩
end Go.Proofs.Ytbpiojnehomljaa.Sr
