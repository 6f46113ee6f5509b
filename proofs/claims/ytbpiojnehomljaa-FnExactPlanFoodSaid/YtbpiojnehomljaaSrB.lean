/- Contract of the program's begin: the marks say the days, up to a bound. -/
import Derived.Test.YtbpiojnehomljaaSrS
namespace Go.Proofs.Ytbpiojnehomljaa.Sr
open Go.RowKit Kit Rw Ld Gr GrI Bfs

theorem int_info : (Try.prog.info? 3).map (fun i => (i.zero, i.size)) = some (some (.int .i64 0), 1) := by kernel_rfl
theorem marks_none {p : Nat} {X : List Int} : Marks p X (List.replicate 100 0) (List.replicate X.length (-1)) := by
  refine ⟨by simp, fun n hn => ?_⟩
  have e1 : at' (List.replicate X.length (-1 : Int)) (n : Int) = -1 := by unfold at'; rw [List.getD_eq_getElem?_getD, List.getElem?_replicate, if_pos (by omega)]; rfl
  rw [e1, List.getD_eq_getElem?_getD, List.getElem?_replicate]
  split <;> rfl

set_option maxRecDepth 100000 in
set_option maxHeartbeats 1000000 in
theorem begin_any (w : World) (b p h f : Nat) (X : List Int) (D : Int) (Q M : List Int) (qv : Value) (hS : SB w b p (grid p X) qv Q M) (hL : isLand p h X = true) (hf : f < X.length) (hD : 0 ≤ D) :
    Calls Try.prog 117 #[.pointer (some ⟨b, 0, none⟩), .int .i64 (f : Int), .int .i64 D] w fun e w' => e = .returned (.tuple #[]) ∧ ∃ qv' Q' M', SB w' b p (grid p X) qv' Q' M' ∧ Marks p X M' (cut D (distL p X f)) ∧ Below b w w' := by
  obtain ⟨hp, hH, hLen, _⟩ := isLand_of hL
  have hA := area hp hH
  have hxl : X.length = p * h := by exact_mod_cast hLen
  have HP : Hid ((1 ≤ p ∧ p ≤ 8) ∧ h ≤ 8 ∧ X.length = p * h ∧ f < X.length ∧ X.length ≤ 64) := ⟨by omega, by omega, hxl, hf, by omega⟩
  have HL := Lib.hid hL
  have HSQ := Lib.hid (sq_lt HP.out.1 HP.out.2.1 (show f < p * h by omega))
  obtain ⟨cs, hcs⟩ : ∃ cs, cs = gcells p (grid p X) := ⟨_, rfl⟩
  have hsz : cs.size = 101 := by rw [hcs]; exact gcells_size (grid_len _ _)
  have HCS := Lib.hid hcs
  have HD := Lib.hid hD
  obtain ⟨i0, hi0, hz0, hz1, hz2⟩ := info_parts info_sq
  obtain ⟨s, hss⟩ : ∃ s, s = sq p f := ⟨_, rfl⟩
  have HSS := Lib.hid hss
  have hs100 : s < 100 := by rw [hss]; have := HSQ.out; omega
  have hsi : (s : Int) < 100 := by omega
  have hf64 : f < 64 := by omega
  obtain ⟨hS1, hk1⟩ := hS.clears
  have hcl : ∀ ty, (Builtin.clear_ #[22] ty #[.slice (some ⟨b, 102, none⟩) 100 100]).run Try.prog w = .ok (.tuple #[]) (w.setCells b 102 (List.replicate 100 (.int .i64 0))) :=
    fun ty => Lib.run_clear_slice w 22 3 ty (.int .i64 0) Try.underlying22 (zero_of_info int_info).1 rfl rfl b 102 100 100 (by omega) (fun j hj => by rw [hS.m hj]; rfl) (fun j hj => hS.box.free (102 + j))
  have hb1 : Below b w (w.setCells b 102 (List.replicate 100 (.int .i64 0))) := (Below.refl b w).grown hk1 (Nat.le_of_lt hS.box.lt) (fun k hk => by injection hk with hk; omega)
  obtain ⟨w1, hw1⟩ : ∃ w1, w1 = w.setCells b 102 (List.replicate 100 (.int .i64 0)) := ⟨_, rfl⟩
  rw [← hw1] at hcl hS1 hb1
  have HS1 := Lib.hid hS1
  have HB1 := Lib.hid hb1
  clear hp hH hLen hA hxl hcs hS hL hf hD hss hS1 hk1 hb1 hw1
  go_enter Try.func117, Try.ntmps117
  go_upto_region 1 with (fail)
  clear hcl
  go_wp2_with (refine wpList_load_part rfl 144 _ rfl b 0 rfl cs _ (by rw [HCS.out]; exact HS1.out.part) Try.underlying144 rfl (grid_size hsz) ?_)
  refine (squareOf_any w1 p f cs HP.out.1 hf64 (by rw [HCS.out]; rfl)).mono ?_
  rintro e w2 ⟨rfl, hg⟩
  rw [← HSS.out]
  have HS2 := Lib.hid (HS1.out.on hg)
  have HB2 := Lib.hid (HB1.out.grown hg (Nat.le_of_lt HS1.out.box.lt) (fun _ h => by cases h))
  have hms := HS2.out.m hs100
  have hfr := HS2.out.box.free (102 + s)
  clear hg
  go_upto_region 3 with (fail)
  have HS3 := Lib.hid (HS2.out.put s 1)
  have HB3 := Lib.hid (HB2.out.setCell (p := ⟨b, 102 + s, none⟩) (Nat.le_refl _) (.int .i64 1))
  clear hms hfr
  generalize w2.setCell ⟨b, 102 + s, none⟩ (.int .i64 1) = w3 at *
  obtain ⟨qa, qn, qc, hqv, HQN⟩ := HS3.out.own.sees.shape
  subst hqv
  have hqcell := HS3.out.q
  have HO0 := Lib.hid (Own.cut0 HS3.out.own)
  have hbase : b + 1 ≤ w3.heap.size := HS3.out.box.lt
  have HOB : Hid ((Value.slice qa 0 qc).ownBlock = (Value.slice qa qn qc).ownBlock) := by show _ = _; cases qa <;> rfl

  go_wp2_with (at_builtin; go_loud (refine wpList_append_one_at _ rfl _ _ 146 rfl (b + 1) 150 i0 (.int .i64 0) 8 Try.underlying146 hi0 hz0 hz1 hz2 rfl .i64 _ [] rfl HO0.out (s : Int) rfl (i64_mk (by omega)) (by simp) (by decide) hbase ?_); intro v3 w4 hown3 hgrow3 hpl3; obtain ⟨va3, vn3, vc3, hv3, HV3⟩ := hown3.sees.shape; subst hv3; have hgrow4 : w3.grownBy w4 (Value.slice qa qn qc).ownBlock := (by rw [← HOB.out]; exact hgrow3); have hb3 := HS3.out.box.kept hgrow4 (HS3.out.own.off (Nat.lt_succ_self _)); have c3 := (hb3.cell 101).trans (scells_q HS3.out.gl); have f3 := hb3.free 101; have HPU := Lib.hid (HS3.out.push hown3 hgrow4); have HB4 := Lib.hid (HB3.out.trans (HS3.out.below hgrow4 (.slice va3 vn3 vc3) 101)); clear hown3 hgrow3 hgrow4 hpl3 hb3)
  have HQ5 : Hid (Inv p X (f : Int) 0 ((List.replicate X.length (-1)).set f 0) [(f : Int)] ∧ Marks p X ((List.replicate 100 0).set s 1) ((List.replicate X.length (-1)).set f 0) ∧ (∀ n ∈ [(f : Int)], at' ((List.replicate X.length (-1)).set f 0) n ≤ D)) := by
    have hi := Inv.start (W := (p : Int)) (X := X) (a := (f : Int)) (by omega) (by have := HP.out.2.2.2.1; omega)
    rw [Int.toNat_natCast] at hi
    have hm := (marks_none (p := p) (X := X)).set HP.out.1 HP.out.2.1 HP.out.2.2.1 (by simp) HP.out.2.2.2.1 0
    rw [← HSS.out] at hm
    refine ⟨hi, hm, fun n hn => ?_⟩
    simp only [List.mem_singleton] at hn
    subst hn
    rw [hi.src]; exact HD.out
  have hpu := HPU.out
  rw [show [] ++ [(s : Int)] = sqs p [(f : Int)] by simp [sqs, HSS.out]] at hpu
  have HPU := Lib.hid hpu
  clear hpu hqcell c3 f3 HO0 HOB HS1 HS2 HS3 HB1 HB2 HB3
  go_wp2_with fail
  go_loopw [7] (fun s7 wz => ∃ (i : Nat) (d q M : List Int) (qv : Value), s7 = .int .i64 i ∧ Hid (Inv p X (f : Int) i d q) ∧ Hid (Marks p X M d) ∧ Hid (SB wz b p (grid p X) qv (sqs p q) M) ∧ Hid (∀ n ∈ q, at' d n ≤ D) ∧ Hid (Below b w wz)) (fun s7 _ => X.length - (intOf s7).toNat)
  case atStart => exact ⟨0, _, _, _, _, rfl, HQ5.out.1, HQ5.out.2.1, HPU, HQ5.out.2.2, HB4⟩
  case round =>
    obtain ⟨i, d, q, M1, qv, rfl, HI, HM, HS, HC, HB⟩ := hrel
    clear HQ5 HPU HB4
    obtain ⟨qa, qn, qc, hqv, HQN⟩ := HS.out.own.sees.shape
    subst hqv
    have hqcell := HS.out.q
    have hqn : q.length = qn := by have := HQN.out; simpa [sqs] using this
    have hil := HI.out.ile
    have hil2 := HI.out.short
    by_cases hlt : i < q.length
    · have hlt2 : i < qn := by omega
      have hin := HI.out.inq _ (mem_getD hlt)
      obtain ⟨cn, hcn⟩ : ∃ cn : Nat, q.getD i 0 = cn := ⟨(q.getD i 0).toNat, by omega⟩
      rw [hcn] at hin
      obtain ⟨qb, qo, rfl, hcj⟩ := HS.out.own.sees.at_row (j := i) (by simp [sqs]; exact hlt)
      rw [sqs_at hlt, hcn, Int.toNat_natCast] at hcj
      obtain ⟨t, ht⟩ : ∃ t, t = sq p cn := ⟨_, rfl⟩
      rw [← ht] at hcj
      have htb := sq_lt HP.out.1 HP.out.2.1 (show cn < p * h by have := HP.out.2.2.1; omega)
      rw [← ht] at htb
      have ht100 : t < 100 := by omega
      have hti : (t : Int) < 100 := by omega
      have hmt := HS.out.m ht100
      have hz : M1.getD t 0 = at' d (cn : Int) + 1 := by rw [ht]; exact HM.out.at_ cn (by omega)
      rw [hz] at hmt
      obtain ⟨z, hzz⟩ : ∃ z, z = at' d (cn : Int) + 1 := ⟨_, rfl⟩
      rw [← hzz] at hmt
      have HZ := Lib.hid hzz
      have HT := Lib.hid ht
      have HLT := Lib.hid hlt
      have HCN := Lib.hid hcn
      have HX64 := Lib.hid (Nat.le_trans hil2 HP.out.2.2.2.2)
      have hi64 : i ≤ 64 := by have := HP.out.2.2.2.2; omega
      have hix : i < X.length := by omega
      clear hin ht htb hz hzz hcn hil hil2 hqn hlt
      by_cases hg : D < z
      · have HST : Hid (d = cut D (distL p X f)) := HI.out.stop HL.out HLT.out HC.out (by rw [HCN.out]; have := HZ.out; omega)
        go_wp2
        first | go_ret | go_end0 | refine bodyPost_ret (results_none rfl _ _ _) rfl ?_
        exact ⟨rfl, _, _, M1, HS.out, by rw [← HST.out]; exact HM.out, HB.out⟩
      · go_wp2_with fail
        rw [HT.out]
        refine (spread_any wr b p h X f D i cn d q M1 _ HS.out HM.out HI.out HLT.out HL.out HCN.out (by have := HZ.out; omega) HC.out).mono ?_
        rintro e w5 ⟨rfl, qv', d', q', M', hS', hM', hI', hC', hB'⟩
        have HS' := Lib.hid hS'
        have HM' := Lib.hid hM'
        have HI' := Lib.hid hI'
        have HC' := Lib.hid hC'
        have HB' := Lib.hid (HB.out.trans hB')
        clear hS' hM' hI' hC' hB'
        go_wp2_with fail
        go_roundw
        case rel => exact ⟨i + 1, d', q', M', qv', by go_num, HI', HM', HS', HC', HB'⟩
        case measure => simp [intOf]; omega
    · have hlt2 : ¬ i < qn := by omega
      have HST : Hid (d = cut D (distL p X f)) := HI.out.all hlt HC.out HD.out
      go_wp2
      first | go_ret | go_end0 | refine bodyPost_ret (results_none rfl _ _ _) rfl ?_
      exact ⟨rfl, _, _, M1, HS.out, by rw [← HST.out]; exact HM.out, HB.out⟩
end Go.Proofs.Ytbpiojnehomljaa.Sr
