/- Contract of the program's nearer: the least of the cells near one that are a day nearer. -/
import Derived.Test.YtbpiojnehomljaaSrB
import Derived.Test.YtbpiojnehomljaaG14
namespace Go.Proofs.Ytbpiojnehomljaa.Sr
open Go.RowKit Kit Rw Ld Gr GrI Bfs Wf


theorem find_first {L : List Int} {P : Int → Bool} {k : Nat} (hk : k < L.length) (h : ∀ j, j < k → P (L.getD j 0) = false) (hP : P (L.getD k 0) = true) : L.find? P = some (L.getD k 0) := by
  rw [List.find?_eq_some_iff_getElem]
  have e : L.getD k 0 = L[k] := by simp [hk]
  refine ⟨hP, k, hk, e.symm, fun j hj => ?_⟩
  have := h j hj
  have e2 : L.getD j 0 = L[j] := by simp [show j < L.length by omega]
  rw [e2] at this
  simp [this]
theorem find_none {L : List Int} {P : Int → Bool} (h : ∀ j, j < L.length → P (L.getD j 0) = false) : L.find? P = none := by
  rw [List.find?_eq_none]
  intro x hx
  obtain ⟨j, hj, rfl⟩ := List.getElem_of_mem hx
  have := h j hj
  have e2 : L.getD j 0 = L[j] := by simp [hj]
  rw [e2] at this
  simp [this]

/-- Where nearer stands. -/
structure SF (w wr : World) (b p : Nat) (g : List Int) (qv : Value) (Q M : List Int) (u : Value) (N : List Nat) : Prop where
  sb : SB wr b p g qv Q M
  row : Sees .i64 wr u (ints N)
  grown : w.grownBy wr none
theorem SF.on {w wr wy : World} {b p : Nat} {g Q M : List Int} {qv u : Value} {N : List Nat} (h : SF w wr b p g qv Q M u N) (hg : wr.grownBy wy none) : SF w wy b p g qv Q M u N :=
  ⟨h.sb.on hg, h.row.grown hg, grownN_trans h.grown hg⟩

set_option maxRecDepth 100000 in
set_option maxHeartbeats 1000000 in
theorem nearer_any (w : World) (b p h n : Nat) (X d Q M : List Int) (qv : Value) (hS : SB w b p (grid p X) qv Q M) (hM : Marks p X M d) (hd : ∀ m : Int, 0 ≤ m → m < X.length → -1 ≤ at' d m ∧ at' d m ≤ 64) (hL : isLand p h X = true) (hn : n < X.length) :
    Calls Try.prog 119 #[.pointer (some ⟨b, 0, none⟩), .int .i64 (n : Int)] w fun e w' => e = .returned (.int .i64 (nearerOf p X d n)) ∧ w.grownBy w' none := by
  obtain ⟨hp, hH, hLen, _⟩ := isLand_of hL
  have hA := area hp hH
  have hxl : X.length = p * h := by exact_mod_cast hLen
  have HP : Hid ((1 ≤ p ∧ p ≤ 8) ∧ h ≤ 8 ∧ X.length = p * h ∧ n < X.length ∧ X.length ≤ 64) := ⟨by omega, by omega, hxl, hn, by omega⟩
  have HL := Lib.hid hL
  have HSQ := Lib.hid (sq_lt HP.out.1 HP.out.2.1 (show n < p * h by omega))
  obtain ⟨cs, hcs⟩ : ∃ cs, cs = gcells p (grid p X) := ⟨_, rfl⟩
  have hsz : cs.size = 101 := by rw [hcs]; exact gcells_size (grid_len _ _)
  have HCS := Lib.hid hcs
  have HD := Lib.hid hd
  have HM := Lib.hid hM
  have hn64 : n < 64 := by omega
  have hdr := grown_drew (World.grownBy.refl w none)
  have HQ := Lib.hid (hS.on hdr)
  have HR := Lib.hid hdr
  clear hp hH hLen hA hxl hcs hS hL hM hd hn hdr
  go_enter Try.func119, Try.ntmps119
  go_wp2_with fail
  refine wp_region_held_drew (S := fun w' => Hid (SB w' b p (grid p X) qv Q M)) (by kernel_rfl) HQ (fun hHeld => ?_)
  refine wpAnyH_take (i := 0) (v := ?_) rfl (by kernel_rfl) (by kernel_rfl) (by kernel_rfl) (fun _ _ _ h => h) (Or.inl ⟨by rfl, ?_⟩) (by assumption) ?_; rotate_left; (focus (intro wS hSw; (try dsimp only at hSw); go_simp <;> with_reducible rfl)); (try simp only [Act.put, List.getElem_toArray, List.getElem_cons_succ, List.getElem_cons_zero, List.setIfInBounds_toArray, List.set_cons_zero, List.set_cons_succ])
  refine wpAnyH_take (i := 1) (v := ?_) rfl (by kernel_rfl) (by kernel_rfl) (by kernel_rfl) (fun _ _ _ h => h) (Or.inl ⟨by rfl, ?_⟩) (by assumption) ?_; rotate_left; (focus (intro wS hSw; (try dsimp only at hSw); go_simp <;> with_reducible rfl)); (try simp only [Act.put, List.getElem_toArray, List.getElem_cons_succ, List.getElem_cons_zero, List.setIfInBounds_toArray, List.set_cons_zero, List.set_cons_succ])
  refine wpAnyH_take (i := 2) (v := ?_) rfl (by kernel_rfl) (by kernel_rfl) (by kernel_rfl) (fun _ _ _ h => h) (Or.inl ⟨by rfl, ?_⟩) (by assumption) ?_; rotate_left; (focus (intro wS hSw; (try dsimp only at hSw); go_simp <;> with_reducible rfl)); (try simp only [Act.put, List.getElem_toArray, List.getElem_cons_succ, List.getElem_cons_zero, List.setIfInBounds_toArray, List.set_cons_zero, List.set_cons_succ])
  refine wpAnyH_take (i := 3) (v := .agg cs) rfl (by kernel_rfl) (by kernel_rfl) (by kernel_rfl) (fun _ _ _ h => h) (Or.inl ⟨by rfl, ?_⟩) (by assumption) ?_
  · intro wS hSw; (try dsimp only at hSw); exact exec_load_part 144 _ rfl b 0 rfl cs _ (by rw [HCS.out]; exact hSw.out.part) Try.underlying144 rfl (grid_size hsz)
  (try simp only [Act.put, List.getElem_toArray, List.getElem_cons_succ, List.getElem_cons_zero, List.setIfInBounds_toArray, List.set_cons_zero, List.set_cons_succ])
  refine wpAnyH_take (i := 4) (v := ?_) rfl (by kernel_rfl) (by kernel_rfl) (by kernel_rfl) (fun _ _ _ h => h) (Or.inl ⟨by rfl, ?_⟩) (by assumption) ?_; rotate_left; (focus (intro wS hSw; (try dsimp only at hSw); go_simp <;> with_reducible rfl)); (try simp only [Act.put, List.getElem_toArray, List.getElem_cons_succ, List.getElem_cons_zero, List.setIfInBounds_toArray, List.set_cons_zero, List.set_cons_succ])
  refine wpAnyH_take (i := 5) (v := ?_) rfl (by kernel_rfl) (by kernel_rfl) (by kernel_rfl) (fun _ _ _ h => h) (Or.inl ⟨by rfl, ?_⟩) (by assumption) ?_; rotate_left; (focus (intro wS hSw; (try dsimp only at hSw); go_simp <;> with_reducible rfl)); (try simp only [Act.put, List.getElem_toArray, List.getElem_cons_succ, List.getElem_cons_zero, List.setIfInBounds_toArray, List.set_cons_zero, List.set_cons_succ])
  refine wpAnyH_take (i := 6) (v := ?_) rfl (by kernel_rfl) (by kernel_rfl) (by kernel_rfl) (fun _ _ _ h => h) (Or.inl ⟨by rfl, ?_⟩) (by assumption) ?_; rotate_left; (focus (intro wS hSw; (try dsimp only at hSw); go_simp <;> with_reducible rfl)); (try simp only [Act.put, List.getElem_toArray, List.getElem_cons_succ, List.getElem_cons_zero, List.setIfInBounds_toArray, List.set_cons_zero, List.set_cons_succ])
  refine wpAnyH_take (i := 7) (v := .agg cs) rfl (by kernel_rfl) (by kernel_rfl) (by kernel_rfl) (fun _ _ _ h => h) (Or.inl ⟨by rfl, ?_⟩) (by assumption) ?_
  · intro wS hSw; (try dsimp only at hSw); exact exec_load_part 144 _ rfl b 0 rfl cs _ (by rw [HCS.out]; exact hSw.out.part) Try.underlying144 rfl (grid_size hsz)
  (try simp only [Act.put, List.getElem_toArray, List.getElem_cons_succ, List.getElem_cons_zero, List.setIfInBounds_toArray, List.set_cons_zero, List.set_cons_succ])
  refine wpAnyH_take (i := 8) (v := ?_) rfl (by kernel_rfl) (by kernel_rfl) (by kernel_rfl) (fun _ _ _ h => h) (Or.inl ⟨by rfl, ?_⟩) (by assumption) ?_; rotate_left; (focus (intro wS hSw; (try dsimp only at hSw); go_simp <;> with_reducible rfl)); (try simp only [Act.put, List.getElem_toArray, List.getElem_cons_succ, List.getElem_cons_zero, List.setIfInBounds_toArray, List.set_cons_zero, List.set_cons_succ])
  refine wpAnyH_take (i := 12) (v := ?_) rfl (by kernel_rfl) (by kernel_rfl) (by kernel_rfl) (fun _ _ _ h => h) (Or.inl ⟨by rfl, ?_⟩) (by assumption) ?_; rotate_left; (focus (intro wS hSw; (try dsimp only at hSw); go_simp <;> with_reducible rfl)); (try simp only [Act.put, List.getElem_toArray, List.getElem_cons_succ, List.getElem_cons_zero, List.setIfInBounds_toArray, List.set_cons_zero, List.set_cons_succ])
  refine wpAnyH_ready (rs := [9]) (by kernel_rfl) (by simp) ?_; refine AllReadyH.cons rfl (fun K hK => ?_) AllReadyH.nil; go_simp; (go_at_call 130; refine (squareOf_any _ p n cs HP.out.1 hn64 (by rw [HCS.out]; rfl)).mono ?_; rintro e w5 ⟨rfl, hg5⟩; have HQ5 := Lib.hid (HQ.out.on hg5); have HR5 := Lib.hid (grownN_trans HR.out hg5); clear hg5)
  refine hK.out _ _ ?_ (fun hHeld => ?_)
  · exact HQ5
  clear hK K
  (try simp only [Act.put, List.getElem_toArray, List.getElem_cons_succ, List.getElem_cons_zero, List.setIfInBounds_toArray, List.set_cons_zero, List.set_cons_succ])
  refine wpAnyH_ready (rs := [10]) (by kernel_rfl) (by simp) ?_; refine AllReadyH.cons rfl (fun K hK => ?_) AllReadyH.nil; go_simp; (go_at_call 132; refine (gnear_any _ p (sq p n) cs (grid p X) HCS.out (grid_len _ _) HSQ.out.1 HSQ.out.2).mono ?_; rintro e w6 ⟨u, rfl, ho6, hg6⟩; obtain ⟨ua, un, uc, hu, HUN⟩ := ho6.sees.shape; subst hu; have HF6 : Hid (SF w w6 b p (grid p X) qv Q M (.slice ua un uc) (nsq (grid p X) (sq p n))) := ⟨HQ5.out.on hg6, ho6.sees, grownN_trans HR5.out hg6⟩; clear hg6 ho6)
  refine hK.out _ _ ?_ (fun hHeld => ?_)
  · exact Lib.hid HF6.out.sb
  clear hK K
  (try simp only [Act.put, List.getElem_toArray, List.getElem_cons_succ, List.getElem_cons_zero, List.setIfInBounds_toArray, List.set_cons_zero, List.set_cons_succ])
  refine wpAnyH_take (i := 11) (v := ?_) rfl (by kernel_rfl) (by kernel_rfl) (by kernel_rfl) (fun _ _ _ h => h) (Or.inl ⟨by rfl, ?_⟩) (by assumption) ?_; rotate_left; (focus (intro wS hSw; (try dsimp only at hSw); go_simp <;> with_reducible rfl)); (try simp only [Act.put, List.getElem_toArray, List.getElem_cons_succ, List.getElem_cons_zero, List.setIfInBounds_toArray, List.set_cons_zero, List.set_cons_succ])
  refine wpAnyH_done (by kernel_rfl) ?_ _
  (try simp only [Act.put, List.getElem_toArray, List.getElem_cons_succ, List.getElem_cons_zero, List.setIfInBounds_toArray, List.set_cons_zero, List.set_cons_succ])
  have HUN2 : Hid ((nsq (grid p X) (sq p n)).length = un) := by have := HUN.out; show _ = _; simpa [ints] using this
  have hun4 : un ≤ 4 := by have := HUN2.out; have := nsq_len (grid p X) (sq p n); omega
  have HNR : Hid ((nsq (grid p X) (sq p n)).map (fun t => ((cl p t : Nat) : Int)) = near p n X) := nsq_near HP.out.1 HP.out.2.1 HP.out.2.2.1 HP.out.2.2.2.1
  clear HQ HR HQ5 HR5 HUN hHeld
  go_wp2_with fail
  go_loopw [20] (fun s wz => ∃ k : Nat, k ≤ un ∧ s = .int .i64 k ∧ Hid (SF w wz b p (grid p X) qv Q M (.slice ua un uc) (nsq (grid p X) (sq p n))) ∧ Hid (∀ j, j < k → (at' d ((near p n X).getD j 0) == at' d n - 1) = false)) (fun s _ => un - (intOf s).toNat)
  case atStart => exact ⟨0, Nat.zero_le _, rfl, HF6, fun j hj => absurd hj (Nat.not_lt_zero _)⟩
  case round =>
    obtain ⟨k, hk, rfl, HF, HE⟩ := hrel
    clear HF6
    by_cases hkn : k < un
    · have hkN : k < (nsq (grid p X) (sq p n)).length := by rw [HUN2.out]; exact hkn
      obtain ⟨t, ht⟩ : ∃ t, t = (nsq (grid p X) (sq p n))[k] := ⟨_, rfl⟩
      have hin := nsq_mem HP.out.1 HP.out.2.1 HP.out.2.2.1 HP.out.2.2.2.1 (t := t) (by rw [ht]; exact List.getElem_mem hkN)
      have htb := sq_cl HP.out.1 hin
      simp only [inb, decide_eq_true_eq] at hin
      obtain ⟨r, hr⟩ : ∃ r, r = cl p t := ⟨_, rfl⟩
      rw [← hr] at htb hin
      have hrX : r < X.length := hin.2.2.2
      have ht2 := sq_lt HP.out.1 HP.out.2.1 (show r < p * h by rw [← HP.out.2.2.1]; exact hrX)
      rw [htb] at ht2
      have hnk : (near p n X).getD k 0 = (r : Int) := by rw [← HNR.out]; simp [hkN, ← ht, hr]
      obtain ⟨ub, uo, rfl, hcj⟩ := HF.out.row.at_row (j := k) (by simp [ints]; exact hkN)
      have e1 : (ints (nsq (grid p X) (sq p n))).getD k 0 = (t : Int) := by simp [ints, ht, hkN]
      rw [e1] at hcj
      have HT : Hid (sq p r = t ∧ r < X.length ∧ (near p n X).getD k 0 = (r : Int) ∧ 10 ≤ t ∧ 1 ≤ t % 10 ∧ t < 100 ∧ r < 64) := ⟨htb, hrX, hnk, hin.1, hin.2.1, by omega, by have := HP.out.2.2.2.2; omega⟩
      have HR := Lib.hid hr
      obtain ⟨y, hy⟩ : ∃ y, y = at' d (r : Int) := ⟨_, rfl⟩
      obtain ⟨z, hz⟩ : ∃ z, z = at' d (n : Int) := ⟨_, rfl⟩
      have hyb := HD.out r (by omega) (by omega)
      have hzb := HD.out n (by omega) (by have := HP.out.2.2.2.1; omega)
      rw [← hy] at hyb
      rw [← hz] at hzb
      obtain ⟨hy0, hy1⟩ := hyb
      obtain ⟨hz0, hz1⟩ := hzb
      have HY := Lib.hid hy
      have HZ := Lib.hid hz
      clear hkN ht hin htb hrX ht2 hnk e1 hr hy hz
      go_wp2_with (refine wpList_load_part rfl 144 _ rfl b 0 rfl cs _ (by rw [HCS.out]; exact HF.out.sb.part) Try.underlying144 rfl (grid_size hsz) ?_)
      refine (cellOf_any wr p t cs HP.out.1 HT.out.2.2.2.2.2.1 HT.out.2.2.2.1 HT.out.2.2.2.2.1 (by rw [HCS.out]; rfl)).mono ?_
      rintro e w7 ⟨rfl, hg7⟩
      rw [← HR.out]
      have HF7 := Lib.hid (HF.out.on hg7)
      clear hg7 hcj
      go_wp2_with fail
      refine (daysTo_any w7 b p r (grid p X) Q M qv y HF7.out.sb HP.out.1 HT.out.2.2.2.2.2.2 (by rw [HT.out.1]; exact HT.out.2.2.2.2.2.1) (by rw [HM.out.at_ r HT.out.2.1, HY.out]) ⟨hy0, by omega⟩).mono ?_
      rintro e w8 ⟨rfl, hg8⟩
      have HF8 := Lib.hid (HF7.out.on hg8)
      clear hg8
      go_wp2_with fail
      refine (daysTo_any w8 b p n (grid p X) Q M qv z HF8.out.sb HP.out.1 hn64 (by have := HSQ.out; omega) (by rw [HM.out.at_ n HP.out.2.2.2.1, HZ.out]) ⟨hz0, by omega⟩).mono ?_
      rintro e w9 ⟨rfl, hg9⟩
      have HF9 := Lib.hid (HF8.out.on hg9)
      clear hg9
      by_cases hyz : y = z - 1
      · have hb : (y == z - 1) = true := by simpa using hyz
        have HV : Hid (nearerOf p X d n = (r : Int)) := by
          show _ = _
          unfold nearerOf
          rw [find_first (k := k) (by rw [← HNR.out, List.length_map, HUN2.out]; exact hkn) HE.out (by rw [HT.out.2.2.1, ← HY.out, ← HZ.out]; exact hb), HT.out.2.2.1]
          rfl
        go_wp2
        go_ret
        exact ⟨ret_i64 HV.out.symm, HF9.out.grown⟩
      · have hb : (y == z - 1) = false := by simpa using hyz
        go_wp2
        go_roundw
        case rel =>
          refine ⟨k + 1, by omega, by go_num, HF9, fun j hj => ?_⟩
          by_cases e : j = k
          · subst e; rw [HT.out.2.2.1, ← HY.out, ← HZ.out]; exact hb
          · exact HE.out j (by omega)
        case measure => simp [intOf]; omega
    · have HV : Hid (nearerOf p X d n = (n : Int)) := by
        show _ = _
        unfold nearerOf
        rw [find_none (fun j hj => HE.out j (by rw [← HNR.out, List.length_map, HUN2.out] at hj; omega))]
        rfl
      go_wp2
      go_ret
      exact ⟨ret_i64 HV.out.symm, HF.out.grown⟩
end Go.Proofs.Ytbpiojnehomljaa.Sr
