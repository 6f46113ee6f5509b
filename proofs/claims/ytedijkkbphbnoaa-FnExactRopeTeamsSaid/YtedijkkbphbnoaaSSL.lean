/- The laws' helpers on rows of rows of ints: compared, marked, looked at. -/
import Derived.Test.YtedijkkbphbnoaaSS
namespace Go.Proofs.Ytedijkkbphbnoaa.Rop
open Go.RowKit Kit Rw Rg

theorem SS.at {w : World} {base n c : Nat} {a : Option Addr} {Vs : List SV} {T : List (List Int)} (h : SS w base (.slice a n c) Vs T) {j : Nat} (hj : j < Vs.length) : ∃ b o, a = some ⟨b, o, none⟩ ∧ w.cell? ⟨b, o + j, none⟩ = some (sv (Vs.getD j dV)) := by
  obtain ⟨b, o, ha, _, hc⟩ := h.out.sees.at_row hj
  refine ⟨b, o, ha, ?_⟩
  have := hc 0 (by decide)
  simp only [encV, Nat.mul_one, Nat.add_zero] at this
  rw [this]; rfl

set_option maxRecDepth 20000 in
set_option maxHeartbeats 1000000 in
theorem eqSS (w : World) (u v : Value) (B B' : Nat) (Vs Vs' : List SV) (T : List (List Int)) (hu : SS w B u Vs T) (hv : SS w B' v Vs' T) :
    Calls Try.prog 9 #[u, v] w fun e w' => e = .returned (.bool true) ∧ w.grownBy w' none := by
  obtain ⟨ua, uc, hue, _⟩ := hu.out.sees
  subst hue
  obtain ⟨va, vc, hve, _⟩ := hv.out.sees
  subst hve
  have hl : Vs'.length = Vs.length := by rw [← hu.len, ← hv.len]
  have hmax := hu.out.sees.len
  obtain ⟨n, hn⟩ : ∃ n, n = Vs.length := ⟨_, rfl⟩
  have HU : Hid (SS w B (.slice ua n uc) Vs T) := by rw [hn]; exact hu
  have HV : Hid (SS w B' (.slice va n vc) Vs' T) := by rw [hn, ← hl]; exact hv
  rw [hl, ← hn]
  rw [← hn] at hmax hl
  have HN := Lib.hid hn
  have HL := Lib.hid hl
  clear hu hv hn hl
  have hnn : ((n : Int) != (n : Int)) = false := by simp
  go_enter Try.func9, Try.ntmps9
  go_wp2
  go_loopw [5] (fun i wr => ∃ j : Nat, j ≤ n ∧ i = .int .i64 j ∧ Hid (w.grownBy wr none)) (fun i _ => n - (intOf i).toNat)
  case atStart => exact ⟨0, Nat.zero_le _, rfl, World.grownBy.refl _ _⟩
  case round =>
    obtain ⟨j, hj, rfl, HG⟩ := hrel
    by_cases hlt : j < n
    · have hji : (j : Int) < (n : Int) := by omega
      have hj0 : (0 : Int) ≤ (j : Int) := by omega
      have HGD := Lib.hid (grownN_trans HG.out (grown_drew (World.grownBy.refl wr none)))
      have HUR := Lib.hid (HU.out.grown HGD.out)
      have HVR := Lib.hid (HV.out.grown HGD.out)
      have h1 : j < Vs.length := by rw [← HN.out]; exact hlt
      have h2 : j < Vs'.length := by rw [HL.out]; exact hlt
      obtain ⟨b, o, rfl, hcu⟩ := HUR.out.at h1
      obtain ⟨b', o', rfl, hcv⟩ := HVR.out.at h2
      have HS1 := Lib.hid (HUR.out.inn j h1).sees
      have HS2 := Lib.hid (HVR.out.inn j h2).sees
      obtain ⟨x, hx⟩ : ∃ x, x = Vs.getD j dV := ⟨_, rfl⟩
      obtain ⟨y, hy⟩ : ∃ y, y = Vs'.getD j dV := ⟨_, rfl⟩
      rw [← hx] at hcu HS1
      rw [← hy] at hcv HS2
      obtain ⟨xa, xn, xc⟩ := x
      obtain ⟨ya, yn, yc⟩ := y
      dsimp only [sv] at hcu hcv HS1 HS2
      clear hx hy
      go_wp2_with fail
      refine wp_region_held_drew (S := fun w' => w'.cell? ⟨b, o + j, none⟩ = some (.slice xa xn xc) ∧ w'.cell? ⟨b', o' + j, none⟩ = some (.slice ya yn yc)) (by kernel_rfl) ⟨hcu, hcv⟩ (fun hHeld => ?_)
      refine wpAnyH_take (i := 0) (v := ?_) rfl (by kernel_rfl) (by kernel_rfl) (by kernel_rfl) (fun _ _ _ h => h) (Or.inl ⟨by rfl, ?_⟩) (by assumption) ?_; rotate_left; (focus (intro wS hSw; (try dsimp only at hSw); go_simp <;> with_reducible rfl)); (try simp only [Act.put, List.getElem_toArray, List.getElem_cons_succ, List.getElem_cons_zero, List.setIfInBounds_toArray, List.set_cons_zero, List.set_cons_succ])
      refine wpAnyH_take (i := 1) (v := ?_) rfl (by kernel_rfl) (by kernel_rfl) (by kernel_rfl) (fun _ _ _ h => h) (Or.inl ⟨by rfl, ?_⟩) (by assumption) ?_; rotate_left; (focus (intro wS hSw; (try dsimp only at hSw); go_simp <;> with_reducible rfl)); (try simp only [Act.put, List.getElem_toArray, List.getElem_cons_succ, List.getElem_cons_zero, List.setIfInBounds_toArray, List.set_cons_zero, List.set_cons_succ])
      refine wpAnyH_take (i := 2) (v := ?_) rfl (by kernel_rfl) (by kernel_rfl) (by kernel_rfl) (fun _ _ _ h => h) (Or.inl ⟨by rfl, ?_⟩) (by assumption) ?_; rotate_left; (focus (intro wS hSw; (try dsimp only at hSw); go_simp <;> with_reducible rfl)); (try simp only [Act.put, List.getElem_toArray, List.getElem_cons_succ, List.getElem_cons_zero, List.setIfInBounds_toArray, List.set_cons_zero, List.set_cons_succ])
      refine wpAnyH_take (i := 3) (v := ?_) rfl (by kernel_rfl) (by kernel_rfl) (by kernel_rfl) (fun _ _ _ h => h) (Or.inl ⟨by rfl, ?_⟩) (by assumption) ?_; rotate_left; (focus (intro wS hSw; (try dsimp only at hSw); go_simp <;> with_reducible rfl)); (try simp only [Act.put, List.getElem_toArray, List.getElem_cons_succ, List.getElem_cons_zero, List.setIfInBounds_toArray, List.set_cons_zero, List.set_cons_succ])
      refine wpAnyH_take (i := 4) (v := ?_) rfl (by kernel_rfl) (by kernel_rfl) (by kernel_rfl) (fun _ _ _ h => h) (Or.inl ⟨by rfl, ?_⟩) (by assumption) ?_; rotate_left; (focus (intro wS hSw; (try dsimp only at hSw); go_simp <;> with_reducible rfl)); (try simp only [Act.put, List.getElem_toArray, List.getElem_cons_succ, List.getElem_cons_zero, List.setIfInBounds_toArray, List.set_cons_zero, List.set_cons_succ])
      refine wpAnyH_take (i := 5) (v := ?_) rfl (by kernel_rfl) (by kernel_rfl) (by kernel_rfl) (fun _ _ _ h => h) (Or.inl ⟨by rfl, ?_⟩) (by assumption) ?_; rotate_left; (focus (intro wS hSw; (try dsimp only at hSw); go_simp <;> with_reducible rfl)); (try simp only [Act.put, List.getElem_toArray, List.getElem_cons_succ, List.getElem_cons_zero, List.setIfInBounds_toArray, List.set_cons_zero, List.set_cons_succ])
      refine wpAnyH_take (i := 6) (v := ?_) rfl (by kernel_rfl) (by kernel_rfl) (by kernel_rfl) (fun _ _ _ h => h) (Or.inl ⟨by rfl, ?_⟩) (by assumption) ?_; rotate_left; (focus (intro wS hSw; (try dsimp only at hSw); go_simp <;> with_reducible rfl)); (try simp only [Act.put, List.getElem_toArray, List.getElem_cons_succ, List.getElem_cons_zero, List.setIfInBounds_toArray, List.set_cons_zero, List.set_cons_succ])
      refine wpAnyH_take (i := 7) (v := ?_) rfl (by kernel_rfl) (by kernel_rfl) (by kernel_rfl) (fun _ _ _ h => h) (Or.inl ⟨by rfl, ?_⟩) (by assumption) ?_; rotate_left; (focus (intro wS hSw; (try dsimp only at hSw); go_simp <;> with_reducible rfl)); (try simp only [Act.put, List.getElem_toArray, List.getElem_cons_succ, List.getElem_cons_zero, List.setIfInBounds_toArray, List.set_cons_zero, List.set_cons_succ])
      refine wpAnyH_ready (rs := [8]) (by kernel_rfl) (by simp) ?_; refine AllReadyH.cons rfl (fun K hK => ?_) AllReadyH.nil; go_simp; (go_at_call 23; refine (LawsI.eq_same _ _ _ _ HS1.out HS2.out).mono ?_; rintro e w3 ⟨rfl, hg⟩; have HG3 := Lib.hid (grownN_trans HGD.out hg); have hk1 := hg.cell hcu (by simp); have hk2 := hg.cell hcv (by simp); clear hg)
      refine hK.out _ _ ?_ (fun hHeld => ?_)
      · exact ⟨hk1, hk2⟩
      clear hK K
      (try simp only [Act.put, List.getElem_toArray, List.getElem_cons_succ, List.getElem_cons_zero, List.setIfInBounds_toArray, List.set_cons_zero, List.set_cons_succ])
      refine wpAnyH_take (i := 9) (v := ?_) rfl (by kernel_rfl) (by kernel_rfl) (by kernel_rfl) (fun _ _ _ h => h) (Or.inl ⟨by rfl, ?_⟩) (by assumption) ?_; rotate_left; (focus (intro wS hSw; (try dsimp only at hSw); go_simp <;> with_reducible rfl)); (try simp only [Act.put, List.getElem_toArray, List.getElem_cons_succ, List.getElem_cons_zero, List.setIfInBounds_toArray, List.set_cons_zero, List.set_cons_succ])
      refine wpAnyH_done (by kernel_rfl) ?_ _
      (try simp only [Act.put, List.getElem_toArray, List.getElem_cons_succ, List.getElem_cons_zero, List.setIfInBounds_toArray, List.set_cons_zero, List.set_cons_succ])
      go_wp2
      go_roundw
      case rel => exact ⟨j + 1, by omega, by go_num, HG3⟩
      case measure => simp [intOf]; omega
    · have hjn : j = n := by omega
      subst hjn
      go_wp2
      go_ret
      exact ⟨rfl, HG.out⟩

set_option maxRecDepth 20000 in
set_option maxHeartbeats 1000000 in
theorem markSS (w : World) (B : Nat) (v : Value) (Vs : List SV) (T : List (List Int)) (m : Nat) (hv : SS w B v Vs T) (hm : m + tot T ≤ 4000000000000000000) (hB : B ≤ w.heap.size) :
    Calls Try.prog 12 #[v, .int .i64 m] w fun e w' => e = .returned (.int .i64 ((m + tot T : Nat) : Int)) ∧ SS w' B v Vs (markT m T) ∧ Below B w w' := by
  obtain ⟨va, vc, hve, _⟩ := hv.out.sees
  subst hve
  have hmax := hv.out.sees.len
  have hlt := hv.len
  obtain ⟨n, hn⟩ : ∃ n, n = Vs.length := ⟨_, rfl⟩
  have HV0 : Hid (SS w B (.slice va n vc) Vs ((markT m T).take 0 ++ T.drop 0)) := by rw [hn, List.take_zero, List.nil_append, List.drop_zero]; exact hv
  rw [← hn] at hmax hlt ⊢
  have HN := Lib.hid hn
  have HT := Lib.hid hlt
  clear hv hn
  go_enter Try.func12, Try.ntmps12
  go_wp2
  go_loopw [1, 5] (fun k i wr => ∃ j : Nat, j ≤ n ∧ i = .int .i64 j ∧ k = .int .i64 ((m + tot (T.take j) : Nat) : Int) ∧ Hid (SS wr B (.slice va n vc) Vs ((markT m T).take j ++ T.drop j)) ∧ Hid (Below B w wr ∧ B ≤ wr.heap.size)) (fun _ i _ => n - (intOf i).toNat)
  case atStart => exact ⟨0, Nat.zero_le _, rfl, by simp [tot], HV0, Below.refl _ _, hB⟩
  case round =>
    obtain ⟨j, hj, rfl, rfl, HS, HB⟩ := hrel
    obtain ⟨q, hq⟩ : ∃ q, q = m + tot (T.take j) := ⟨_, rfl⟩
    rw [← hq]
    have HQ := Lib.hid hq
    clear hq
    by_cases hlt2 : j < n
    · have hji : (j : Int) < (n : Int) := by omega
      have hj0 : (0 : Int) ≤ (j : Int) := by omega
      have h1 : j < Vs.length := by rw [← HN.out]; exact hlt2
      have h2 : j < T.length := by rw [HT.out]; exact hlt2
      obtain ⟨b, o, rfl, hcv⟩ := HS.out.at h1
      have hin := HS.out.inn j h1
      rw [mix_at h2] at hin
      have hle := tot_le T (j + 1)
      have hnx := tot_take h2
      obtain ⟨x, hx⟩ : ∃ x, x = Vs.getD j dV := ⟨_, rfl⟩
      obtain ⟨L, hL⟩ : ∃ L, L = T.getD j [] := ⟨_, rfl⟩
      rw [← hx] at hcv hin
      rw [← hL] at hin hnx
      have hqm : q + L.length ≤ 4000000000000000000 := by have := HQ.out; omega
      have hk : (m + tot (T.take (j + 1)) : Nat) = q + L.length := by have := HQ.out; omega
      have HK := Lib.hid hk
      have HI := Lib.hid hin
      have HX := Lib.hid hx
      have HL := Lib.hid hL
      obtain ⟨xa, xn, xc⟩ := x
      dsimp only [sv] at hcv HI
      clear hx hL hin hnx hle hk
      go_wp2_with fail
      refine (LawsI.mark_any wr B _ L q HI.out hqm).mono ?_
      rintro e w3 ⟨rfl, ho, hg⟩
      have hput := HS.out.put h1 (L := LawsI.marksI q L.length) (by rw [← HX.out]; exact ho) (by rw [← HX.out]; exact hg)
      rw [HQ.out, HL.out, mix_set h2] at hput
      have HP := Lib.hid hput
      have HB3 : Hid (Below B w w3 ∧ B ≤ w3.heap.size) := ⟨HB.out.1.grown hg HB.out.2 (fun c hc => (HI.out.lt c hc).1), Nat.le_trans HB.out.2 hg.size⟩
      clear ho hg hput
      go_wp2
      go_roundw
      case rel => exact ⟨j + 1, by omega, by go_num, by rw [HK.out, Int.natCast_add], HP, HB3⟩
      case measure => simp [intOf]; omega
    · have hjn : j = n := by omega
      subst hjn
      have hfin := HS.out
      rw [← HT.out, List.drop_length, List.append_nil, show (markT m T).take T.length = markT m T by rw [← markT_len m T, List.take_length]] at hfin
      have HF := Lib.hid hfin
      have HE : Hid (q = m + tot T) := by show _ = _; rw [HQ.out, ← HT.out, List.take_length]
      clear hfin
      go_wp2
      go_ret
      exact ⟨ret_i64 (by rw [HE.out]), by rw [← HT.out]; exact HF.out, HB.out.1⟩

set_option maxRecDepth 20000 in
set_option maxHeartbeats 1000000 in
theorem heldSS (w : World) (B : Nat) (v : Value) (Vs : List SV) (T : List (List Int)) (m : Nat) (hv : SS w B v Vs (markT m T)) (hm : m + tot T ≤ 4000000000000000000) :
    Calls Try.prog 13 #[v, .int .i64 m] w fun e w' => e = .returned (.int .i64 ((m + tot T : Nat) : Int)) ∧ w.grownBy w' none := by
  obtain ⟨va, vc, hve, _⟩ := hv.out.sees
  subst hve
  have hmax := hv.out.sees.len
  have hlt := hv.len
  rw [markT_len] at hlt
  obtain ⟨n, hn⟩ : ∃ n, n = Vs.length := ⟨_, rfl⟩
  have HV0 : Hid (SS w B (.slice va n vc) Vs (markT m T)) := by rw [hn]; exact hv
  rw [← hn] at hmax hlt ⊢
  have HN := Lib.hid hn
  have HT := Lib.hid hlt
  clear hv hn
  go_enter Try.func13, Try.ntmps13
  go_wp2
  go_loopw [1, 5] (fun k i wr => ∃ j : Nat, j ≤ n ∧ i = .int .i64 j ∧ k = .int .i64 ((m + tot (T.take j) : Nat) : Int) ∧ Hid (w.grownBy wr none)) (fun _ i _ => n - (intOf i).toNat)
  case atStart => exact ⟨0, Nat.zero_le _, rfl, by simp [tot], World.grownBy.refl _ _⟩
  case round =>
    obtain ⟨j, hj, rfl, rfl, HG⟩ := hrel
    obtain ⟨q, hq⟩ : ∃ q, q = m + tot (T.take j) := ⟨_, rfl⟩
    rw [← hq]
    have HQ := Lib.hid hq
    clear hq
    by_cases hlt2 : j < n
    · have hji : (j : Int) < (n : Int) := by omega
      have hj0 : (0 : Int) ≤ (j : Int) := by omega
      have h1 : j < Vs.length := by rw [← HN.out]; exact hlt2
      have h2 : j < T.length := by rw [HT.out]; exact hlt2
      have HS := Lib.hid (HV0.out.grown HG.out)
      obtain ⟨b, o, rfl, hcv⟩ := HS.out.at h1
      have hin := (HS.out.inn j h1).sees
      rw [markT_at h2, ← HQ.out] at hin
      have hle := tot_le T (j + 1)
      have hnx := tot_take h2
      obtain ⟨x, hx⟩ : ∃ x, x = Vs.getD j dV := ⟨_, rfl⟩
      obtain ⟨l, hl⟩ : ∃ l, l = (T.getD j []).length := ⟨_, rfl⟩
      rw [← hx] at hcv hin
      rw [← hl] at hin hnx
      have hqm : q + l ≤ 4000000000000000000 := by have := HQ.out; omega
      have hk : (m + tot (T.take (j + 1)) : Nat) = q + l := by have := HQ.out; omega
      have HK := Lib.hid hk
      have HI := Lib.hid hin
      obtain ⟨xa, xn, xc⟩ := x
      dsimp only [sv] at hcv HI
      have hkn : ¬ ((q + l : Nat) : Int) < 0 := by omega
      clear hx hl hin hnx hle hk
      go_wp2_with fail
      refine (LawsI.held_any wr _ q l HI.out hqm).mono ?_
      rintro e w3 ⟨rfl, hg⟩
      have HG3 := Lib.hid (grownN_trans HG.out hg)
      clear hg
      go_wp2
      go_roundw
      case rel => exact ⟨j + 1, by omega, by go_num, by rw [HK.out, Int.natCast_add], HG3⟩
      case measure => simp [intOf]; omega
    · have hjn : j = n := by omega
      subst hjn
      have HE : Hid (q = m + tot T) := by show _ = _; rw [HQ.out, ← HT.out, List.take_length]
      go_wp2
      go_ret
      exact ⟨ret_i64 (by rw [HE.out]), HG.out⟩
end Go.Proofs.Ytedijkkbphbnoaa.Rop
