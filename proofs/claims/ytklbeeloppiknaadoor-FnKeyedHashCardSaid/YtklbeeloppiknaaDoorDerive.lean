/- DeriveFromString of the program and of the model. Where the package's error holds what its initialiser lays. -/
import Derived.Test.YtklbeeloppiknaaDoorNoKey
import Derived.Test.YtklbeeloppiknaaDoorConv
namespace Go.Proofs.YtklbeeloppiknaaDoor.Ky
open Go.RowKit Kit Rw Hs Md Bti

/-- The derived key. -/
def dv (k : Int) (s : ByteArray) : Int := if kh k (bti (bytesOf s)) = 0 then 1 else kh k (bti (bytesOf s))
theorem dv_in (k : Int) (s : ByteArray) : 1 ≤ dv k s ∧ dv k s ≤ 2147483646 := by
  have := kh_in k (bti (bytesOf s))
  unfold InM at this
  unfold dv; split <;> omega

theorem fault_yes' (k : Int) (w : World) (h : 1 ≤ k ∧ k ≤ 2147483646) :
    Calls Tryd.prog 23 #[.int .i64 k] w fun e w' => e = .returned .nilIface ∧ w' = w := (fault_yes k w h).mono fun _ _ ⟨a, b⟩ => ⟨a, b.symm⟩
theorem fault_no' (k : Int) (w : World) (a : Addr) (hs : Sent a w) (h : ¬ (1 ≤ k ∧ k ≤ 2147483646)) :
    Calls Tryd.prog 23 #[.int .i64 k] w fun e w' => e = .returned (.iface 71 (.pointer (some a))) ∧ w' = w := (fault_no k w a hs h).mono fun _ _ ⟨a, b⟩ => ⟨a, b.symm⟩

set_option maxHeartbeats 400000 in
theorem derive_any (w : World) (k : Int) (s : ByteArray) (a : Addr) (hk : (Lit.int .i64 k).wf = true) (hs : s.size ≤ 1000000000000) (hse : Sent a w) :
    Calls Tryd.prog 14 #[.int .i64 k, .string s] w fun e w' => e = .returned (.int .i64 (dv k s)) ∧ w.grownBy w' none := by
  obtain ⟨v, W, hcv, hv, hg⟩ := conv_bytes (P := Tryd.prog) w 9 22 5 s Tryd.underlying9 Tryd.underlying22 Tryd.underlying5 (by unfold maxLen; omega)
  have HV := Lib.hid hv
  have HG := Lib.hid hg
  have HK := Lib.hid hk
  have HS := Lib.hid hse
  have HI := Lib.hid (kh_in k (bti (bytesOf s)))
  clear hv hg hk hse
  go_enter Tryd.func14, Tryd.ntmps14
  go_wp2_with fail
  refine (bti_any W v (bytesOf s) HV.out (by rw [bytesOf_len]; omega)).mono ?_
  rintro e w1 ⟨u, rfl, ho, hg⟩
  have HO := Lib.hid ho
  have HG1 := Lib.hid (grownN_trans HG.out hg)
  clear ho hg
  go_wp2_with fail
  refine (keyed_any w1 k u (bti (bytesOf s)) HK.out HO.out.sees).mono ?_
  rintro e w2 ⟨rfl, hg⟩
  have HG2 := Lib.hid (grownN_trans HG1.out hg)
  have hse : w2.cell? ⟨0, 0, none⟩ = some (.iface 71 (.pointer (some a))) := HS.out.on HG2.out
  have HS2 : Hid (Sent a w2) := hse
  clear hg
  obtain ⟨y, hy⟩ : ∃ y, y = kh k (bti (bytesOf s)) := ⟨_, rfl⟩
  have HY := Lib.hid hy
  rw [← hy] at HI ⊢
  clear hy
  have HD : Hid (dv k s = if y = 0 then 1 else y) := by show _ = _; rw [HY.out]; rfl
  by_cases h0 : 0 < y
  · have h1 : 1 ≤ y ∧ y ≤ 2147483646 := ⟨by omega, HI.out.2⟩
    have H1 := Lib.hid h1
    clear h1
    go_wp2
    go_quiet ((first
      | (go_at_call 23; exact Calls.quiet_of_same (fault_yes' _ _ H1.out))
      | (go_at_call 25; exact Calls.quiet_of_same (is_nil _ _))))
    go_wp2
    go_ret
    rw [HD.out, if_neg (by omega)]
    exact ⟨rfl, grown_drewN HG2.out _⟩
  · have h1 : y = 0 := by have := HI.out.1; omega
    have H1 := Lib.hid h1
    have H2 : Hid (¬ (1 ≤ y ∧ y ≤ 2147483646)) := by show ¬ _; omega
    clear h1
    go_wp2
    go_quiet ((first
      | (go_at_call 23; exact Calls.quiet_of_same (fault_no' _ _ a (by assumption) H2.out))
      | (go_at_call 25; exact Calls.quiet_of_same (is_same _ _))))
    go_wp2
    go_ret
    rw [HD.out, if_pos H1.out]
    exact ⟨rfl, grown_drewN HG2.out _⟩

theorem max_any (a b : Int) (w : World) :
    Calls Tryd.prog 26 #[.int .i64 a, .int .i64 b] w fun e w' => e = .returned (.int .i64 (if a < b then b else a)) ∧ w = w' := by
  by_cases h : a < b
  · rw [if_pos h]
    go_enter Tryd.func26, Tryd.ntmps26
    go_wp2
    all_goals (go_ret; exact ⟨ret_i64 (by omega), rfl⟩)
  · rw [if_neg h]
    go_enter Tryd.func26, Tryd.ntmps26
    go_wp2
    all_goals (go_ret; exact ⟨ret_i64 (by omega), rfl⟩)

set_option maxHeartbeats 400000 in
theorem sDerive_any (w : World) (k : Int) (s : ByteArray) (hk : (Lit.int .i64 k).wf = true) (hs : s.size ≤ 1000000000) :
    Calls Tryd.prog 16 #[.int .i64 k, .string s] w fun e w' => e = .returned (.int .i64 (dv k s)) ∧ w.grownBy w' none := by
  obtain ⟨v, W, hcv, hv, hg⟩ := conv_bytes (P := Tryd.prog) w 9 22 5 s Tryd.underlying9 Tryd.underlying22 Tryd.underlying5 (by unfold maxLen; omega)
  have HV := Lib.hid hv
  have HG := Lib.hid hg
  have HK := Lib.hid hk
  have HI := Lib.hid (kh_in k (bti (bytesOf s)))
  clear hv hg hk
  go_enter Tryd.func16, Tryd.ntmps16
  go_wp2_with fail
  refine (sBti_any W v (bytesOf s) HV.out (by rw [bytesOf_len]; omega)).mono ?_
  rintro e w1 ⟨u, rfl, ho, hg⟩
  have HO := Lib.hid ho
  have HG1 := Lib.hid (grownN_trans HG.out hg)
  clear ho hg
  go_wp2_with fail
  refine (sKeyed_any w1 k u (bti (bytesOf s)) HK.out HO.out.sees (by rw [bti_len, bytesOf_len]; omega)).mono ?_
  rintro e w2 ⟨rfl, hg⟩
  have HG2 := Lib.hid (grownN_trans HG1.out hg)
  clear hg
  go_wp2_with fail
  refine (max_any 1 _ _).mono ?_
  rintro e w3 ⟨rfl, rfl⟩
  have HD : Hid ((if 1 < kh k (bti (bytesOf s)) then kh k (bti (bytesOf s)) else 1) = dv k s) := by
    show _ = _
    have := HI.out.1
    unfold dv
    split <;> split <;> omega
  rw [HD.out]
  go_wp2
  go_ret
  exact ⟨rfl, HG2.out⟩
end Go.Proofs.YtklbeeloppiknaaDoor.Ky
