/- Contracts of the gap between watches, of the program and of its model. -/
import Derived.Test.YtfdadeiemfmgkaaWatJ
import Derived.Test.YtfdadeiemfmgkaaWatT
import Derived.Test.YtfdadeiemfmgkaaMBase
namespace Go.Proofs.Ytfdadeiemfmgkaa.WatK
open Go.RowKit Kit Rw Rg Crw Wat

def lo (f : Int → Int) (H : List Int) : Nat → Int
  | 0 => f (H.getD 0 0)
  | j + 1 => if f (H.getD j 0) < lo f H j then f (H.getD j 0) else lo f H j
def hi (f : Int → Int) (H : List Int) : Nat → Int
  | 0 => f (H.getD 0 0)
  | j + 1 => if hi f H j < f (H.getD j 0) then f (H.getD j 0) else hi f H j
theorem lo_one (f : Int → Int) (H : List Int) : lo f H 1 = f (H.getD 0 0) := by simp [lo]
theorem hi_one (f : Int → Int) (H : List Int) : hi f H 1 = f (H.getD 0 0) := by simp [hi]
theorem lo_bd {f : Int → Int} (hf : ∀ x, 0 ≤ f x ∧ f x ≤ 1000) (H : List Int) : ∀ j, 0 ≤ lo f H j ∧ lo f H j ≤ 1000
  | 0 => hf _
  | j + 1 => by have h1 := lo_bd hf H j; have h2 := hf (H.getD j 0); simp only [lo]; split <;> omega
theorem hi_bd {f : Int → Int} (hf : ∀ x, 0 ≤ f x ∧ f x ≤ 1000) (H : List Int) : ∀ j, 0 ≤ hi f H j ∧ hi f H j ≤ 1000
  | 0 => hf _
  | j + 1 => by have h1 := hi_bd hf H j; have h2 := hf (H.getD j 0); simp only [hi]; split <;> omega
theorem lo_zero {f : Int → Int} (hf : ∀ x, f x = 0) (H : List Int) : ∀ j, lo f H j = 0
  | 0 => hf _
  | j + 1 => by simp only [lo]; rw [lo_zero hf H j, hf]; rfl
theorem hi_zero {f : Int → Int} (hf : ∀ x, f x = 0) (H : List Int) : ∀ j, hi f H j = 0
  | 0 => hf _
  | j + 1 => by simp only [hi]; rw [hi_zero hf H j, hf]; rfl
def gap (L : List Mem) (frm k : Int) : Int := if ring L = [] then 0 else hi (fun id => hours (ring L) id frm k) (ring L) (ring L).length - lo (fun id => hours (ring L) id frm k) (ring L) (ring L).length
theorem none_hours {L : List Mem} (h : ring L = []) (id frm k : Int) : hours (ring L) id frm k = 0 := by
  unfold hours
  split
  · rename_i hq
    exact cnt_none (fun t => by rw [h]; exact fun e => hq.2.2 e.symm) _
  · rfl

theorem sMin_any (a b : Int) (w : World) :
    Calls Try.prog 67 #[.int .i64 a, .int .i64 b] w fun e w' => e = .returned (.int .i64 (if b < a then b else a)) ∧ w = w' := by
  by_cases h : b < a
  · rw [if_pos h]
    go_enter Try.func67, Try.ntmps67
    go_wp2
    go_ret
    exact ⟨rfl, rfl⟩
  · rw [if_neg h]
    go_enter Try.func67, Try.ntmps67
    go_wp2
    go_ret
    exact ⟨rfl, rfl⟩
theorem sMax_any (a b : Int) (w : World) :
    Calls Try.prog 68 #[.int .i64 a, .int .i64 b] w fun e w' => e = .returned (.int .i64 (if a < b then b else a)) ∧ w = w' := by
  by_cases h : a < b
  · rw [if_pos h]
    go_enter Try.func68, Try.ntmps68
    go_wp2
    go_ret
    exact ⟨rfl, rfl⟩
  · rw [if_neg h]
    go_enter Try.func68, Try.ntmps68
    go_wp2
    go_ret
    exact ⟨rfl, rfl⟩

set_option maxRecDepth 20000 in
set_option maxHeartbeats 1000000 in
theorem sGap_any (w : World) (v : Value) (L : List Mem) (frm k : Int) (hf : -9223372036854775808 ≤ frm ∧ frm ≤ 9223372036854775807) (hk : -9223372036854775808 ≤ k ∧ k ≤ 9223372036854775807) (hv : SeesG encM w v L) (hn : L.length ≤ 1000000000) :
    Calls Try.prog 27 #[v, .int .i64 frm, .int .i64 k] w fun e w' => e = .returned (.int .i64 (gap L frm k)) ∧ w.grownBy w' none := by
  have HH := Lib.hid (CrH.sHealthy_any w v L hv hn)
  have HS := Lib.hid (fun (w' : World) (hg : w.grownBy w' none) (id : Int) hid => WatS.sHours_any w' v L id frm k hid hf hk (hv.grown hg) hn)
  have HR0 : Hid (gap L frm k = if healthy L = [] then 0 else hi (fun id => hours (ring L) id frm k) (healthy L) (healthy L).length - lo (fun id => hours (ring L) id frm k) (healthy L) (healthy L).length) := by
    show _ = _
    unfold gap
    by_cases hc : areCrew L = true
    · have e : ring L = healthy L := by unfold ring; rw [if_pos hc]
      rw [e]
    · have e : ring L = [] := by unfold ring; rw [if_neg hc]
      rw [if_pos e]
      split
      · rfl
      · rw [hi_zero (fun id => none_hours e id frm k), lo_zero (fun id => none_hours e id frm k)]; rfl
  clear hv
  go_enter Try.func27, Try.ntmps27
  go_wp2_with fail
  refine HH.out.mono ?_
  rintro e w2 ⟨u, rfl, ho, hg⟩
  have HG := Lib.hid hg
  have HO := Lib.hid ho.sees
  have HWF := Lib.hid ho.sees.wf
  have hlu := ho.sees.len
  clear ho hg
  obtain ⟨a, n, cap, rfl, HN⟩ := HO.out.shape
  rw [HN.out] at hlu
  obtain ⟨H, hH⟩ : ∃ H, H = healthy L := ⟨_, rfl⟩
  rw [← hH] at HO HN HWF HR0
  obtain ⟨f, hff⟩ : ∃ f : Int → Int, f = fun id => hours (ring L) id frm k := ⟨_, rfl⟩
  have hfb : ∀ x, 0 ≤ f x ∧ f x ≤ 1000 := fun x => by rw [hff]; exact hours_bd _ _ _ _
  have HFB := Lib.hid hfb
  have HF : Hid (∀ (w' : World) (_ : w.grownBy w' none) (id : Int) (_ : (Lit.int .i64 id).wf = true), Calls Try.prog 25 #[v, .int .i64 id, .int .i64 frm, .int .i64 k] w' fun e w'' => e = .returned (.int .i64 (f id)) ∧ w'.grownBy w'' none) := by rw [hff]; exact HS.out
  rw [← hff] at HR0
  clear hH hff HS hfb
  by_cases h0 : n = 0
  · subst h0
    have HR : Hid (gap L frm k = 0) := by show _ = _; rw [HR0.out, if_pos (List.eq_nil_of_length_eq_zero HN.out)]
    go_wp2
    go_ret
    exact ⟨ret_i64 HR.out.symm, HG.out⟩
  · have hne : H ≠ [] := fun e => h0 (by rw [← HN.out, e]; rfl)
    have HR : Hid (gap L frm k = hi f H n - lo f H n) := by show _ = _; rw [HR0.out, if_neg hne, HN.out]
    have hn0 : 0 < n := by omega
    have hb0 : ((n : Int) == 0) = false := by simp; omega
    obtain ⟨b, o, rfl, hc0⟩ := HO.out.at_row (j := 0) (by rw [HN.out]; exact hn0)
    obtain ⟨x, hx⟩ : ∃ x, x = H.getD 0 0 := ⟨_, rfl⟩
    have hxw : (Lit.int .i64 x).wf = true := by rw [hx]; exact HWF.out _ (mem_getD (by rw [HN.out]; exact hn0))
    rw [← hx, Nat.add_zero] at hc0
    have hl1 : lo f H 1 = f x := by rw [lo_one, hx]
    have hh1 : hi f H 1 = f x := by rw [hi_one, hx]
    have HW1 := Lib.hid (HF.out w2 HG.out x hxw)
    have HL1 := Lib.hid hl1
    have HH1 := Lib.hid hh1
    clear hx hne h0 hl1 hh1 hxw
    go_wp2_with (go_at_call 25; refine HW1.out.mono ?_; rintro e w3 ⟨rfl, hg⟩; have HG3 := Lib.hid (grownN_trans HG.out hg); have HO3 := Lib.hid (HO.out.grown hg); clear hg)
    go_loopw [8, 9, 10] (fun l h i wr => ∃ j : Nat, 1 ≤ j ∧ j ≤ n ∧ i = .int .i64 j ∧ l = .int .i64 (lo f H j) ∧ h = .int .i64 (hi f H j) ∧ Hid (w.grownBy wr none) ∧ Hid (Sees .i64 wr (.slice (some ⟨b, o, none⟩) n cap) H)) (fun _ _ i _ => n - (intOf i).toNat)
    case atStart => exact ⟨1, by omega, by omega, rfl, by rw [HL1.out], by rw [HH1.out], HG3, HO3⟩
    case round =>
      obtain ⟨j, hj1, hj, rfl, rfl, rfl, HGR, HOR⟩ := hrel
      have hlb := lo_bd HFB.out H j
      have hhb := hi_bd HFB.out H j
      obtain ⟨p, hp⟩ : ∃ p, p = lo f H j := ⟨_, rfl⟩
      obtain ⟨q, hq⟩ : ∃ q, q = hi f H j := ⟨_, rfl⟩
      rw [← hp] at hlb ⊢
      rw [← hq] at hhb ⊢
      have HP := Lib.hid hp
      have HQ := Lib.hid hq
      clear hp hq
      by_cases hlt : j < n
      · have hcj := HOR.out.at' (j := j) (by rw [HN.out]; exact hlt)
        obtain ⟨y, hy⟩ : ∃ y, y = H.getD j 0 := ⟨_, rfl⟩
        have hyw : (Lit.int .i64 y).wf = true := by rw [hy]; exact HWF.out _ (mem_getD (by rw [HN.out]; exact hlt))
        rw [← hy] at hcj
        have HWJ := Lib.hid (HF.out _ HGR.out y hyw)
        have HX1 : Hid (lo f H (j + 1) = if f y < p then f y else p) := by show _ = _; simp only [lo]; rw [← hy, ← HP.out]
        have HX2 : Hid (hi f H (j + 1) = if q < f y then f y else q) := by show _ = _; simp only [hi]; rw [← hy, ← HQ.out]
        have HM1 := Lib.hid (fun w => sMin_any p (f y) w)
        have HM2 := Lib.hid (fun w => sMax_any q (f y) w)
        obtain ⟨m1, hm1⟩ : ∃ m1, m1 = if f y < p then f y else p := ⟨_, rfl⟩
        obtain ⟨m2, hm2⟩ : ∃ m2, m2 = if q < f y then f y else q := ⟨_, rfl⟩
        rw [← hm1] at HM1 HX1
        rw [← hm2] at HM2 HX2
        clear hm1 hm2 hyw hy
        go_wp2_with (first | (go_at_call 25; refine HWJ.out.mono ?_; rintro e w4 ⟨rfl, hg⟩; have HG4 := Lib.hid (grownN_trans HGR.out hg); have HO4 := Lib.hid (HOR.out.grown hg); clear hg) | (go_at_call 67; refine (HM1.out _).mono ?_; rintro e w5 ⟨rfl, rfl⟩) | (go_at_call 68; refine (HM2.out _).mono ?_; rintro e w5 ⟨rfl, rfl⟩))
        go_roundw
        case rel => exact ⟨j + 1, by omega, by omega, by go_num, by rw [HX1.out], by rw [HX2.out], HG4, HO4⟩
        case measure => simp [intOf]; omega
      · have : j = n := by omega
        subst this
        go_wp2
        go_ret
        exact ⟨ret_i64 (by rw [HR.out, HP.out, HQ.out]), HGR.out⟩

theorem lo_map {f : Int → Int} {H : List Int} (h : H ≠ []) : ∀ j, j ≤ H.length → lo (fun x => x) (H.map f) j = lo f H j
  | 0, _ => by cases H with
    | nil => exact absurd rfl h
    | cons a t => simp [lo]
  | j + 1, hj => by
    have e : (H.map f).getD j 0 = f (H.getD j 0) := by simp [show j < H.length by omega]
    simp only [lo]; rw [e, lo_map h j (by omega)]
theorem hi_map {f : Int → Int} {H : List Int} (h : H ≠ []) : ∀ j, j ≤ H.length → hi (fun x => x) (H.map f) j = hi f H j
  | 0, _ => by cases H with
    | nil => exact absurd rfl h
    | cons a t => simp [hi]
  | j + 1, hj => by
    have e : (H.map f).getD j 0 = f (H.getD j 0) := by simp [show j < H.length by omega]
    simp only [hi]; rw [e, hi_map h j (by omega)]
theorem apart_on {E : TypeId} {w : World} {B : Nat} {r u v : Value} {H : List Int} (ha : r.ownBlock = none ∨ r.ownBlock ≠ u.ownBlock) (ho : Own .i64 E w B r H) (hv : v.ownBlock = u.ownBlock ∨ ∃ g, v.ownBlock = some g ∧ w.heap.size ≤ g) : r.ownBlock = none ∨ r.ownBlock ≠ v.ownBlock := by
  rcases hv with h | ⟨g, h, hg⟩
  · rw [h]; exact ha
  · right
    intro e
    rw [h] at e
    have := (ho.lt g e).2
    omega
theorem info_int : (Try.prog.info? 3).map (fun i => (i.zero, i.size, i.bytes)) = some (some (.int .i64 0), 1, 8) := by kernel_rfl

set_option maxRecDepth 20000 in
set_option maxHeartbeats 1000000 in
theorem libMax_any (w : World) (u : Value) (C : List Int) (hu : Sees .i64 w u C) (hne : C ≠ []) (hc : ∀ x ∈ C, 0 ≤ x ∧ x ≤ 1000) :
    Calls Try.prog 69 #[u] w fun e w' => e = .returned (.int .i64 (hi (fun x => x) C C.length)) ∧ w = w' := by
  have hl := hu.len
  obtain ⟨a, n, cap, rfl, HN⟩ := hu.shape
  have HU := Lib.hid hu
  rw [HN.out] at hl
  have hn0 : 0 < n := by
    rw [← HN.out]; exact List.length_pos_iff.2 hne
  have hn1 : ¬ ((n : Int) < 1) := by omega
  obtain ⟨b, o, rfl, hc0⟩ := hu.at_row (j := 0) (by rw [HN.out]; exact hn0)
  rw [Nat.add_zero] at hc0
  have h1 : hi (fun x => x) C 1 = C.getD 0 0 := hi_one _ _
  obtain ⟨x, hx⟩ : ∃ x, x = C.getD 0 0 := ⟨_, rfl⟩
  rw [← hx] at hc0 h1
  have HX := Lib.hid h1
  have HC := Lib.hid hc
  clear hu hx h1 hc
  go_enter Try.func69, Try.ntmps69
  go_wp2
  go_loop [3, 4] (fun m i => ∃ j : Nat, 1 ≤ j ∧ j ≤ n ∧ i = .int .i64 j ∧ m = .int .i64 (hi (fun x => x) C j)) (fun _ i => n - (intOf i).toNat)
  case atStart => exact ⟨1, by omega, by omega, rfl, by rw [HX.out]⟩
  case round =>
    obtain ⟨j, hj1, hj, rfl, rfl⟩ := hrel
    obtain ⟨p, hp⟩ : ∃ p, p = hi (fun x => x) C j := ⟨_, rfl⟩
    rw [← hp]
    have HP := Lib.hid hp
    clear hp
    by_cases hlt : j < n
    · have hcj := HU.out.at' (j := j) (by rw [HN.out]; exact hlt)
      obtain ⟨y, hy⟩ : ∃ y, y = C.getD j 0 := ⟨_, rfl⟩
      rw [← hy] at hcj
      have HN1 : Hid (hi (fun x => x) C (j + 1) = if p < y then y else p) := by show _ = _; simp only [hi]; rw [← hy, ← HP.out]
      clear hy
      by_cases hq : p < y
      · rw [if_pos hq] at HN1
        go_wp2
        go_round
        case rel => exact ⟨j + 1, by omega, by omega, by go_num, by rw [HN1.out]⟩
        case measure => simp [intOf]; omega
      · rw [if_neg hq] at HN1
        go_wp2
        go_round
        case rel => exact ⟨j + 1, by omega, by omega, by go_num, by rw [HN1.out]⟩
        case measure => simp [intOf]; omega
    · have : j = n := by omega
      subst this
      go_wp2
      go_ret
      exact ⟨ret_i64 (by rw [HN.out, HP.out]), rfl⟩

set_option maxRecDepth 20000 in
set_option maxHeartbeats 1000000 in
theorem libMin_any (w : World) (u : Value) (C : List Int) (hu : Sees .i64 w u C) (hne : C ≠ []) (hc : ∀ x ∈ C, 0 ≤ x ∧ x ≤ 1000) :
    Calls Try.prog 70 #[u] w fun e w' => e = .returned (.int .i64 (lo (fun x => x) C C.length)) ∧ w = w' := by
  have hl := hu.len
  obtain ⟨a, n, cap, rfl, HN⟩ := hu.shape
  have HU := Lib.hid hu
  rw [HN.out] at hl
  have hn0 : 0 < n := by
    rw [← HN.out]; exact List.length_pos_iff.2 hne
  have hn1 : ¬ ((n : Int) < 1) := by omega
  obtain ⟨b, o, rfl, hc0⟩ := hu.at_row (j := 0) (by rw [HN.out]; exact hn0)
  rw [Nat.add_zero] at hc0
  have h1 : lo (fun x => x) C 1 = C.getD 0 0 := lo_one _ _
  obtain ⟨x, hx⟩ : ∃ x, x = C.getD 0 0 := ⟨_, rfl⟩
  rw [← hx] at hc0 h1
  have HX := Lib.hid h1
  have HC := Lib.hid hc
  clear hu hx h1 hc
  go_enter Try.func70, Try.ntmps70
  go_wp2
  go_loop [3, 4] (fun m i => ∃ j : Nat, 1 ≤ j ∧ j ≤ n ∧ i = .int .i64 j ∧ m = .int .i64 (lo (fun x => x) C j)) (fun _ i => n - (intOf i).toNat)
  case atStart => exact ⟨1, by omega, by omega, rfl, by rw [HX.out]⟩
  case round =>
    obtain ⟨j, hj1, hj, rfl, rfl⟩ := hrel
    obtain ⟨p, hp⟩ : ∃ p, p = lo (fun x => x) C j := ⟨_, rfl⟩
    rw [← hp]
    have HP := Lib.hid hp
    clear hp
    by_cases hlt : j < n
    · have hcj := HU.out.at' (j := j) (by rw [HN.out]; exact hlt)
      obtain ⟨y, hy⟩ : ∃ y, y = C.getD j 0 := ⟨_, rfl⟩
      rw [← hy] at hcj
      have HN1 : Hid (lo (fun x => x) C (j + 1) = if y < p then y else p) := by show _ = _; simp only [lo]; rw [← hy, ← HP.out]
      clear hy
      by_cases hq : y < p
      · rw [if_pos hq] at HN1
        go_wp2
        go_round
        case rel => exact ⟨j + 1, by omega, by omega, by go_num, by rw [HN1.out]⟩
        case measure => simp [intOf]; omega
      · rw [if_neg hq] at HN1
        go_wp2
        go_round
        case rel => exact ⟨j + 1, by omega, by omega, by go_num, by rw [HN1.out]⟩
        case measure => simp [intOf]; omega
    · have : j = n := by omega
      subst this
      go_wp2
      go_ret
      exact ⟨ret_i64 (by rw [HN.out, HP.out]), rfl⟩

set_option maxRecDepth 20000 in
set_option maxHeartbeats 1000000 in
theorem iGap_any (w : World) (v : Value) (L : List Mem) (frm k : Int) (hf : -9223372036854775808 ≤ frm ∧ frm ≤ 9223372036854775807) (hk : -9223372036854775808 ≤ k ∧ k ≤ 9223372036854775807) (hv : SeesG encM w v L) (hn : L.length ≤ 1000000000) :
    Calls Try.prog 28 #[v, .int .i64 frm, .int .i64 k] w fun e w' => e = .returned (.int .i64 (gap L frm k)) ∧ w.grownBy w' none := by
  obtain ⟨i0, hi0, hz0, hz1, hz2⟩ := info_parts info_int
  have hgb := World.grownBy_alloc w (.cells #[] 3 (0, 0)) (none : Option Nat)
  have HH := Lib.hid (WatI.ring_any _ v L (hv.grown hgb) hn)
  have HS := Lib.hid (fun (w' : World) (hg : w.grownBy w' none) (id : Int) => WatI.iHours_any w' v L id frm k hf hk (hv.grown hg) hn)
  have HW : Hid (Own .i64 3 (w.alloc (.cells #[] 3 (0, 0))) w.heap.size (.slice (some ⟨w.heap.size, 0, none⟩) 0 0) []) := own_empty w
  have HG := Lib.hid hgb
  clear hv hgb
  go_enter Try.func28, Try.ntmps28
  go_wp2_with fail
  refine HH.out.mono ?_
  rintro e w2 ⟨u, rfl, ho, hg⟩
  have HG2 := Lib.hid (grownN_trans HG.out hg)
  have HW2 := Lib.hid (HW.out.grown hg)
  have HO := Lib.hid ho
  have hap : u.ownBlock = none ∨ u.ownBlock ≠ (Value.slice (some ⟨w.heap.size, 0, none⟩) 0 0).ownBlock := .inr (ho.off (by simp))
  have hlu := ho.sees.len
  have h8 := ring_len L
  clear ho hg HW
  obtain ⟨a, n, cap, rfl, HN⟩ := HO.out.sees.shape
  have HAP := Lib.hid hap
  clear hap
  rw [HN.out] at hlu h8
  have HR0 : Hid (gap L frm k = if ring L = [] then 0 else hi (fun id => hours (ring L) id frm k) (ring L) (ring L).length - lo (fun id => hours (ring L) id frm k) (ring L) (ring L).length) := rfl
  obtain ⟨f, hff⟩ : ∃ f : Int → Int, f = fun id => hours (ring L) id frm k := ⟨_, rfl⟩
  have hfb : ∀ x, 0 ≤ f x ∧ f x ≤ 1000 := fun x => by rw [hff]; exact hours_bd _ _ _ _
  have HFB := Lib.hid hfb
  have HF : Hid (∀ (w' : World) (_ : w.grownBy w' none) (id : Int), Calls Try.prog 26 #[v, .int .i64 id, .int .i64 frm, .int .i64 k] w' fun e w'' => e = .returned (.int .i64 (f id)) ∧ w'.grownBy w'' none) := by rw [hff]; exact HS.out
  rw [← hff] at HR0
  obtain ⟨H, hH⟩ : ∃ H, H = ring L := ⟨_, rfl⟩
  rw [← hH] at HO HN HR0
  clear hH hff HS hfb
  obtain ⟨B, hB⟩ : ∃ B, (w.alloc (.cells #[] 3 (0, 0))).heap.size = B := ⟨_, rfl⟩
  rw [hB] at HO
  clear hB
  have HW0 : Hid (Own .i64 3 w2 w.heap.size (.slice (some ⟨w.heap.size, 0, none⟩) 0 0) ((H.take 0).map f)) := Lib.hid (by simpa using HW2.out)
  go_wp2
  go_loopw [7, 14] (fun u i wr => ∃ j : Nat, j ≤ n ∧ i = .int .i64 j ∧ Hid (Own .i64 3 wr w.heap.size u ((H.take j).map f)) ∧ Hid (Own .i64 3 wr B (.slice a n cap) H) ∧ Hid ((Value.slice a n cap).ownBlock = none ∨ (Value.slice a n cap).ownBlock ≠ u.ownBlock) ∧ Hid (w.grownBy wr none)) (fun _ i _ => n - (intOf i).toNat)
  case atStart => exact ⟨0, Nat.zero_le _, rfl, HW0, HO, HAP, HG2⟩
  case round =>
    obtain ⟨j, hj, rfl, HC, HOR, HA, HGR⟩ := hrel
    by_cases hlt : j < n
    · have hjH : j < H.length := by rw [HN.out]; exact hlt
      obtain ⟨b, o, rfl, hcj⟩ := HOR.out.sees.at_row (j := j) hjH
      obtain ⟨y, hy⟩ : ∃ y, y = H.getD j 0 := ⟨_, rfl⟩
      have hnx : (H.take (j + 1)).map f = (H.take j).map f ++ [f y] := by
        rw [List.take_succ_eq_append_getElem hjH, List.map_append, hy]; simp [hjH]
      rw [← hy] at hcj
      have HNX := Lib.hid hnx
      have hln : ((H.take j).map f).length ≤ 8 := by simp; omega
      have HLN := Lib.hid hln
      have HY := Lib.hid (HFB.out y)
      have HWJ := Lib.hid (HF.out _ HGR.out y)
      obtain ⟨z, hz⟩ : ∃ z, z = f y := ⟨_, rfl⟩
      rw [← hz] at HWJ HY HNX
      clear hy hnx hln hz
      go_wp2_with (first | (go_at_call 26; refine HWJ.out.mono ?_; rintro e w4 ⟨rfl, hg⟩; have HG4 := Lib.hid (grownN_trans HGR.out hg); have HO4 := Lib.hid (HOR.out.grown hg); have HC4 := Lib.hid (HC.out.grown hg); clear hg) | (at_builtin; go_loud (refine wpList_append_one_at _ rfl _ _ 63 rfl w.heap.size 3 i0 (.int .i64 0) 8 Try.underlying63 hi0 hz0 hz1 hz2 rfl .i64 _ ((H.take j).map f) rfl HC4.out z rfl (i64_mk (by have := HY.out; omega)) (by have := HLN.out; omega) (by decide) HG4.out.size ?_); intro v5 w5 hown5 hgrow5 hat5; have HA5 := Lib.hid (apart_on HA.out HO4.out hat5); have HC5 := Lib.hid hown5; have HG5 := Lib.hid (grown_new HG4.out hgrow5 (fun c hc => (HC4.out.lt c hc).1)); have HO5 := Lib.hid (HO4.out.kept hgrow5 HA.out); clear hown5 hgrow5 hat5))
      go_roundw
      case rel => exact ⟨j + 1, by omega, by go_num, by rw [HNX.out]; exact HC5, HO5, HA5, HG5⟩
      case measure => simp [intOf]; omega
    · have hjn : j = n := by omega
      subst hjn
      have hcf := HC.out
      rw [← HN.out, List.take_length] at hcf
      have hsee := hcf.sees
      clear hcf
      have hcl : (H.map f).length = j := by simp [HN.out]
      by_cases h0 : j = 0
      · subst h0
        have hH0 : H = [] := List.eq_nil_of_length_eq_zero HN.out
        have HR : Hid (gap L frm k = 0) := by show _ = _; rw [HR0.out, if_pos hH0]
        obtain ⟨a', n', cap', rfl, HN'⟩ := hsee.shape
        have hn' : n' = 0 := by rw [← HN'.out]; exact hcl
        subst hn'
        clear hsee
        go_wp2
        go_ret
        exact ⟨ret_i64 HR.out.symm, HGR.out⟩
      · have hH0 : H ≠ [] := fun e => h0 (by rw [← HN.out, e]; rfl)
        have hM0 : H.map f ≠ [] := by simpa using hH0
        have hcb : ∀ x ∈ H.map f, 0 ≤ x ∧ x ≤ 1000 := fun x hx => by obtain ⟨y, _, rfl⟩ := List.mem_map.1 hx; exact HFB.out y
        have HR : Hid (gap L frm k = hi f H j - lo f H j) := by show _ = _; rw [HR0.out, if_neg hH0, HN.out]
        have h1 := libMax_any _ _ (H.map f) hsee hM0 hcb
        have h2 := libMin_any _ _ (H.map f) hsee hM0 hcb
        rw [hcl, hi_map hH0 j (by rw [HN.out]; exact Nat.le_refl _)] at h1
        rw [hcl, lo_map hH0 j (by rw [HN.out]; exact Nat.le_refl _)] at h2
        have hlb := lo_bd HFB.out H j
        have hhb := hi_bd HFB.out H j
        obtain ⟨p, hp⟩ : ∃ p, p = lo f H j := ⟨_, rfl⟩
        obtain ⟨q, hq⟩ : ∃ q, q = hi f H j := ⟨_, rfl⟩
        rw [← hp] at hlb h2 HR
        rw [← hq] at hhb h1 HR
        obtain ⟨a', n', cap', rfl, HN'⟩ := hsee.shape
        have hn' : n' = j := by rw [← HN'.out]; exact hcl
        subst hn'
        have HX1 := Lib.hid h1
        have HX2 := Lib.hid h2
        have hb0 : ((n' : Int) == 0) = false := by simp; omega
        clear hsee h1 h2 hp hq hcb hM0 hH0 hcl
        go_wp2_with (first | (go_at_call 69; refine HX1.out.mono ?_; rintro e w5 ⟨rfl, rfl⟩) | (go_at_call 70; refine HX2.out.mono ?_; rintro e w5 ⟨rfl, rfl⟩))
        go_ret
        exact ⟨ret_i64 HR.out.symm, HGR.out⟩
end Go.Proofs.Ytfdadeiemfmgkaa.WatK
