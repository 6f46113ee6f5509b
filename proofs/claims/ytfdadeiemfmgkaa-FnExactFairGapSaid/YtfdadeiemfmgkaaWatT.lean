/- Contracts of the model's functions on the next watch and on sleep. -/
import Derived.Test.YtfdadeiemfmgkaaWatS
namespace Go.Proofs.Ytfdadeiemfmgkaa.WatS
open Go.RowKit Kit Rw Rg Crw CrS Wat Md
theorem l1In_c (n l h : Int) (w : World) : Calls Try.prog 61 #[.int .i64 n, .int .i64 l, .int .i64 h] w fun e w' => e = .returned (.bool (inb n l h)) ∧ w = w' := l1In_any n l h w

set_option maxRecDepth 20000 in
set_option maxHeartbeats 1000000 in
theorem sSwap_any (w : World) (v : Value) (L : List Mem) (hour id : Int) (hh : (Lit.int .i64 hour).wf = true) (hid : (Lit.int .i64 id).wf = true) (hv : SeesG encM w v L) (hn : L.length ≤ 1000000000) :
    Calls Try.prog 29 #[v, .int .i64 hour, .int .i64 id] w fun e w' => e = .returned (.int .i64 (swap (ring L) hour id)) ∧ w.grownBy w' none := by
  have hhb := i64_of hh
  by_cases h3 : 0 ≤ hour ∧ hour ≤ 100000
  · have hb : inb hour 0 100000 = true := decide_eq_true h3
    have HS := Lib.hid (fun (w' : World) (hg : w.grownBy w' none) (t : Int) ht => sAt_any w' v L t ht (hv.grown hg) hn)
    clear hv hh
    rcases in_or L id with ⟨hp, hm⟩ | ⟨p, hp, hpl, hidp, h1⟩
    · have HR : Hid (swap (ring L) hour id = -1) := by show _ = _; unfold swap; rw [if_neg (by rw [hp]; omega)]
      have HM := Lib.hid hm
      clear hp hm
      go_enter Try.func29, Try.ntmps29
      go_wp2_with (go_at_call 61; refine (l1In_c _ _ _ _).mono ?_; rintro e w6 ⟨rfl, rfl⟩; try rw [hb])
      go_loopw [7] (fun i wr => ∃ t : Int, hour + 1 ≤ t ∧ t ≤ hour + 101 ∧ i = .int .i64 t ∧ Hid (w.grownBy wr none)) (fun i _ => (hour + 101 - intOf i).toNat)
      case atStart => exact ⟨hour + 1, by omega, by omega, by go_num, World.grownBy.refl _ _⟩
      case round =>
        rename_i _ wr
        obtain ⟨t, ht1, ht2, rfl, HG⟩ := hrel
        by_cases hlt : t ≤ hour + 100
        · have HA := Lib.hid (HS.out wr HG.out t (by omega))
          rcases HM.out t with hne | h0
          · have hne2 : (at_ (ring L) t == id) = false := by simpa using hne
            clear hne
            go_wp2_with (go_at_call 21; refine HA.out.mono ?_; rintro e w7 ⟨rfl, hg⟩; have HG7 := Lib.hid (grownN_trans HG.out hg); clear hg)
            go_roundw
            case rel => exact ⟨t + 1, by omega, by omega, by go_num, HG7⟩
            case measure => simp [intOf]; omega
          · subst h0
            cases hz : decide (at_ (ring L) t = 0)
            · have hne2 : (at_ (ring L) t == 0) = false := by simpa using of_decide_eq_false hz
              clear hz
              go_wp2_with (go_at_call 21; refine HA.out.mono ?_; rintro e w7 ⟨rfl, hg⟩; have HG7 := Lib.hid (grownN_trans HG.out hg); clear hg)
              go_roundw
              case rel => exact ⟨t + 1, by omega, by omega, by go_num, HG7⟩
              case measure => simp [intOf]; omega
            · have he := of_decide_eq_true hz
              rw [he] at HA
              clear hz he
              go_wp2_with (go_at_call 21; refine HA.out.mono ?_; rintro e w7 ⟨rfl, hg⟩; have HG7 := Lib.hid (grownN_trans HG.out hg); clear hg)
              go_roundw
              case rel => exact ⟨t + 1, by omega, by omega, by go_num, HG7⟩
              case measure => simp [intOf]; omega
        · go_wp2
          go_ret
          exact ⟨ret_i64 HR.out.symm, HG.out⟩
    · obtain ⟨x, hx⟩ : ∃ x, x = nxt (ring L).length p (hour + 1) := ⟨_, rfl⟩
      have HR : Hid (swap (ring L) hour id = x) := by show _ = _; unfold swap; rw [if_pos ⟨h3, by rw [hpl]; omega⟩, hpl, hx]
      have hxb := nxt_bd (ring_len L) (by omega) p (hour + 1)
      rw [← hx] at hxb
      have hit : ∀ t : Int, hour + 1 ≤ t → t ≤ x → (at_ (ring L) t = id ↔ t = x) := fun t h4 h5 => by
        rw [hidp, at_place (ring_up L) hp (by omega), hx]
        exact nxt_hit (ring_len L) hp h4 (by rw [← hx]; exact h5)
      have HIT := Lib.hid hit
      have hne0 : (id == 0) = false := by simp; omega
      clear hit hx hidp hpl hp
      go_enter Try.func29, Try.ntmps29
      go_wp2_with (go_at_call 61; refine (l1In_c _ _ _ _).mono ?_; rintro e w6 ⟨rfl, rfl⟩; try rw [hb])
      go_loopw [7] (fun i wr => ∃ t : Int, hour + 1 ≤ t ∧ t ≤ x ∧ i = .int .i64 t ∧ Hid (w.grownBy wr none)) (fun i _ => (hour + 101 - intOf i).toNat)
      case atStart => exact ⟨hour + 1, by omega, by omega, by go_num, World.grownBy.refl _ _⟩
      case round =>
        rename_i _ wr
        obtain ⟨t, ht1, ht2, rfl, HG⟩ := hrel
        have HA := Lib.hid (HS.out wr HG.out t (by omega))
        by_cases he : t = x
        · have hat := (HIT.out t ht1 ht2).2 he
          rw [hat] at HA
          have HE := Lib.hid he
          clear hat he
          go_wp2_with (go_at_call 21; refine HA.out.mono ?_; rintro e w7 ⟨rfl, hg⟩; have HG7 := Lib.hid (grownN_trans HG.out hg); clear hg)
          go_ret
          exact ⟨ret_i64 (by rw [HR.out, HE.out]), HG7.out⟩
        · have hne2 : (at_ (ring L) t == id) = false := by simpa using fun h => he ((HIT.out t ht1 ht2).1 h)
          go_wp2_with (go_at_call 21; refine HA.out.mono ?_; rintro e w7 ⟨rfl, hg⟩; have HG7 := Lib.hid (grownN_trans HG.out hg); clear hg)
          go_roundw
          case rel => exact ⟨t + 1, by omega, by omega, by go_num, HG7⟩
          case measure => simp [intOf]; omega
  · have hb : inb hour 0 100000 = false := decide_eq_false h3
    have HR : Hid (swap (ring L) hour id = -1) := by show _ = _; unfold swap; rw [if_neg (fun h => h3 h.1)]
    clear h3 hv hh
    go_enter Try.func29, Try.ntmps29
    go_wp2_with (go_at_call 61; refine (l1In_c _ _ _ _).mono ?_; rintro e w6 ⟨rfl, rfl⟩; try rw [hb])
    go_ret
    exact ⟨ret_i64 HR.out.symm, World.grownBy.refl _ _⟩

set_option maxRecDepth 20000 in
set_option maxHeartbeats 1000000 in
theorem sSleep_any (w : World) (v : Value) (L : List Mem) (id hour : Int) (hh : (Lit.int .i64 hour).wf = true) (hid : (Lit.int .i64 id).wf = true) (hv : SeesG encM w v L) (hn : L.length ≤ 1000000000) :
    Calls Try.prog 31 #[v, .int .i64 id, .int .i64 hour] w fun e w' => e = .returned (.int .i64 (sleep (ring L) id hour)) ∧ w.grownBy w' none := by
  have hhb := i64_of hh
  have HW := Lib.hid (sSwap_any w v L hour id hh hid hv hn)
  have HS := Lib.hid (fun (w' : World) (hg : w.grownBy w' none) (t : Int) ht => sAt_any w' v L t ht (hv.grown hg) hn)
  clear hv hh
  by_cases hq : (0 ≤ hour ∧ hour ≤ 100000) ∧ 0 ≤ place (ring L) id 0
  · obtain ⟨h3, hq2⟩ := hq
    rcases in_or L id with ⟨hp, hm⟩ | ⟨p, hp, hpl, hidp, h1⟩
    · omega
    · obtain ⟨x, hx⟩ : ∃ x, x = nxt (ring L).length p (hour + 1) := ⟨_, rfl⟩
      obtain ⟨y, hy⟩ : ∃ y, y = lst (ring L).length p hour := ⟨_, rfl⟩
      have hxb := nxt_bd (ring_len L) (by omega) p (hour + 1)
      have hyb := lst_bd (ring_len L) (by omega) p hour
      have hsw : swap (ring L) hour id = x := by unfold swap; rw [if_pos ⟨h3, hq2⟩, hpl, hx]
      rw [hsw] at HW
      have HR : Hid (sleep (ring L) id hour = if 0 ≤ y then x - y - 1 else -1) := by
        show _ = _
        unfold sleep
        rw [hpl, ← hx, ← hy]
        by_cases h : 0 ≤ y
        · rw [if_pos ⟨h3, by omega, h⟩, if_pos h]
        · rw [if_neg (fun h' => h h'.2.2), if_neg h]
      rw [← hx] at hxb
      rw [← hy] at hyb
      have hit : ∀ t : Int, 0 ≤ t → t ≤ hour → y ≤ t → (at_ (ring L) t = id ↔ t = y) := fun t h4 h5 h6 => by
        rw [hidp, at_place (ring_up L) hp h4, hy]
        exact lst_hit (ring_len L) hp h5 (by rw [← hy]; exact h6)
      have HIT := Lib.hid hit
      clear hit hx hy hidp hpl hp hsw hq2
      go_enter Try.func31, Try.ntmps31
      go_wp2_with fail
      refine HW.out.mono ?_
      rintro e w2 ⟨rfl, hg⟩
      have HG2 := Lib.hid hg
      clear hg
      go_wp2
      go_loopw [8] (fun i wr => ∃ t : Int, y ≤ t ∧ -1 ≤ t ∧ t ≤ hour ∧ i = .int .i64 t ∧ Hid (w.grownBy wr none)) (fun i _ => (intOf i + 1).toNat)
      case atStart => exact ⟨hour, by omega, by omega, by omega, rfl, HG2⟩
      case round =>
        rename_i _ wr
        obtain ⟨t, ht0, ht1, ht2, rfl, HG⟩ := hrel
        by_cases hlt : 0 ≤ t
        · have HA := Lib.hid (HS.out wr HG.out t (by omega))
          by_cases he : t = y
          · have hat := (HIT.out t hlt ht2 ht0).2 he
            rw [hat] at HA
            subst he
            rw [if_pos hlt] at HR
            clear hat
            go_wp2_with (go_at_call 21; refine HA.out.mono ?_; rintro e w7 ⟨rfl, hg⟩; have HG7 := Lib.hid (grownN_trans HG.out hg); clear hg)
            go_ret
            exact ⟨ret_i64 HR.out.symm, HG7.out⟩
          · have hne2 : (at_ (ring L) t == id) = false := by simpa using fun h => he ((HIT.out t hlt ht2 ht0).1 h)
            go_wp2_with (go_at_call 21; refine HA.out.mono ?_; rintro e w7 ⟨rfl, hg⟩; have HG7 := Lib.hid (grownN_trans HG.out hg); clear hg)
            go_roundw
            case rel => exact ⟨t - 1, by omega, by omega, by omega, by go_num, HG7⟩
            case measure => simp [intOf]; omega
        · rw [if_neg (by omega)] at HR
          go_wp2
          go_ret
          exact ⟨ret_i64 HR.out.symm, HG.out⟩
  · have hsw : swap (ring L) hour id = -1 := by unfold swap; rw [if_neg hq]
    have HR : Hid (sleep (ring L) id hour = -1) := by show _ = _; unfold sleep; rw [if_neg (fun h => hq ⟨h.1, h.2.1⟩)]
    rw [hsw] at HW
    clear hsw hq
    go_enter Try.func31, Try.ntmps31
    go_wp2_with fail
    refine HW.out.mono ?_
    rintro e w2 ⟨rfl, hg⟩
    have HG2 := Lib.hid hg
    clear hg
    go_wp2
    go_ret
    exact ⟨ret_i64 HR.out.symm, HG2.out⟩
end Go.Proofs.Ytfdadeiemfmgkaa.WatS
