/- Contracts of the cell that the journal has for a day, of the program and of its model. -/
import Derived.Test.YtlhbnkjijggfaaaDoorJrL
namespace Go.Proofs.YtlhbnkjijggfaaaDoor.Jrn
open Go.RowKit Go.Shelf Kit Rw Rg Md Four Hs Rst
attribute [local go_sem] Oper.semAt_some

/-- The cell of the last page, among the first j, whose day is none behind d. -/
def onTo (L : List I4) (d : Int) : Nat → Int
  | 0 => -1
  | j + 1 => if (L.getD j zI4).x0 ≤ d then (L.getD j zI4).x1 else onTo L d j
theorem on_yes {L : List I4} {d : Int} {j : Nat} (h : (L.getD j zI4).x0 ≤ d) : onTo L d (j + 1) = (L.getD j zI4).x1 := if_pos h
theorem on_no {L : List I4} {d : Int} {j : Nat} (h : ¬ (L.getD j zI4).x0 ≤ d) : onTo L d (j + 1) = onTo L d j := if_neg h
theorem on_late {L : List I4} {d : Int} {j : Nat} : ∀ m, (∀ k, j ≤ k → k < j + m → ¬ (L.getD k zI4).x0 ≤ d) → onTo L d (j + m) = onTo L d j
  | 0, _ => rfl
  | m + 1, h => by rw [← Nat.add_assoc, on_no (h (j + m) (by omega) (by omega)), on_late m (fun k h1 h2 => h k h1 (by omega))]
def cellOn (L : List I4) (d : Int) : Int := if isJ L = true then onTo L d L.length else -1
theorem cellOn_no {L : List I4} {d : Int} (h : isJ L = false) : cellOn L d = -1 := if_neg (by rw [h]; decide)
theorem cellOn_yes {L : List I4} {d : Int} (h : isJ L = true) : cellOn L d = onTo L d L.length := if_pos h
/-- The indices from the end. -/
def back (n : Nat) : List Nat := (List.range n).map fun r => n - 1 - r
theorem back_len (n : Nat) : (back n).length = n := by simp [back]
theorem back_get {n r : Nat} (h : r < n) : (back n)[r]? = some (n - 1 - r) := by simp [back, h]
theorem back_at {n r : Nat} (h : r < n) : back n = (back n).take r ++ (n - 1 - r) :: (back n).drop (r + 1) := by
  have hl : r < (back n).length := by rw [back_len]; exact h
  have he : (back n)[r]'hl = n - 1 - r := by simp [back]
  rw [← he]
  exact (List.take_append_drop r (back n)).symm.trans (by rw [List.drop_eq_getElem_cons hl])
theorem back_next {n r : Nat} (h : r < n) : (back n).take r ++ [n - 1 - r] = (back n).take (r + 1) := by
  have hl : r < (back n).length := by rw [back_len]; exact h
  have he : (back n)[r]'hl = n - 1 - r := by simp [back]
  rw [← he, List.take_append_getElem]
theorem back_mid {n i : Nat} {pre post : List Nat} (h : back n = pre ++ i :: post) : i < n ∧ ∀ k, i < k → k < n → k ∈ pre := by
  have hl : pre.length < n := by have := congrArg List.length h; rw [back_len] at this; rw [this]; simp
  have h1 : (back n)[pre.length]? = some i := by rw [h]; simp
  rw [back_get hl] at h1
  have hi : n - 1 - pre.length = i := Option.some.inj h1
  refine ⟨by omega, fun k h2 h3 => ?_⟩
  have h4 : n - 1 - k < pre.length := by omega
  have h5 : (back n)[n - 1 - k]? = pre[n - 1 - k]? := by rw [h, List.getElem?_append_left h4]
  rw [back_get (by omega)] at h5
  have h6 : n - 1 - (n - 1 - k) = k := by omega
  rw [h6] at h5
  exact List.mem_of_getElem? h5.symm
theorem back_all {n k : Nat} (h : k < n) : k ∈ back n := by
  unfold back
  exact List.mem_map.2 ⟨n - 1 - k, List.mem_range.2 (by omega), by omega⟩
def encb (L : List I4) (i : Nat) : Array Value := #[.int .i64 (i : Int), .agg #[.int .i64 (L.getD i zI4).x0, .int .i64 (L.getD i zI4).x1, .int .i64 (L.getD i zI4).x2, .int .i64 (L.getD i zI4).x3]]

set_option maxRecDepth 100000 in
set_option maxHeartbeats 2000000 in
theorem back_any (m : Nat) (W0 : World) (l LA Db : Nat) (a : Option Addr) (cap : Nat) (L : List I4) (hlen : L.length ≤ 1000000000) (hD : Box W0 Db #[.slice a L.length cap] 25) (hs : ∀ W, K2 LA l W0 W → SeesG enc4 W (.slice a L.length cap) L) (hne : Db ≠ LA ∧ Db ≠ l)
    (J : List Nat → World → Prop) (Jx : World → Prop)
    (hY : ∀ pre x post W, back L.length = pre ++ x :: post → J pre W → YieldAt Fence.wide m Tryd.prog l (encb L x) W fun e W' => (e = .returned (.bool true) ∧ J (pre ++ [x]) W' ∧ K2 LA l W W') ∨ (e = .returned (.bool false) ∧ Jx W')) (h0 : J [] W0) :
    CallsIn Fence.wide (m + 1) Tryd.prog 89 #[.func (.yield l) #[] #[], .pointer (some ⟨Db, 0, none⟩)] W0 fun e W' => (∃ v, e = .returned v) ∧ (J (back L.length) W' ∨ Jx W') := by
  have hd0 := hD.cell 0
  have HD := Lib.hid hD
  have HS := Lib.hid hs
  have HY := Lib.hid hY
  clear hs hY hD
  refine callsIn_of_wp Tryd.func89 rfl trivial ?_ rfl
  simp only [Tryd.ntmps89, List.size_toArray, List.length_cons, List.length_nil, Nat.reduceAdd, Nat.reduceSub, Array.replicate_succ, Array.replicate_zero, List.push_toArray, List.append_toArray, List.nil_append, List.cons_append]
  gi_wp2
  gi_loopw [3] (fun i wr => ∃ k : Nat, k ≤ L.length ∧ i = .int .i64 ((k : Int) - 1) ∧ Hid (K2 LA l W0 wr) ∧ Hid (J ((back L.length).take (L.length - k)) wr)) (fun i _ => (intOf i + 1).toNat)
  case atStart => exact ⟨L.length, Nat.le_refl _, by simp, K2.refl _ _ _, by rw [Nat.sub_self]; exact h0⟩
  case round =>
    rename_i wr
    obtain ⟨k, hk, rfl, HK, HJ⟩ := hrel
    have HDW := Lib.hid (K2.box HK.out HD.out hne.1 hne.2)
    have hdw := HDW.out.cell 0
    cases k with
    | zero =>
      have HE : Hid (J (back L.length) wr) := by
        have := HJ.out
        rwa [Nat.sub_zero, List.take_of_length_le (by rw [back_len]; omega)] at this
      gi_wp2
      go_end0
      exact ⟨⟨_, rfl⟩, .inl HE.out⟩
    | succ k =>
      have hkl : k < L.length := by omega
      obtain ⟨b, o, rfl, _, _⟩ := (HS.out _ HK.out).at_row hkl
      have hr : L.length - 1 - (L.length - (k + 1)) = k := by omega
      have hpa := back_at (n := L.length) (r := L.length - (k + 1)) (by omega)
      have hpn := back_next (n := L.length) (r := L.length - (k + 1)) (by omega)
      rw [hr] at hpa hpn
      rw [show L.length - (k + 1) + 1 = L.length - k by omega] at hpn
      have HPN := Lib.hid hpn
      have hy := HY.out _ _ _ _ hpa HJ.out
      unfold encb at hy
      obtain ⟨x, hx⟩ : ∃ x, L.getD k zI4 = x := ⟨_, rfl⟩
      obtain ⟨d0, d1, d2, d3⟩ := at4_in (HS.out _ HK.out) (World.grownBy.refl _ _) hkl hx
      rw [hx] at hy
      obtain ⟨x0, x1, x2, x3⟩ := x
      dsimp only at d0 d1 d2 d3 hy
      obtain ⟨fn, tmps, assign, body, hyy, hR⟩ := hy
      have he : ((k + 1 : Nat) : Int) - 1 = (k : Int) := by omega
      have hkI : (0 : Int) ≤ (k : Int) := by omega
      have hkJ : (k : Int) < (L.length : Int) := by omega
      rw [he]
      clear hx hpa hpn
      gi_wp2
      refine hR.mono ?_
      rintro e W3 (⟨rfl, hJ3, hk3⟩ | ⟨rfl, hJx3⟩)
      · have HJ3 := Lib.hid hJ3
        have HK3 := Lib.hid (HK.out.trans hk3)
        clear hJ3 hk3 hyy hR d0 d1 d2 d3
        gi_wp2
        go_roundw
        case rel => exact ⟨k, by omega, by simp, HK3, by rw [← HPN.out]; exact HJ3⟩
        case measure => simp [intOf] <;> omega
      · gi_wp2
        refine bodyPost_ret (results_none rfl _ _ _) rfl ?_
        exact ⟨⟨_, rfl⟩, .inr hJx3⟩

theorem backward_any (w : World) (a : Option Addr) (n cap : Nat) :
    Calls Tryd.prog 62 #[.slice a n cap] w fun e w' => e = .returned (.func (.func 89) #[] #[.pointer (some ⟨w.heap.size, 0, none⟩)]) ∧ w' = w.alloc (.cells #[.slice a n cap] 25) := by
  go_enter Tryd.func62, Tryd.ntmps62
  go_wp2
  go_ret
  exact ⟨rfl, rfl⟩
theorem ret_oneI {P : Program} {fn : Func} {R : Ending → World → Prop} {a : Act} {w : World} {p : Tmp} {ty : TypeId} {g : Nat} {v : Value} {k : IntKind} (h : fn.results = #[.cell p ty]) (hp : a.tmps.getD p undef = .pointer (some ⟨g, 0, none⟩)) (hc : w.cell? ⟨g, 0, none⟩ = some v)
    (hu : P.underlying ty = some (.int k)) (hf : a.defers = []) (hR : R (.returned v) w) : bodyPost P fn R .ret a w := by
  refine bodyPost_ret (v := v) ?_ hf hR
  have hp' : a.tmps[p]?.getD undef = .pointer (some ⟨g, 0, none⟩) := by simpa using hp
  simp [results, h, hp', asAddr, loadVar, isAgg, underlying, hu, load, hc, go_sem, Sem.run]
theorem results_oneI {P : Program} {fn : Func} {tmps : Array Value} {w : World} {p : Tmp} {ty : TypeId} {g : Nat} {v : Value} {k : IntKind} (h : fn.results = #[.cell p ty]) (hp : tmps.getD p undef = .pointer (some ⟨g, 0, none⟩)) (hc : w.cell? ⟨g, 0, none⟩ = some v)
    (hu : P.underlying ty = some (.int k)) : (results fn tmps).run P w = .ok v w := by
  have hp' : tmps[p]?.getD undef = .pointer (some ⟨g, 0, none⟩) := by simpa using hp
  simp [results, h, hp', asAddr, loadVar, isAgg, underlying, hu, load, hc, go_sem, Sem.run]
theorem ret_val {a b : Int} (h : a = b) : Ending.returned (.int .i64 a) = .returned (.int .i64 b) := by rw [h]

set_option maxRecDepth 100000 in
set_option maxHeartbeats 3000000 in
theorem iCell_any (w : World) (v : Value) (L : List I4) (d : Int) (hd : -9223372036854775808 ≤ d ∧ d ≤ 9223372036854775807) (hv : SeesG enc4 w v L) (hc : VC w) :
    Calls Tryd.prog 25 #[v, .int .i64 d] w fun e w' => e = .returned (.int .i64 (cellOn L d)) ∧ w.grownBy w' none := by
  have HV := Lib.hid hv
  have hln := hv.len
  have ga := World.grownBy_alloc w (.cells #[.int .i64 d] 3 (0, 0)) (none : Option Nat)
  have gb := World.grownBy_alloc (w.alloc (.cells #[.int .i64 d] 3 (0, 0))) (.cells #[.int .i64 0] 3 (0, 0)) (none : Option Nat)
  have HBD := Lib.hid ((box_new w #[.int .i64 d] 3).grown gb)
  have hbr := box_new (w.alloc (.cells #[.int .i64 d] 3 (0, 0))) #[.int .i64 0] 3
  rw [World.size_alloc] at hbr
  have HBR := Lib.hid hbr
  have HG1 := Lib.hid (grownN_trans ga gb)
  have HJ := Lib.hid (iIsJ_any _ v L ((hv.grown ga).grown gb) ((hc.grown ga).grown gb))
  have HSZ1 : Hid (((w.alloc (.cells #[.int .i64 d] 3 (0, 0))).alloc (.cells #[.int .i64 0] 3 (0, 0))).heap.size = w.heap.size + 2) := by show _ = _; simp only [World.size_alloc]
  obtain ⟨a, cap, rfl, _⟩ := hv
  clear hc ga gb hbr
  cases hj : isJ L
  · have HR : Hid (cellOn L d = -1) := cellOn_no hj
    rw [hj] at HJ
    clear hj
    go_enter Tryd.func25, Tryd.ntmps25
    go_wp2_with fail
    refine HJ.out.mono ?_
    rintro e w3 ⟨rfl, hg⟩
    have HG3 := Lib.hid (grownN_trans HG1.out hg)
    have HB3 := Lib.hid (HBR.out.grown hg)
    have hc0 := HB3.out.cell 0
    have hf0 := HB3.out.free 0
    clear hg
    go_wp2
    have hs := grown_set w3 (w.heap.size + 1) 0 (.int .i64 (-1))
    try simp only [Exit.inBlock, Exit.then]
    exact ret_oneI rfl rfl ((one_set (u := .int .i64 (-1)) HB3.out).cell 0) Tryd.underlying3 rfl ⟨ret_val HR.out.symm, grown_of (r := none) HG3.out hs (fun c e => .inl (by injection e with e; omega))⟩
  · have HR := Lib.hid (cellOn_yes (d := d) hj)
    have hlen := (isJ_out hj).1
    rw [hj] at HJ
    clear hj
    refine (callsIn_wide (n := 2)).1 ?_
    refine callsIn_of_wp_marks Tryd.func25 rfl trivial ?_ rfl
    simp only [Tryd.ntmps25, List.size_toArray, List.length_cons, List.length_nil, Nat.reduceAdd, Nat.reduceSub, Array.replicate_succ, Array.replicate_zero, List.push_toArray, List.append_toArray, List.nil_append, List.cons_append]
    gi_wp2_with fail
    refine ⟨trivial, (callsIn_wide.2 HJ.out).mono ?_⟩
    rintro e w3 ⟨rfl, hg⟩
    have HG3 := Lib.hid (grownN_trans HG1.out hg)
    have HBD3 := Lib.hid (HBD.out.grown hg)
    have HBR3 := Lib.hid (HBR.out.grown hg)
    have HSZ3 : Hid (w.heap.size + 2 ≤ w3.heap.size) := by have := hg.size; have := HSZ1.out; show _ ≤ _; omega
    clear hg
    gi_wp2_with fail
    refine ⟨trivial, (callsIn_wide.2 (backward_any _ a L.length cap)).mono ?_⟩
    rintro e w4 ⟨rfl, rfl⟩
    have hgd := World.grownBy_alloc w3 (.cells #[.slice a L.length cap] 25 (0, 0)) (none : Option Nat)
    have HD := Lib.hid (box_new w3 #[.slice a L.length cap] 25)
    have HG4 := Lib.hid (grownN_trans HG3.out hgd)
    have HBD4 := Lib.hid (HBD3.out.grown hgd)
    have HBR4 := Lib.hid (HBR3.out.grown hgd)
    have HSZ : Hid ((w3.alloc (.cells #[.slice a L.length cap] 25 (0, 0))).heap.size = w3.heap.size + 1) := by show _ = _; simp only [World.size_alloc]
    clear hgd
    gi_wp2
    generalize w3.alloc (.cells #[.slice a L.length cap] 25 (0, 0)) = w4 at *
    refine range_stop (P := Tryd.prog) (m := 0) (gf := 89) (lb := #[.pointer (some ⟨w3.heap.size, 0, none⟩)]) rfl (enters_of Tryd.func89 (by kernel_rfl) rfl)
      (encb L) (fun _ => rfl) (w.heap.size + 1) (w.heap.size + 1) (by have := HSZ.out; have := HSZ3.out; omega) (by have := HSZ.out; have := HSZ3.out; omega) (back L.length)
      (fun pre W => (∀ k ∈ pre, ¬ (L.getD k zI4).x0 ≤ d) ∧ Box W (w.heap.size + 1) #[.int .i64 0] 3 ∧ Box W w.heap.size #[.int .i64 d] 3 ∧ w.grownBy W none)
      (fun s W W' row hs hg hr => ⟨hs.1, hs.2.1.kept hg (fun e => by have := hr _ e; have := HSZ.out; have := HSZ3.out; omega), hs.2.2.1.kept hg (fun e => by have := hr _ e; have := HSZ.out; have := HSZ3.out; omega), grown_of (r := none) hs.2.2.2 hg (fun c e => .inl (by have := hr _ e; have := HSZ.out; have := HSZ3.out; omega))⟩)
      ⟨(fun x hx => by cases hx), HBR4.out, HBD4.out, HG4.out⟩
      (fun W => ∃ z, cellOn L d = z ∧ Box W (w.heap.size + 1) #[.int .i64 z] 3 ∧ w.grownBy W none)
      (fun W W' row hs hg hr => by obtain ⟨z, h1, h2, h3⟩ := hs; exact ⟨z, h1, h2.kept hg (fun e => by have := hr _ e; have := HSZ.out; have := HSZ3.out; omega), grown_of (r := none) h3 hg (fun c e => .inl (by have := hr _ e; have := HSZ.out; have := HSZ3.out; omega))⟩)
      ?iter (fun x a' W => ∃ (T : Nat) (p : I4), w4.heap.size + 2 ≤ T ∧ L.getD x zI4 = p ∧ a' = { tmps := #[.slice a L.length cap, .int .i64 d, undef, .pointer (some ⟨w.heap.size, 0, none⟩), .pointer (some ⟨w.heap.size + 1, 0, none⟩), undef, .pointer (some ⟨T, 0, none⟩), .slice a L.length cap, .bool true, .bool false, .slice a L.length cap, .func (.func 89) #[] #[.pointer (some ⟨w3.heap.size, 0, none⟩)], .int .i64 (x : Int), .agg #[.int .i64 p.x0, .int .i64 p.x1, .int .i64 p.x2, .int .i64 p.x3], undef, undef, undef, undef, undef, undef], defers := [] } ∧
        Box W T #[.int .i64 p.x0, .int .i64 p.x1, .int .i64 p.x2, .int .i64 p.x3] 64)
      (fun x a' W W' hA hg => by obtain ⟨T, p, h1, h2, h3, h4⟩ := hA; exact ⟨T, p, h1, h2, h3, h4.kept hg (fun e => by injection e with e; omega)⟩) ?assign ?body ?done ?stop
    case iter =>
      intro W1 hg1 hs1 J' Jx' hJ' hJx' hY' h0'
      refine back_any 0 W1 (w4.heap.size + 1) (w.heap.size + 1) w3.heap.size a cap L (by omega) (HD.out.grown hg1) ?_ ⟨by have := HSZ3.out; omega, by have := HSZ.out; omega⟩ J' Jx' hY' h0'
      intro W hk
      exact HV.out.below ((grown_below (grownN_trans HG4.out hg1) _ (Nat.le_refl _)).trans (K2.below hk (by have := HSZ.out; have := HSZ3.out; omega) (by omega) (by have := HSZ.out; have := HSZ3.out; omega)))
    case assign =>
      intro l pre x W K hj hsz hK
      obtain ⟨p, hp⟩ : ∃ p, L.getD x zI4 = p := ⟨_, rfl⟩
      unfold encb
      rw [hp]
      have HP := Lib.hid hp
      clear hp
      obtain ⟨x0, x1, x2, x3⟩ := p
      dsimp only
      gi_wp2
      exact hK _ _ (World.grownBy_alloc _ _ _) ⟨W.heap.size, _, hsz, HP.out, rfl, box_new W _ _⟩
    case body =>
      rintro l pre x post a' W hds ⟨hp, hb, hbd, hg⟩ ⟨T, p, hT, hpx, rfl, hT1⟩
      obtain ⟨hl, hin⟩ := back_mid hds
      have HLATE : Hid (∀ k, x + 1 ≤ k → k < x + 1 + (L.length - (x + 1)) → ¬ (L.getD k zI4).x0 ≤ d) := fun k h1 h2 => hp k (hin k (by omega) (by omega))
      have HL := Lib.hid hl
      have HB := Lib.hid hb
      have HBD2 := Lib.hid hbd
      have HG := Lib.hid hg
      have HP := Lib.hid hp
      have HPX := Lib.hid hpx
      obtain ⟨p0, p1, p2, p3⟩ := four hT1
      have hc1 := hbd.cell 0
      have hc2 := hb.cell 0
      have hf2 := hb.free 0
      clear hds hin hp hb hbd hg hT1 hpx
      obtain ⟨x0, x1, x2, x3⟩ := p
      dsimp only at p0 p1 p2 p3
      by_cases hle : x0 ≤ d
      · have HE : Hid (cellOn L d = x1) := by
          show _ = _
          have h1 := on_late (L := L) (d := d) (j := x + 1) (L.length - (x + 1)) HLATE.out
          rw [show x + 1 + (L.length - (x + 1)) = L.length by have := HL.out; omega] at h1
          rw [HR.out, h1, on_yes (by rw [HPX.out]; exact hle), HPX.out]
        gi_wp2
        have hs := grown_set W (w.heap.size + 1) 0 (.int .i64 x1)
        exact ⟨hs, by rw [HE.out]; exact one_set HB.out, grown_of (r := none) HG.out hs (fun c e => .inl (by injection e with e; omega))⟩
      · have HX0 : Hid (d < (L.getD x zI4).x0) := by show _ < _; rw [HPX.out]; show d < x0; omega
        gi_wp2
        refine ⟨World.grownBy.refl _ _, fun k hk => ?_, HB.out, HBD2.out, HG.out⟩
        have h1 : d < (L.getD k zI4).x0 := by
          rcases hk with h | h
          · have := HP.out k h; omega
          · rw [h]; exact HX0.out
        rw [← List.getD_eq_getElem?_getD]
        exact h1
    case done =>
      rintro W ⟨hp, hb, hbd, hg⟩ hk
      have HE : Hid (cellOn L d = -1) := by
        show _ = _
        have h1 := on_late (L := L) (d := d) (j := 0) L.length (fun k _ h2 => hp k (back_all (by omega)))
        rw [Nat.zero_add] at h1
        rw [HR.out, h1]
        rfl
      have hs := grown_set W (w.heap.size + 1) 0 (.int .i64 (-1))
      have HB := Lib.hid (one_set (u := .int .i64 (-1)) hb)
      have HG := Lib.hid (grown_of (r := none) hg hs (fun c e => .inl (by injection e with e; omega)))
      have HK := Lib.hid ((hs.block w4.heap.size (Array.getElem?_eq_some_iff.1 hk).1 (fun e => by injection e with e; have := HSZ.out; have := HSZ3.out; omega)).trans hk)
      have hc := hb.cell 0
      have hf := hb.free 0
      clear hp hb hbd hg hk hs
      gi_wp2
      refine ⟨by simp, .inl ⟨_, _, rfl, run_takeDeferred HK.out, ?_⟩⟩
      exact ⟨.int .i64 (-1), results_oneI rfl rfl ((HB.out.kept (grownBy_putObj' _ _ _) (fun e => by injection e with e; have := HSZ.out; have := HSZ3.out; omega)).cell 0) Tryd.underlying3, by rw [HE.out], grown_of (r := none) HG.out (grownBy_putObj' _ _ _) (fun c e => .inl (by injection e with e; have := HSZ.out; have := HSZ3.out; omega))⟩
    case stop =>
      rintro W ⟨z, hz, hb, hg⟩ hk
      have HR2 := Lib.hid hz
      have HB := Lib.hid hb
      have HG := Lib.hid hg
      have HK := Lib.hid hk
      clear hz hb hg hk
      gi_wp2
      refine ⟨by simp, .inl ⟨_, _, rfl, run_takeDeferred HK.out, ?_⟩⟩
      exact ⟨.int .i64 z, results_oneI rfl rfl ((HB.out.kept (grownBy_putObj' _ _ _) (fun e => by injection e with e; have := HSZ.out; have := HSZ3.out; omega)).cell 0) Tryd.underlying3, by rw [HR2.out], grown_of (r := none) HG.out (grownBy_putObj' _ _ _) (fun c e => .inl (by injection e with e; have := HSZ.out; have := HSZ3.out; omega))⟩

set_option maxRecDepth 20000 in
set_option maxHeartbeats 1000000 in
theorem sCell_any (w : World) (v : Value) (L : List I4) (d : Int) (hd : -9223372036854775808 ≤ d ∧ d ≤ 9223372036854775807) (hv : SeesG enc4 w v L) :
    Calls Tryd.prog 24 #[v, .int .i64 d] w fun e w' => e = .returned (.int .i64 (cellOn L d)) ∧ w.grownBy w' none := by
  have HJ := Lib.hid fun w' hv => sIsJ_any w' v L hv
  have HV := Lib.hid hv
  have hl := hv.len
  obtain ⟨a, cap, rfl, _⟩ := hv
  cases hj : isJ L
  · have HR : Hid (cellOn L d = -1) := cellOn_no hj
    rw [hj] at HJ
    clear hj
    go_enter Tryd.func24, Tryd.ntmps24
    go_wp2
    go_loopw [5, 6] (fun s i wr => s = .int .i64 (-1) ∧ i = .int .i64 0 ∧ wr = w) (fun _ _ _ => 0)
    case atStart => exact ⟨rfl, rfl, rfl⟩
    case round =>
      obtain ⟨rfl, rfl, rfl⟩ := hrel
      by_cases h0 : 0 < L.length
      · have hlI : (0 : Int) < (L.length : Int) := by omega
        go_wp2_with fail
        refine (HJ.out _ HV.out).mono ?_
        rintro e w1 ⟨rfl, hg⟩
        have HG := Lib.hid hg
        clear hg
        go_wp2
        go_ret
        exact ⟨ret_i64 HR.out.symm, HG.out⟩
      · have hlI : ¬ ((0 : Int) < (L.length : Int)) := by omega
        go_wp2
        go_ret
        exact ⟨ret_i64 HR.out.symm, World.grownBy.refl _ _⟩
  · have HR := Lib.hid (cellOn_yes (d := d) hj)
    rw [hj] at HJ
    clear hj
    go_enter Tryd.func24, Tryd.ntmps24
    go_wp2
    go_loopw [5, 6] (fun s i wr => ∃ j : Nat, j ≤ L.length ∧ i = .int .i64 j ∧ s = .int .i64 (onTo L d j) ∧ Hid (w.grownBy wr none)) (fun _ i _ => L.length - (intOf i).toNat)
    case atStart => exact ⟨0, Nat.zero_le _, rfl, rfl, World.grownBy.refl _ _⟩
    case round =>
      rename_i _ _ wr
      obtain ⟨j, hj, rfl, rfl, HGW⟩ := hrel
      obtain ⟨s, hs⟩ : ∃ s, s = onTo L d j := ⟨_, rfl⟩
      rw [← hs]
      have HS := Lib.hid hs
      clear hs
      by_cases hlt : j < L.length
      · obtain ⟨b, o, rfl, _, _⟩ := HV.out.at_row hlt
        have hjI : (0 : Int) ≤ (j : Int) := by omega
        have hjl : (j : Int) < (L.length : Int) := by omega
        obtain ⟨x, hx⟩ : ∃ x, L.getD j zI4 = x := ⟨_, rfl⟩
        have HAT := Lib.hid fun w' (hg : w.grownBy w' none) => at4_in HV.out hg hlt hx
        by_cases he : x.x0 ≤ d
        · have HN : Hid (onTo L d (j + 1) = x.x1) := by show _ = _; rw [on_yes (by rw [hx]; exact he), hx]
          clear hx
          obtain ⟨x0, x1, x2, x3⟩ := x
          dsimp only at he HAT HN
          go_wp2_with fail
          refine (HJ.out _ (HV.out.grown HGW.out)).mono ?_
          rintro e w1 ⟨rfl, hg⟩
          have HG := Lib.hid (grownN_trans HGW.out hg)
          clear hg
          obtain ⟨d0, d1, d2, d3⟩ := HAT.out _ HG.out
          go_wp2
          go_roundw
          case rel => exact ⟨j + 1, by omega, by go_num, by rw [HN.out], HG⟩
          case measure => simp [intOf]; omega
        · have HN : Hid (onTo L d (j + 1) = s) := by show _ = _; rw [on_no (by rw [hx]; exact he), HS.out]
          clear hx
          obtain ⟨x0, x1, x2, x3⟩ := x
          dsimp only at he HAT
          go_wp2_with fail
          refine (HJ.out _ (HV.out.grown HGW.out)).mono ?_
          rintro e w1 ⟨rfl, hg⟩
          have HG := Lib.hid (grownN_trans HGW.out hg)
          clear hg
          obtain ⟨d0, d1, d2, d3⟩ := HAT.out _ HG.out
          go_wp2
          go_roundw
          case rel => exact ⟨j + 1, by omega, by go_num, by rw [HN.out], HG⟩
          case measure => simp [intOf]; omega
      · have hjl : j = L.length := by omega
        have hnl : ¬ ((j : Int) < (L.length : Int)) := by omega
        have HE : Hid (cellOn L d = s) := by show _ = _; rw [HR.out, HS.out, hjl]
        go_wp2
        go_ret
        exact ⟨ret_i64 HE.out.symm, HGW.out⟩
end Go.Proofs.YtlhbnkjijggfaaaDoor.Jrn
