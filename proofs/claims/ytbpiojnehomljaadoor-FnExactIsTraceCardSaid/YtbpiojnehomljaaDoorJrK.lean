/- Contract of journals: the program's whole test. -/
import Derived.Test.YtbpiojnehomljaaDoorJrJ
namespace Go.Proofs.YtbpiojnehomljaaDoor.Jrn
open Go.RowKit Go.Shelf Kit Rw Rg Md Four Hs Rst
attribute [local go_sem] Oper.semAt_some

theorem ret_one {P : Program} {fn : Func} {R : Ending → World → Prop} {a : Act} {w : World} {p : Tmp} {ty : TypeId} {g : Nat} {v : Value} (h : fn.results = #[.cell p ty]) (hp : a.tmps.getD p undef = .pointer (some ⟨g, 0, none⟩)) (hc : w.cell? ⟨g, 0, none⟩ = some v)
    (hu : P.underlying ty = some .bool) (hf : a.defers = []) (hR : R (.returned v) w) : bodyPost P fn R .ret a w := by
  refine bodyPost_ret (v := v) ?_ hf hR
  have hp' : a.tmps[p]?.getD undef = .pointer (some ⟨g, 0, none⟩) := by simpa using hp
  simp [results, h, hp', asAddr, loadVar, isAgg, underlying, hu, load, hc, go_sem, Sem.run]
theorem results_one {P : Program} {fn : Func} {tmps : Array Value} {w : World} {p : Tmp} {ty : TypeId} {g : Nat} {v : Value} (h : fn.results = #[.cell p ty]) (hp : tmps.getD p undef = .pointer (some ⟨g, 0, none⟩)) (hc : w.cell? ⟨g, 0, none⟩ = some v)
    (hu : P.underlying ty = some .bool) : (results fn tmps).run P w = .ok v w := by
  have hp' : tmps[p]?.getD undef = .pointer (some ⟨g, 0, none⟩) := by simpa using hp
  simp [results, h, hp', asAddr, loadVar, isAgg, underlying, hu, load, hc, go_sem, Sem.run]
theorem pairs_mid {L : List I4} {pre post : List (I4 × I4)} {z : I4 × I4} (h : pairs L = pre ++ z :: post) : pre.length < L.length ∧ z = pair L pre.length ∧ ∀ k, k < pre.length → pair L k ∈ pre := by
  have hlen : (pairs L).length = L.length := by simp [pairs]
  have hl : pre.length < L.length := by rw [← hlen, h]; simp
  have hat : ∀ k, k < L.length → (pairs L)[k]? = some (pair L k) := fun k hk => by simp [pairs, hk]
  refine ⟨hl, ?_, fun k hk => ?_⟩
  · have h1 : (pairs L)[pre.length]? = some z := by rw [h]; simp
    rw [hat _ hl] at h1
    exact (Option.some.inj h1).symm
  · have h1 : (pairs L)[k]? = pre[k]? := by rw [h, List.getElem?_append_left hk]
    rw [hat k (by omega)] at h1
    exact List.mem_of_getElem? h1.symm
theorem pairs_mem {L : List I4} {j : Nat} (h : j < L.length) : pair L j ∈ pairs L := by
  unfold pairs
  exact List.mem_map.2 ⟨j, List.mem_range.2 h, rfl⟩
theorem prev_ok {L : List I4} (h : ∀ x ∈ L, enc4.ok x) (j : Nat) (hj : j < L.length) : enc4.ok (prev L j) := by
  cases j with
  | zero => rw [prev_zero]; exact ⟨by decide, by decide, by decide, by decide⟩
  | succ k => rw [prev_succ]; exact h _ (memG (d := zI4) (by omega))
theorem one_set {w : World} {b : Nat} {x u : Value} {t : TypeId} (h : Box w b #[x] t) : Box (w.setCell ⟨b, 0, none⟩ u) b #[u] t := by
  have hlt := h.lt
  have h' : w.heap[b] = .cells #[x] t (0, 0) := by have h := h; unfold Box at h; simpa [Array.getElem?_eq_getElem hlt] using h
  show (w.heap.modify b _)[b]? = _
  rw [Array.getElem?_eq_getElem (by simpa using hlt), Array.getElem_modify_self, h']
  rfl
theorem grown_any {w w' : World} (h : w.grownBy w' none) (r : Nat) : w.grownBy w' (some r) := ⟨h.os, h.tape, h.output, h.size, fun k hk _ => h.block k hk (fun e => by cases e)⟩
theorem linked_any (w : World) (a : Option Addr) (n cap : Nat) :
    Calls Tryd.prog 44 #[.slice a n cap] w fun e w' => e = .returned (.func (.func 60) #[] #[.pointer (some ⟨w.heap.size, 0, none⟩)]) ∧ w' = w.alloc (.cells #[.slice a n cap] 31) := by
  go_enter Tryd.func44, Tryd.ntmps44
  go_wp2
  go_ret
  exact ⟨rfl, rfl⟩

set_option maxRecDepth 100000 in
set_option maxHeartbeats 2000000 in
theorem iIsJ_any (w : World) (v : Value) (L : List I4) (hv : SeesG enc4 w v L) (hc : VC w) :
    Calls Tryd.prog 28 #[v] w fun e w' => e = .returned (.bool (isJ L)) ∧ w.grownBy w' none := by
  have HV := Lib.hid hv
  have HOK := Lib.hid hv.ok
  have HC := Lib.hid hc
  have hln := hv.len
  obtain ⟨a, cap, rfl, _⟩ := hv
  have HR0 := Lib.hid (box_new w #[.bool false] 4)
  have HG0 := Lib.hid (World.grownBy_alloc w (.cells #[.bool false] 4 (0, 0)) none)
  clear hc
  by_cases hlen : L.length ≤ 100
  rotate_left
  · have HR : Hid (isJ L = false) := isJ_len hlen
    have hlI : (100 : Int) < (L.length : Int) := by omega
    go_enter Tryd.func28, Tryd.ntmps28
    go_wp2
    try simp only [Exit.inBlock, Exit.then]
    exact ret_one rfl rfl (HR0.out.cell 0) Tryd.underlying4 rfl ⟨ret_bool HR.out.symm, HG0.out⟩
  · have hlI : (L.length : Int) ≤ 100 := by omega
    refine (callsIn_wide (n := 2)).1 ?_
    refine callsIn_of_wp_marks Tryd.func28 rfl trivial ?_ rfl
    simp only [Tryd.ntmps28, List.size_toArray, List.length_cons, List.length_nil, Nat.reduceAdd, Nat.reduceSub, Array.replicate_succ, Array.replicate_zero, List.push_toArray, List.append_toArray, List.nil_append, List.cons_append]
    gi_wp2_with fail
    refine ⟨trivial, (callsIn_wide.2 (linked_any _ a L.length cap)).mono ?_⟩
    rintro e w2 ⟨rfl, rfl⟩
    have HD := Lib.hid (box_new (w.alloc (.cells #[.bool false] 4 (0, 0))) #[.slice a L.length cap] 31)
    have hg2 := World.grownBy_alloc (w.alloc (.cells #[.bool false] 4 (0, 0))) (.cells #[.slice a L.length cap] 31 (0, 0)) none
    have HR2 := Lib.hid (HR0.out.grown hg2)
    have HG2 := Lib.hid (grownN_trans HG0.out hg2)
    have HSZ : Hid (((w.alloc (.cells #[.bool false] 4 (0, 0))).alloc (.cells #[.slice a L.length cap] 31 (0, 0))).heap.size = w.heap.size + 2) := by show _ = _; simp only [World.size_alloc]
    simp only [World.size_alloc] at HD
    clear hg2
    gi_wp2
    generalize (w.alloc (.cells #[.bool false] 4 (0, 0))).alloc (.cells #[.slice a L.length cap] 31 (0, 0)) = w2 at *
    refine range_stop (P := Tryd.prog) (m := 0) (gf := 60) (lb := #[.pointer (some ⟨w.heap.size + 1, 0, none⟩)]) rfl (enters_of Tryd.func60 (by kernel_rfl) rfl)
      encs (fun _ => rfl) w.heap.size w.heap.size (by rw [HSZ.out]; omega) (by rw [HSZ.out]; omega) (pairs L)
      (fun pre W => (∀ x ∈ pre, mf x.1 x.2 = true) ∧ Box W w.heap.size #[.bool false] 4 ∧ w.grownBy W none)
      (fun s W W' row hs hg hr => ⟨hs.1, hs.2.1.kept hg (fun e => by have := hr _ e; have := HSZ.out; omega), grown_of (r := none) hs.2.2 hg (fun c e => .inl (by have := hr _ e; have := HSZ.out; omega))⟩)
      ⟨(fun x hx => by cases hx), HR2.out, HG2.out⟩
      (fun W => isJ L = false ∧ Box W w.heap.size #[.bool false] 4 ∧ w.grownBy W none)
      (fun W W' row hs hg hr => ⟨hs.1, hs.2.1.kept hg (fun e => by have := hr _ e; have := HSZ.out; omega), grown_of (r := none) hs.2.2 hg (fun c e => .inl (by have := hr _ e; have := HSZ.out; omega))⟩)
      ?iter (fun x a' W => ∃ T, w2.heap.size + 2 ≤ T ∧ a' = { tmps := #[.slice a L.length cap, undef, .pointer (some ⟨w.heap.size, 0, none⟩), .pointer (some ⟨T, 0, none⟩), .pointer (some ⟨T + 1, 0, none⟩), .slice a L.length cap, .int .i64 L.length, .bool (decide ((100 : Int) < L.length)), .slice a L.length cap, .func (.func 60) #[] #[.pointer (some ⟨w.heap.size + 1, 0, none⟩)], .agg #[.int .i64 x.1.x0, .int .i64 x.1.x1, .int .i64 x.1.x2, .int .i64 x.1.x3], .agg #[.int .i64 x.2.x0, .int .i64 x.2.x1, .int .i64 x.2.x2, .int .i64 x.2.x3], undef, undef, undef, undef], defers := [] } ∧
        Box W T #[.int .i64 x.1.x0, .int .i64 x.1.x1, .int .i64 x.1.x2, .int .i64 x.1.x3] 42 ∧ Box W (T + 1) #[.int .i64 x.2.x0, .int .i64 x.2.x1, .int .i64 x.2.x2, .int .i64 x.2.x3] 42)
      (fun x a' W W' hA hg => by obtain ⟨T, h1, h2, h3, h4⟩ := hA; exact ⟨T, h1, h2, h3.kept hg (fun e => by injection e with e; omega), h4.kept hg (fun e => by injection e with e; omega)⟩) ?assign ?body ?done ?stop
    case iter =>
      intro W1 hg1 hs1 J' Jx' hJ' hJx' hY' h0'
      refine iter_any 0 W1 (w2.heap.size + 1) w.heap.size (w.heap.size + 1) a cap L (by omega) (HD.out.grown hg1) ((HC.out.grown HG2.out).grown hg1) ?_ (by have := HSZ.out; omega) (by omega) J' Jx' hJ' hY' h0'
      intro W hk
      exact HV.out.below ((grown_below (grownN_trans HG2.out hg1) _ (Nat.le_refl _)).trans (K2.below hk (by have := HSZ.out; omega) (by omega) (by have := HSZ.out; omega)))
    case assign =>
      intro l pre x W K hj hsz hK
      obtain ⟨⟨y0, y1, y2, y3⟩, ⟨x0, x1, x2, x3⟩⟩ := x
      unfold encs
      dsimp only
      gi_wp2
      have hg1 := World.grownBy_alloc W (.cells #[.int .i64 y0, .int .i64 y1, .int .i64 y2, .int .i64 y3] 42 (0, 0)) none
      have hg2 := World.grownBy_alloc (W.alloc (.cells #[.int .i64 y0, .int .i64 y1, .int .i64 y2, .int .i64 y3] 42 (0, 0))) (.cells #[.int .i64 x0, .int .i64 x1, .int .i64 x2, .int .i64 x3] 42 (0, 0)) none
      have hb1 := (box_new W #[.int .i64 y0, .int .i64 y1, .int .i64 y2, .int .i64 y3] 42).grown hg2
      have hb2 := box_new (W.alloc (.cells #[.int .i64 y0, .int .i64 y1, .int .i64 y2, .int .i64 y3] 42 (0, 0))) #[.int .i64 x0, .int .i64 x1, .int .i64 x2, .int .i64 x3] 42
      rw [World.size_alloc] at hb2
      exact hK _ _ (grownN_trans hg1 hg2) ⟨W.heap.size, hsz, rfl, hb1, hb2⟩
    case body =>
      rintro l pre x post a' W hds ⟨hp, hb, hg⟩ ⟨T, hT, rfl, hT1, hT2⟩
      obtain ⟨hl, hz, hin⟩ := pairs_mid hds
      have hok : okTo L pre.length := fun k hk => hp _ (hin k hk)
      have hbd := prev_bd hok
      have hxo : enc4.ok x.2 := by rw [hz]; exact HOK.out _ (memG (d := zI4) hl)
      have hyo : enc4.ok x.1 := by rw [hz]; exact prev_ok HOK.out _ hl
      have hyb : x.1.x0 ≤ 10000 := by rw [hz]; exact hbd.2
      have HM := Lib.hid fun W => mayFollow_any W x.2 x.1 hxo hyo hyb
      have HBAD : Hid (mf x.1 x.2 = false → isJ L = false) := fun h => isJ_bad hl (by rw [hz] at h; exact h)
      have HB := Lib.hid hb
      have HG := Lib.hid hg
      have HP := Lib.hid hp
      obtain ⟨p0, p1, p2, p3⟩ := four hT1
      obtain ⟨q0, q1, q2, q3⟩ := four hT2
      clear hds hz hin hok hbd hxo hyo hyb hp hb hg hT1 hT2 hl
      cases hm : mf x.1 x.2
      · rw [hm] at HM
        have HJF := Lib.hid (HBAD.out hm)
        clear hm
        gi_wp2_with fail
        refine ⟨trivial, rfl, (CallsIn.inRound l (callsIn_wide.2 (HM.out _))).mono ?_⟩
        rintro e W3 ⟨rfl, hg3⟩
        have hc := (HB.out.grown hg3).cell 0
        have hf := (HB.out.grown hg3).free 0
        have HB3 := Lib.hid (HB.out.grown hg3)
        have HG3 := Lib.hid hg3
        have HG4 := Lib.hid (grownN_trans HG.out hg3)
        clear hg3 p0 p1 p2 p3 q0 q1 q2 q3
        gi_wp2
        have hs := grown_set W3 w.heap.size 0 (.bool false)
        exact ⟨grown_of (r := some w.heap.size) HG3.out hs (fun c e => .inr e), HJF.out, one_set HB3.out, grown_of (r := none) HG4.out hs (fun c e => .inl (by injection e with e; omega))⟩
      · rw [hm] at HM
        have HMT := Lib.hid hm
        clear hm
        gi_wp2_with fail
        refine ⟨trivial, rfl, (CallsIn.inRound l (callsIn_wide.2 (HM.out _))).mono ?_⟩
        rintro e W3 ⟨rfl, hg3⟩
        have HB3 := Lib.hid (HB.out.grown hg3)
        have HG3 := Lib.hid hg3
        have HG4 := Lib.hid (grownN_trans HG.out hg3)
        clear hg3 p0 p1 p2 p3 q0 q1 q2 q3
        gi_wp2
        exact ⟨grown_any HG3.out _, fun za zb hz => by
          rcases hz with h | h
          · exact HP.out _ h
          · have := HMT.out; rw [← h] at this; exact this, HB3.out, HG4.out⟩
    case done =>
      rintro W ⟨hp, hb, hg⟩ hk
      have HR : Hid (isJ L = true) := isJ_yes hlen (fun j hj => hp _ (pairs_mem hj))
      have hs := grown_set W w.heap.size 0 (.bool true)
      have HB := Lib.hid (one_set (u := .bool true) hb)
      have HG := Lib.hid (grown_of (r := none) hg hs (fun c e => .inl (by injection e with e; omega)))
      have HK := Lib.hid ((hs.block w2.heap.size (Array.getElem?_eq_some_iff.1 hk).1 (fun e => by injection e with e; have := HSZ.out; omega)).trans hk)
      have hc := hb.cell 0
      have hf := hb.free 0
      clear hp hb hg hk hs
      gi_wp2
      refine ⟨by simp, .inl ⟨_, _, rfl, run_takeDeferred HK.out, ?_⟩⟩
      exact ⟨.bool true, results_one rfl rfl ((HB.out.kept (grownBy_putObj' _ _ _) (fun e => by injection e with e; have := HSZ.out; omega)).cell 0) Tryd.underlying4, by rw [HR.out], grown_of (r := none) HG.out (grownBy_putObj' _ _ _) (fun c e => .inl (by injection e with e; have := HSZ.out; omega))⟩
    case stop =>
      rintro W ⟨hj, hb, hg⟩ hk
      have HR := Lib.hid hj
      have HB := Lib.hid hb
      have HG := Lib.hid hg
      have HK := Lib.hid hk
      clear hj hb hg hk
      gi_wp2
      refine ⟨by simp, .inl ⟨_, _, rfl, run_takeDeferred HK.out, ?_⟩⟩
      exact ⟨.bool false, results_one rfl rfl ((HB.out.kept (grownBy_putObj' _ _ _) (fun e => by injection e with e; have := HSZ.out; omega)).cell 0) Tryd.underlying4, by rw [HR.out], grown_of (r := none) HG.out (grownBy_putObj' _ _ _) (fun c e => .inl (by injection e with e; have := HSZ.out; omega))⟩
end Go.Proofs.YtbpiojnehomljaaDoor.Jrn
