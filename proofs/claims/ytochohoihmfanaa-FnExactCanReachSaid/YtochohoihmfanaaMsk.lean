/- Contracts of weights, their sums by mask and whether a sum can be reached, of the program and of its model. -/
import Derived.Test.YtochohoihmfanaaMBase
import Derived.Test.YtochohoihmfanaaLandI
import Derived.Test.YtochohoihmfanaaCont
import Derived.IntWalk
import Derived.WalkKit
import Derived.OwnWalk
import Derived.Test.YtochohoihmfanaaShr
namespace Go.Proofs.Ytochohoihmfanaa.Msk
open Go.RowKit Kit Rw Rg Md

def ok1 (z : Int) : Prop := 1 ≤ z ∧ z ≤ 100
instance (z : Int) : Decidable (ok1 z) := by unfold ok1; infer_instance
def okL (L : List Int) : Bool := decide (∀ z ∈ L, ok1 z) && decide (L.length ≤ 12)
theorem ok_yes {L : List Int} (h : ∀ m, m < L.length → ok1 (L.getD m 0)) (h12 : L.length ≤ 12) : okL L = true := by
  simp only [okL, Bool.and_eq_true, decide_eq_true_eq]
  refine ⟨fun z hz => ?_, h12⟩
  obtain ⟨j, hj, rfl⟩ := List.getElem_of_mem hz
  have := h j hj
  simpa [hj] using this
theorem ok_no {L : List Int} {j : Nat} (hj : j < L.length) (h : ¬ ok1 (L.getD j 0)) : okL L = false := by
  simp only [okL, Bool.and_eq_false_iff, decide_eq_false_iff_not]
  exact .inl fun k => h (k _ (Cont.mem_getD hj))
theorem ok_long {L : List Int} (h : ¬ L.length ≤ 12) : okL L = false := by
  simp only [okL, Bool.and_eq_false_iff, decide_eq_false_iff_not]
  exact .inr h
theorem ok_at {L : List Int} (h : okL L = true) {j : Nat} (hj : j < L.length) : ok1 (L.getD j 0) := by
  simp only [okL, Bool.and_eq_true, decide_eq_true_eq] at h
  exact h.1 _ (Cont.mem_getD hj)
theorem ok_len {L : List Int} (h : okL L = true) : L.length ≤ 12 := by
  simp only [okL, Bool.and_eq_true, decide_eq_true_eq] at h
  exact h.2

set_option maxRecDepth 20000 in
set_option maxHeartbeats 1000000 in
theorem iAre_any (w : World) (u : Value) (L : List Int) (hu : Sees .i64 w u L) :
    Calls Try.prog 74 #[u] w fun e w' => e = .returned (.bool (okL L)) ∧ w = w' := by
  have hl := hu.len
  obtain ⟨a, n, cap, rfl, HN⟩ := hu.shape
  have HU := Lib.hid hu
  have hl2 : n ≤ 9223372036854775807 := by rw [← HN.out]; exact hl
  clear hu hl
  by_cases h12 : n ≤ 12
  · go_enter Try.func74, Try.ntmps74
    go_wp2
    go_loop [10] (fun i => ∃ j : Nat, j ≤ n ∧ i = .int .i64 j ∧ Hid (∀ m, m < j → ok1 (L.getD m 0))) (fun i => n - (intOf i).toNat)
    case atStart => exact ⟨0, Nat.zero_le _, rfl, fun m hm => absurd hm (Nat.not_lt_zero _)⟩
    case round =>
      obtain ⟨j, hj, rfl, HE⟩ := hrel
      by_cases hlt : j < n
      · obtain ⟨y, hy⟩ : ∃ y, y = L.getD j 0 := ⟨_, rfl⟩
        obtain ⟨b, o, rfl, hcj⟩ := HU.out.at_row (j := j) (by rw [HN.out]; exact hlt)
        rw [← hy] at hcj
        have HY := Lib.hid hy
        clear hy
        by_cases hne : 1 ≤ y ∧ y ≤ 100
        · have HI := Lib.hid fun w' => LandI.inRange_yes w' hne
          have HNE := Lib.hid hne
          clear hne
          go_wp2_with fail
          refine (HI.out _).mono ?_
          rintro e w2 ⟨rfl, rfl⟩
          go_wp2
          go_round
          case rel =>
            refine ⟨j + 1, by omega, by go_num, fun m hm => ?_⟩
            by_cases h : m = j
            · subst h; rw [← HY.out]; exact HNE.out
            · exact HE.out m (by omega)
          case measure => simp [intOf]; omega
        · have HI := Lib.hid fun w' => LandI.inRange_no w' hne
          have HR : Hid (okL L = false) := ok_no (j := j) (by rw [HN.out]; exact hlt) (by rw [← HY.out]; exact hne)
          clear hne
          go_wp2_with fail
          refine (HI.out _).mono ?_
          rintro e w2 ⟨rfl, rfl⟩
          go_wp2
          go_ret
          exact ⟨Cont.ret_bool HR.out.symm, rfl⟩
      · have hjn : n = j := by omega
        subst hjn
        have HM : Hid (okL L = true) := ok_yes (by rw [HN.out]; exact HE.out) (by rw [HN.out]; exact h12)
        go_wp2
        go_ret
        exact ⟨Cont.ret_bool HM.out.symm, rfl⟩
  · have HR : Hid (okL L = false) := ok_long (by rw [HN.out]; exact h12)
    go_enter Try.func74, Try.ntmps74
    go_wp2
    go_ret
    exact ⟨Cont.ret_bool HR.out.symm, rfl⟩

theorem info_int : (Try.prog.info? 3).map (fun i => (i.zero, i.size, i.bytes)) = some (some (.int .i64 0), 1, 8) := by kernel_rfl
def sums (L : List Int) : Nat → List Int
  | 0 => [0]
  | j + 1 => (sums L j).flatMap fun s => [s, s + L.getD j 0]
def half (L : List Int) (j t : Nat) : List Int := ((sums L j).take t).flatMap fun s => [s, s + L.getD j 0]
theorem sums_len (L : List Int) : ∀ j, (sums L j).length = 2 ^ j
  | 0 => rfl
  | j + 1 => by
    rw [sums, List.length_flatMap]
    simp only [List.length_cons, List.length_nil, List.map_const', List.sum_replicate_nat, sums_len L j]
    rw [Nat.pow_succ]
theorem half_next {L : List Int} {j t : Nat} (h : t < (sums L j).length) : half L j (t + 1) = half L j t ++ [(sums L j).getD t 0, (sums L j).getD t 0 + L.getD j 0] := by
  unfold half
  rw [List.take_succ_eq_append_getElem h, List.flatMap_append]
  simp [h]
theorem half_full (L : List Int) (j : Nat) : half L j (sums L j).length = sums L (j + 1) := by
  unfold half; rw [List.take_length]; rfl
theorem half_len {L : List Int} {j t : Nat} (h : t ≤ (sums L j).length) : (half L j t).length = 2 * t := by
  unfold half
  rw [List.length_flatMap]
  simp only [List.length_cons, List.length_nil, List.map_const', List.sum_replicate_nat, List.length_take]
  omega
theorem sums_bd {L : List Int} (h : okL L = true) : ∀ j, j ≤ L.length → ∀ s ∈ sums L j, 0 ≤ s ∧ s ≤ 100 * (j : Int)
  | 0, _, s, hs => by simp [sums] at hs; omega
  | j + 1, hj, s, hs => by
    simp only [sums, List.mem_flatMap, List.mem_cons, List.not_mem_nil, or_false] at hs
    obtain ⟨z, hz, e⟩ := hs
    have h1 := sums_bd h j (by omega) z hz
    have h2 := ok_at h (j := j) (by omega)
    unfold ok1 at h2
    rcases e with e | e <;> omega
theorem sees_two {k : IntKind} {E : TypeId} (w : World) (x y : Int) (hx : (Lit.int k x).wf = true) (hy : (Lit.int k y).wf = true) : Sees k (w.alloc (.cells #[.int k x, .int k y] E (0, 0))) (.slice (some ⟨w.heap.size, 0, none⟩) 2 2) [x, y] := by
  refine ⟨_, 2, rfl, by simp, by unfold maxLen; omega, (fun h => by cases h), fun n hn => by
    simp only [List.mem_cons, List.not_mem_nil, or_false] at hn
    rcases hn with rfl | rfl
    · exact hx
    · exact hy, .inr ⟨_, _, rfl, fun j hj => ?_⟩⟩
  simp only [List.length_cons, List.length_nil] at hj
  obtain rfl | rfl : j = 0 ∨ j = 1 := by omega
  all_goals
    rw [World.cell?_alloc_new]
    simp
theorem wpList_append_two {P : Program} (w : World) {ops : Array Oper} {rest : List Oper} {o : Oper} {a : Act} {Q : Exit → Act → World → Prop} (hgd : o.guard = none) (s xo : Operand) (t : TypeId)
    (ho : o.op = .call { callee := .builtin .append, args := #[s, xo], argTypes := #[t, t] })
    (base : Nat) (E : TypeId) (i : TypeInfo) (z : Value) (bytes : Nat) (ht : P.underlying t = some (.slice E)) (hi : P.info? E = some i) (hz : i.zero = some z)
    (hsize : i.size = 1) (hby : i.bytes = bytes) (hzs : z.cells.size = 1) (k : IntKind)
    (v : Value) (L : List Int) (hs : a.eval s = v) (hown : Own k E w base v L) (x y : Int) (hx : a.eval xo = .slice (some ⟨w.heap.size, 0, none⟩) 2 2) (hwf : (Lit.int k x).wf = true) (hwy : (Lit.int k y).wf = true)
    (hl : L.length ≤ 1000000000000) (hb8 : bytes ≤ 8) (hbase : base ≤ w.heap.size)
    (h : ∀ v' w', Own k E w' base v' (L ++ [x, y]) → w.grownBy w' v.ownBlock → wpList P ops Q rest (a.put o.dst v') w') : wpList P ops Q (o :: rest) a (w.alloc (.cells #[.int k x, .int k y] E (0, 0))) := by
  refine wpList_append_sees _ hgd s xo t ho base E i z bytes ht hi hz hsize hby hzs k v L hs (hown.grown (World.grownBy_alloc _ _ _)) _ [x, y] hx (sees_two w x y hwf hwy) ?_ ?_ ?_ ?_
  · simp only [List.length_cons, List.length_nil]; unfold maxLen; omega
  · simp only [List.length_cons, List.length_nil]
    exact Nat.le_trans (Nat.mul_le_mul (show L.length + (0 + 1 + 1) ≤ 10000000000001 by omega) hb8) (by decide)
  · simp; omega
  · intro v' w' h1 h2
    exact h v' w' h1 (grownN_trans (World.grownBy_alloc _ _ _) h2)
theorem own_zero (w : World) : Own .i64 3 (w.alloc (.cells #[.int .i64 0] 3 (0, 0))) w.heap.size (.slice (some ⟨w.heap.size, 0, none⟩) 1 1) [0] :=
  ⟨World.ownsRow_lit (size := 1) w #[.int .i64 0] 1 (Nat.le_refl _) (by unfold maxLen; omega) rfl, by simp; rfl⟩

set_option maxRecDepth 20000 in
set_option maxHeartbeats 1000000 in
theorem sums_any (w : World) (u : Value) (L : List Int) (hu : Sees .i64 w u L) (hok : okL L = true) :
    Calls Try.prog 76 #[u] w fun e w' => ∃ v, e = .returned v ∧ Own .i64 3 w' w.heap.size v (sums L L.length) ∧ w.grownBy w' none := by
  obtain ⟨a, n, cap, rfl, HN⟩ := hu.shape
  have HU := Lib.hid hu
  have HK := Lib.hid hok
  have h12 := ok_len hok
  rw [HN.out] at h12
  obtain ⟨i0, hi, hz0, hz1, hz2⟩ := info_parts info_int
  have HS0 := Lib.hid (own_zero w)
  have HG0 := Lib.hid (World.grownBy_alloc w (.cells #[.int .i64 0] 3 (0, 0)) none)
  clear hu hok
  go_enter Try.func76, Try.ntmps76
  go_wp2_with fail
  generalize w.alloc (.cells #[.int .i64 0] 3 (0, 0)) = W0 at *
  go_loopw [3, 12] (fun v i wr => ∃ j : Nat, j ≤ n ∧ i = .int .i64 j ∧ Hid (Own .i64 3 wr w.heap.size v (sums L j)) ∧ Hid (w.grownBy wr none)) (fun _ i _ => n - (intOf i).toNat)
  case atStart => exact ⟨0, Nat.zero_le _, rfl, HS0, HG0⟩
  case round =>
    obtain ⟨j, hj, rfl, HS, HG⟩ := hrel
    by_cases hlt : j < n
    · have hjL : j < L.length := by rw [HN.out]; exact hlt
      obtain ⟨b, o, rfl, hcj⟩ := (HU.out.grown HG.out).at_row (j := j) hjL
      obtain ⟨x, hx⟩ : ∃ x, x = L.getD j 0 := ⟨_, rfl⟩
      rw [← hx] at hcj
      have HX := Lib.hid hx
      clear hx
      obtain ⟨sb, so, sc, hsv, hsl⟩ := HS.out.sees.shape
      rw [hsv] at HS ⊢
      clear hsv
      have hl1 := sums_len L j
      have hp1 : 2 ^ j ≤ 2 ^ 12 := Nat.pow_le_pow_right (by omega) (by omega)
      have hso : so ≤ 4096 := by rw [← hsl.out, hl1]; exact hp1
      have hl2 := hsl.out
      rw [← hl2] at hso
      have HSL := Lib.hid (And.intro hl2 hso)
      clear hl1 hp1 hsl hl2 hso
      go_wp2_with (at_make; go_loud (refine wpList_make_own _ rfl _ _ 24 rfl wr.heap.size 3 i0 (.int .i64 0) 1 Try.underlying24 hi hz0 hz1 .i64 .i64 _ (2 * so) rfl rfl (by have hh := HSL.out; first | exact (IntWalk.wrap64_in _ (by omega)).trans (by omega) | exact (wrap64_in _ (by omega)).trans (by omega) | exact (IntWalk.i64_in _ (by omega)).trans (by omega)) (by rw [hz2]; have := HSL.out; omega) (by have := HSL.out; unfold maxLen; omega) (Nat.le_refl _) ?_); intro w1 hown hgrow; have HO : Hid (Rw.Own .i64 3 w1 wr.heap.size (.slice (some ⟨wr.heap.size, 0, none⟩) 0 (2 * so)) []) := ⟨by simpa using hown, by simp⟩; have HG1 := Lib.hid hgrow; clear hown hgrow)
      have HSr := HS
      obtain ⟨B, hB⟩ : ∃ B, B = wr.heap.size := ⟨_, rfl⟩
      have HWB := Lib.hid (show w.heap.size ≤ B by rw [hB]; exact HG.out.size)
      have HBW := Lib.hid (show B ≤ w1.heap.size by rw [hB]; exact HG1.out.size)
      have HAP := Lib.hid (show ∀ (y : World) (v : Value) (M : List Int), Own .i64 3 y B v M → _ from fun y v M h => (h.apart HSr.out (Nat.le_of_eq hB.symm)).2)
      rw [← hB] at HO ⊢
      have HQ : Hid (Own .i64 3 w1 B (.slice (some ⟨B, 0, none⟩) 0 (2 * so)) (half L j 0)) := HO
      have HS1 := Lib.hid (HS.out.grown HG1.out)
      have HGR := Lib.hid (grownN_trans HG.out HG1.out)
      clear HO HG1 HS HG HSr hB
      go_wp2_with fail
      go_loopw [6, 22] (fun v t wy => ∃ k : Nat, k ≤ so ∧ t = .int .i64 k ∧ Hid (Own .i64 3 wy B v (half L j k)) ∧ Hid (Own .i64 3 wy w.heap.size (.slice sb so sc) (sums L j)) ∧ Hid (w.grownBy wy none) ∧ Hid (B ≤ wy.heap.size)) (fun _ t _ => so - (intOf t).toNat)
      case atStart => exact ⟨0, Nat.zero_le _, rfl, HQ, HS1, HGR, HBW⟩
      case round =>
        obtain ⟨k, hk, rfl, HO, HS, HG, HZ⟩ := hrel
        by_cases hkl : k < so
        · have hks : k < (sums L j).length := by have := HSL.out; omega
          obtain ⟨c, p, rfl, hck⟩ := HS.out.sees.at_row (j := k) hks
          have hzb := sums_bd HK.out j (by omega) _ (Cont.mem_getD hks)
          have hxb := ok_at HK.out (j := j) (by omega)
          have hk4 : k < 4096 := by have := HSL.out; omega
          have hwk : wrap64 ((k : Int) + 1) = k + 1 := IntWalk.wrap64_in _ (by omega)
          have hnx := half_next hks
          have hlk := half_len (Nat.le_of_lt hks)
          rw [← HX.out] at hnx hxb
          obtain ⟨z, hz⟩ : ∃ z, z = (sums L j).getD k 0 := ⟨_, rfl⟩
          rw [← hz] at hck hzb hnx
          unfold ok1 at hxb
          have HNX := Lib.hid hnx
          have HLK := Lib.hid hlk
          have hzx : IntKind.i64.wrap (z + x) = z + x := IntWalk.i64_in _ (by omega)
          have HB := Lib.hid (show (0 ≤ z ∧ z ≤ 1200) ∧ 1 ≤ x ∧ x ≤ 100 by omega)
          clear hnx hz hks hlk hzb hxb
          go_wp2_with (at_builtin; go_loud (refine wpList_append_two _ rfl _ _ 24 rfl B 3 i0 (.int .i64 0) 8 Try.underlying24 hi hz0 hz1 hz2 rfl .i64 _ (half L j k) rfl HO.out z (z + x) rfl (i64_mk (by have := HB.out; omega)) (i64_mk (by have := HB.out; omega)) (by have := HLK.out; have := HSL.out; omega) (by decide) HZ.out ?_); intro v4 w4 hown4 hgrow4; have HO6 := Lib.hid hown4; have HS6 := Lib.hid (HS.out.kept hgrow4 (HAP.out _ _ _ HO.out)); have HG6 := Lib.hid (grown_new HG.out hgrow4 (fun c hc => Nat.le_trans HWB.out (HO.out.lt c hc).1)); have HZ6 := Lib.hid (Nat.le_trans HZ.out hgrow4.size); clear hown4 hgrow4)
          go_roundw
          case rel => exact ⟨k + 1, by omega, by go_num, by rw [HNX.out]; exact HO6, HS6, HG6, HZ6⟩
          case measure => simp [intOf]; omega
        · have hkn : so = k := by omega
          have HF : Hid (Own .i64 3 wr w.heap.size u6 (sums L (j + 1))) := by
            show Own _ _ _ _ _ _
            rw [← half_full, HSL.out.1, hkn]
            exact HO.out.lower HWB.out
          go_wp2
          go_roundw
          case rel => exact ⟨j + 1, by omega, by go_num, HF, HG⟩
          case measure => simp [intOf]; omega
    · have hjn : n = j := by omega
      subst hjn
      go_wp2
      go_ret
      exact ⟨_, rfl, by rw [HN.out]; exact HS.out, HG.out⟩
end Go.Proofs.Ytochohoihmfanaa.Msk
