/- What the law of ways says, of the days and ways themselves. Plain facts. A strings.Builder of the call's own: written rune by rune (ASCII), and read. The shelf's contract of (*strings.Builder).String at this dump, laid by the shelf's own command, in plain words. Contract of the weather's text: a sign for each day of the worst return. -/
import Derived.Test.YtonalkamfgpokaaGreatG24
import Derived.Test.YtonalkamfgpokaaGreatG1
import Derived.Test.YtonalkamfgpokaaGreatMBase
import Derived.Lib.Builder
import Derived.Lib.OthersKept
import Derived.Shelf.Strings.Builder1
import Derived.Test.YtonalkamfgpokaaGreatProg
import Derived.Test.YtonalkamfgpokaaGreatG15
import Derived.Test.YtonalkamfgpokaaGreatG8
namespace Go.Proofs.YtonalkamfgpokaaGreat.Wf
open Go.RowKit Kit Rw Ld Bfs Gr

theorem daysOf_high (W H : Int) (X : List Int) (a b : Int) : daysOf W H X a b ≤ 64 := by
  unfold daysOf
  split
  · rename_i h
    obtain ⟨p, q, n, rfl, rfl, rfl, hn, hL, h64, _⟩ := open_nat h.1
    obtain ⟨p', q', m, e1, e2, rfl, hm, _⟩ := open_nat h.2
    have := dist_lt hL (a := (n : Int)) (by omega) (by omega) (n := (m : Int)) (by omega) (by omega)
    omega
  · omega
theorem daysOf_pos {W H : Int} {X : List Int} {a b : Int} (h : 0 ≤ daysOf W H X a b) : isOpen W H X a = true ∧ isOpen W H X b = true ∧ daysOf W H X a b = at' (distL W X b) a := by
  unfold daysOf at h ⊢
  split at h
  · rename_i k; rw [if_pos k]; exact ⟨k.1, k.2, dist_sym k.1 k.2⟩
  · omega
theorem wayFrom_at (W : Int) (X d : List Int) : ∀ (k i : Nat) (n : Int), i < k → (wayFrom W X d k n).getD i 0 = wayAt W X d i n
  | 0, i, _, h => absurd h (Nat.not_lt_zero _)
  | k + 1, 0, n, _ => rfl
  | k + 1, i + 1, n, h => by
    rw [wayAt_next]
    exact wayFrom_at W X d k i _ (by omega)
/-- Along a way the days go down one by one. -/
theorem wayAt_days {p h a : Nat} {X : List Int} (ho : isOpen p h X a = true) {n : Int} (n0 : 0 ≤ n) (n1 : n < X.length) (hd : 0 ≤ at' (distL p X a) n) : ∀ i : Nat, (i : Int) ≤ at' (distL p X a) n →
    at' (distL p X a) (wayAt p X (distL p X a) i n) = at' (distL p X a) n - i ∧ 0 ≤ wayAt p X (distL p X a) i n ∧ wayAt p X (distL p X a) i n < X.length ∧ isOpen p h X (wayAt p X (distL p X a) i n) = true
  | 0, _ => ⟨by simp [wayAt], n0, n1, dist_open ho n0 n1 hd⟩
  | i + 1, hi => by
    obtain ⟨h1, h2, h3, _⟩ := wayAt_days ho n0 n1 hd i (by omega)
    have hc := (isOpen_of ho).1
    obtain ⟨hL, a0, a1⟩ := isCell_of hc
    have hne : wayAt p X (distL p X a) i n ≠ a := fun e => by
      rw [e, (dist_is hL a0 a1).src] at h1; omega
    have hk := nearer_day ho h2 h3 (by omega) hne
    have hin := near_in hL h2 h3 hk.2
    simp only [wayAt]
    refine ⟨by rw [hk.1]; omega, hin.1, hin.2.1, dist_open ho hin.1 hin.2.1 (by rw [hk.1]; omega)⟩
theorem dist_zero {p h a : Nat} {X : List Int} (ho : isOpen p h X a = true) {n : Int} (n0 : 0 ≤ n) (n1 : n < X.length) (hd : at' (distL p X a) n = 0) : n = a := by
  obtain ⟨hL, a0, a1⟩ := isCell_of (isOpen_of ho).1
  by_cases e : n = a
  · exact e
  · obtain ⟨m, _, _, m2, _, m4⟩ := (dist_is hL a0 a1).pre n n0 n1 e (by omega)
    omega
/-- A way from a to b, as the law has it. -/
structure WayP (W H : Int) (X : List Int) (a b : Int) (d : Nat) (L : List Int) : Prop where
  len : L.length = d + 1
  way : isWayOf W H X L = true
  first : L.getD 0 0 = a
  last : L.getD d 0 = b
  far : apart W H X a b ≤ d
  days : ∀ i, i ≤ d → daysOf W H X (L.getD i 0) b = (d : Int) - i
  rest : ∀ i, i ≤ d → wayOf W H X (L.getD i 0) b = L.drop i
end Go.Proofs.YtonalkamfgpokaaGreat.Wf

namespace Go.Proofs.YtonalkamfgpokaaGreat.Bld
open Go.RowKit Kit Rw Rg

theorem szB : (Tryz.prog.info? 219).map (·.size) = some 2 := by kernel_rfl
theorem liesB : liesAt Tryz.prog Tryz.prog.depth 219 (2 / Tryz.prog.cellsOf 219) 0 219 1 = true := by kernel_rfl
theorem info_u8 : (Tryz.prog.info? 5).map (fun i => (i.zero, i.size, i.bytes)) = some (some (.int .u8 0), 1, 1) := by kernel_rfl
/-- A builder in block b that holds the bytes L; its rows lie behind it. -/
def Bd (w : World) (b : Nat) (L : List Int) : Prop :=
  ∃ p v, (p = .pointer none ∨ p = .pointer (some ⟨b, 0, none⟩)) ∧ Box w b #[p, v] 219 ∧ Own .u8 5 w (b + 1) v L
def Bu (w : World) (b : Nat) (v : Value) (L : List Int) : Prop := Box w b #[.pointer (some ⟨b, 0, none⟩), v] 219 ∧ Own .u8 5 w (b + 1) v L
theorem Bd.new (w : World) : Bd (w.alloc (.cells #[.pointer none, .slice none 0 0] 219 (0, 0))) w.heap.size [] :=
  ⟨_, _, .inl rfl, box_new _ _ _, ⟨World.ownsRow_nil _ _ _ _, by simp⟩⟩
theorem Bu.bd {w : World} {b : Nat} {v : Value} {L : List Int} (h : Bu w b v L) : Bd w b L := ⟨_, v, .inr rfl, h.1, h.2⟩
theorem Bd.lt {w : World} {b : Nat} {L : List Int} (h : Bd w b L) : b < w.heap.size := by obtain ⟨_, _, _, h, _⟩ := h; exact h.lt
theorem set2_0 {w : World} {b : Nat} {x y u : Value} {t : TypeId} (h : Box w b #[x, y] t) : Box (w.setCell ⟨b, 0, none⟩ u) b #[u, y] t := box_set h 0 u
theorem set2_1 {w : World} {b : Nat} {x y u : Value} {t : TypeId} (h : Box w b #[x, y] t) : Box (w.setCell ⟨b, 1, none⟩ u) b #[x, u] t := box_set h 1 u
theorem own_off {w : World} {b : Nat} {v : Value} {L : List Int} (h : Own .u8 5 w (b + 1) v L) : v.ownBlock = none ∨ v.ownBlock ≠ some b := .inr fun e => by have := h.1.lt _ e; omega
theorem grown_below' {w w' : World} {b : Nat} (h : w.grownBy w' (some b)) (hB : b < w.heap.size) : Below b w w' := (Below.refl b w).grown h (Nat.le_of_lt hB) (fun k hk => by injection hk; omega)
theorem ret_one {a : Int} (h : a = 1) : Ending.returned (.tuple #[.int .i64 a, .nilIface]) = .returned (.tuple #[.int .i64 1, .nilIface]) := by rw [h]
/-- How much is written. -/
def bufLen (w : World) (b : Nat) : Nat := match w.cell? ⟨b, 1, none⟩ with
  | some (.slice _ n _) => n
  | _ => 0
theorem Bd.bufLen {w : World} {b : Nat} {L : List Int} (h : Bd w b L) : bufLen w b = L.length := by
  obtain ⟨p, v, _, hb, ho⟩ := h
  obtain ⟨va, vn, vc, rfl, HN⟩ := ho.sees.shape
  unfold Bld.bufLen
  rw [hb.cell 1]
  exact HN.out.symm
/-- Whatever leaves the blocks from the builder on as they were. -/
theorem Bd.kept {w w' : World} {b : Nat} {L : List Int} (h : Bd w b L) (hs : w.heap.size ≤ w'.heap.size) (hk : ∀ k, b ≤ k → k < w.heap.size → w'.heap[k]? = w.heap[k]?) : Bd w' b L := by
  obtain ⟨p, v, hp, hb, ho, hw⟩ := h
  refine ⟨p, v, hp, (hk b (Nat.le_refl _) hb.lt).trans hb, ?_, hw⟩
  obtain ⟨h1, h2⟩ := ho
  refine ⟨h1, ?_⟩
  rcases h2 with h2 | ⟨g, cap, cur, hv, hg, hh, r⟩
  · exact .inl h2
  · have hlt : g < w.heap.size := by
      rcases Nat.lt_or_ge g w.heap.size with h' | h'
      · exact h'
      · rw [Array.getElem?_eq_none h'] at hh; cases hh
    exact .inr ⟨g, cap, cur, hv, hg, (hk g (by omega) hlt).trans hh, r⟩

set_option maxHeartbeats 1000000 in
set_option maxRecDepth 100000 in
theorem check_any (w : World) (b : Nat) (L : List Int) (h : Bd w b L) :
    Calls Tryz.prog 226 #[.pointer (some ⟨b, 0, none⟩)] w fun e w' => e = .returned (.tuple #[]) ∧ (∃ v, Bu w' b v L) ∧ w.grownBy w' (some b) := by
  obtain ⟨j, hj, hjs⟩ := Option.map_eq_some_iff.1 szB
  obtain ⟨p, v, hp, hb, ho⟩ := h
  have HO := Lib.hid ho
  have HB := Lib.hid hb
  rcases hp with rfl | rfl
  · have h0 : w.cell? ⟨b, 0, none⟩ = some (.pointer none) := hb.cell 0
    have hsh : w.shape? b = some (219, 2) := by
      have h' : w.heap[b]? = _ := hb
      simp [World.shape?, h']
    have hfz := hb.free 0
    clear hb ho
    go_enter Tryz.func226, Tryz.ntmps226
    go_wp2
    rw [Lib.run_to_unsafe w ⟨b, 0, none⟩ Tryz.underlying216 Tryz.underlying234 hj (by rw [hjs]; decide) hsh (Nat.zero_lt_succ 1)]
    simp only [Result.andThen]
    rw [Oper.upon_value]
    go_wp2
    rw [run_callFunc_extern Tryz.func231 (by kernel_rfl) (by kernel_rfl) (by kernel_rfl) (e := Extern.AbiNoEscape.same) (by kernel_rfl)]
    rw [Lib.run_noEscape]
    simp only [Result.andThen]
    rw [Oper.upon_value]
    go_wp2
    rw [Lib.run_from_unsafe w ⟨b, 0, none⟩ Tryz.underlying234 Tryz.underlying216 hj hsh liesB]
    simp only [Result.andThen]
    rw [Oper.upon_value]
    go_wp2
    go_end0
    exact ⟨rfl, ⟨v, set2_0 HB.out, HO.out.kept (grown_set w b 0 _) (own_off HO.out)⟩, grown_set w b 0 _⟩
  · have h0 : w.cell? ⟨b, 0, none⟩ = some (.pointer (some ⟨b, 0, none⟩)) := hb.cell 0
    clear hb ho
    go_enter Tryz.func226, Tryz.ntmps226
    go_wp2
    rw [Lib.run_neq_ptr_same w _ Tryz.underlying216 hj]
    go_wp2
    go_end0
    exact ⟨rfl, ⟨v, HB.out, HO.out⟩, World.grownBy.refl _ _⟩

set_option maxHeartbeats 1000000 in
set_option maxRecDepth 100000 in
theorem rune_any (w : World) (base : Nat) (v : Value) (L : List Int) (r : Nat) (hr : r = 115 ∨ r = 46) (hv : Own .u8 5 w base v L) (hl : L.length ≤ 1000000000) (hb : base ≤ w.heap.size) :
    Calls Tryz.prog 227 #[v, .int .i32 (r : Int)] w fun e w' => ∃ u, e = .returned u ∧ Own .u8 5 w' base u (L ++ [(r : Int)]) ∧ w.grownBy w' v.ownBlock := by
  obtain ⟨i0, hi, hz0, hz1, hz2⟩ := info_parts info_u8
  have HV := Lib.hid hv
  have hr0 : (0 : Int) ≤ (r : Int) := by omega
  have hr1 : (r : Int) ≤ 127 := by omega
  have hc1 : IntKind.u32.wrap (r : Int) = (r : Int) := by rcases hr with rfl | rfl <;> decide
  have hc2 : IntKind.u8.wrap (r : Int) = (r : Int) := by rcases hr with rfl | rfl <;> decide
  have HWF : Hid ((Lit.int .u8 (r : Int)).wf = true) := by show _ = _; rcases hr with rfl | rfl <;> decide
  clear hr
  clear hv
  go_enter Tryz.func227, Tryz.ntmps227
  go_wp2_with (at_builtin; go_loud (refine wpList_append_one _ rfl _ _ 217 rfl base 5 i0 (.int .u8 0) 1 Tryz.underlying217 hi hz0 hz1 hz2 rfl .u8 _ L rfl HV.out (r : Int) rfl HWF.out (by omega) (by decide) hb ?_); intro v3 w3 hown3 hgrow3; have HO3 := Lib.hid hown3; have HG3 := Lib.hid hgrow3; clear hown3 hgrow3)
  go_ret
  exact ⟨_, rfl, HO3.out, HG3.out⟩

set_option maxHeartbeats 1000000 in
set_option maxRecDepth 100000 in
/-- One rune more. -/
theorem write_any (w : World) (b : Nat) (L : List Int) (r : Nat) (hr : r = 115 ∨ r = 46) (h : Bd w b L) (hl : L.length ≤ 3000000) :
    Calls Tryz.prog 215 #[.pointer (some ⟨b, 0, none⟩), .int .i32 (r : Int)] w fun e w' => e = .returned (.tuple #[.int .i64 1, .nilIface]) ∧ Bd w' b (L ++ [(r : Int)]) ∧ Below b w w' := by
  have HC := Lib.hid (check_any w b L h)
  have HR := Lib.hid hr
  have HLT := Lib.hid h.lt
  clear h hr
  go_enter Tryz.func215, Tryz.ntmps215
  go_wp2_with fail
  refine HC.out.mono ?_
  rintro e w1 ⟨rfl, ⟨v, hb1, ho1⟩, hg1⟩
  obtain ⟨va, vn, vc, rfl, HN⟩ := ho1.sees.shape
  have hvn : vn ≤ 3000000 := by rw [← HN.out]; exact hl
  have c1 : w1.cell? ⟨b, 1, none⟩ = some (.slice va vn vc) := hb1.cell 1
  have HB1 := Lib.hid hb1
  have HO1 := Lib.hid ho1
  have HG1 := Lib.hid (grown_below' hg1 HLT.out)
  clear hb1 ho1 hg1 HC
  go_wp2_with fail
  refine (rune_any w1 (b + 1) _ L r HR.out HO1.out (by omega) HB1.out.lt).mono ?_
  rintro e w2 ⟨u, rfl, ho2, hg2⟩
  obtain ⟨ua, un, uc, rfl, HUN⟩ := ho2.sees.shape
  have hun : un = vn + 1 := by rw [← HUN.out, ← HN.out]; simp
  subst hun
  have hne : (Value.slice va vn vc).ownBlock ≠ some b := fun e => by have := HO1.out.1.lt _ e; omega
  have HB2 := Lib.hid (HB1.out.kept hg2 hne)
  have HB3 := Lib.hid (set2_1 (u := .slice ua (vn + 1) uc) HB2.out)
  have HO2 := Lib.hid ho2
  have HG2 : Hid (Below b w w2) := HG1.out.trans ((Below.refl b w1).grown hg2 (Nat.le_of_lt HB1.out.lt) (fun k hk => by have := HO1.out.1.lt _ hk; omega))
  have HO3 := Lib.hid (HO2.out.kept (grown_set w2 b 1 (.slice ua (vn + 1) uc)) (own_off HO2.out))
  have HG3 : Hid (Below b w (w2.setCell ⟨b, 1, none⟩ (.slice ua (vn + 1) uc))) := HG2.out.trans (grown_below' (grown_set w2 b 1 (.slice ua (vn + 1) uc)) HB2.out.lt)
  have d1 := HB2.out.cell 1
  have f1 := HB2.out.free 1
  have e1 : World.cell? _ ⟨b, 1, none⟩ = some (.slice ua (vn + 1) uc) := HB3.out.cell 1
  clear ho2 hg2 c1
  go_wp2
  go_ret2
  exact ⟨ret_one (by omega), ⟨_, _, .inr rfl, HB3.out, HO3.out⟩, HG3.out⟩
end Go.Proofs.YtonalkamfgpokaaGreat.Bld

namespace Go.Proofs
open Go.Shelf
def Tryz.lays169_ren : Go.Shelf.Ren := ⟨fun | 169 => 216 | n => n, fun | 70 => 216 | 9 => 9 | 0 => 0 | 72 => 219 | 37 => 217 | 127 => 229 | 3 => 3 | 5 => 5 | n => n, fun | n => n⟩
theorem Tryz.lays169 : Go.Proofs.Lays.n169 Tryz.prog Tryz.lays169_ren := {
  mixed := by kernel_rfl
  f169 := Tryz.func216.trans (congrArg some (by kernel_rfl))
  t0 := Tryz.underlying0
  a0 := Tryz.isAgg0
  z0 := Tryz.sizeOf0
  v0 := Tryz.zeroValue0
  t3 := Tryz.underlying3
  a3 := Tryz.isAgg3
  z3 := Tryz.sizeOf3
  v3 := Tryz.zeroValue3
  t9 := Tryz.underlying9
  a9 := Tryz.isAgg9
  z9 := Tryz.sizeOf9
  v9 := Tryz.zeroValue9
  t37 := Tryz.underlying217
  a37 := Tryz.isAgg217
  z37 := Tryz.sizeOf217
  v37 := Tryz.zeroValue217
  t70 := Tryz.underlying216
  a70 := Tryz.isAgg216
  z70 := Tryz.sizeOf216
  v70 := Tryz.zeroValue216
  t72 := Tryz.underlying219
  a72 := Tryz.isAgg219
  z72 := Tryz.sizeOf219
  v72 := Tryz.zeroValue219
  t127 := Tryz.underlying229
  a127 := Tryz.isAgg229
  z127 := Tryz.sizeOf229
  v127 := Tryz.zeroValue229 }
theorem Tryz.Builder_Extra_169 : Builder.Extra Tryz.prog Tryz.lays169_ren := {
  sizeBuilder := by kernel_rfl
  liesBuilder := by kernel_rfl
  t5 := Tryz.underlying5
  a5 := Tryz.isAgg5
  z5 := Tryz.sizeOf5
  v5 := Tryz.zeroValue5
  infoByte := by kernel_rfl
  cellsByte := by kernel_rfl
  sizeByte := by kernel_rfl
  neB5 := by decide }
end Go.Proofs

namespace Go.Proofs.YtonalkamfgpokaaGreat.Sgn
open Go.RowKit Kit Rw Rg Stm Md StormS StI Hom Bld

def code (b : Bool) : Int := if b then 115 else 46
def codes (S : List Bool) : List Int := S.map code
def byte (b : Bool) : UInt8 := if b then 115 else 46
/-- The text of a weather. -/
def text (S : List Bool) : ByteArray := ⟨(S.map byte).toArray⟩
theorem codes_cells (S : List Bool) : (codes S).map (Value.int .u8) = Lib.byteCells (S.map byte) := by
  unfold codes Lib.byteCells
  rw [List.map_map, List.map_map]
  apply List.map_congr_left
  intro b _
  cases b <;> rfl
theorem codes_len (S : List Bool) : (codes S).length = S.length := by simp [codes]
theorem codes_next (S : List Bool) (b : Bool) : codes (S ++ [b]) = codes S ++ [code b] := by simp [codes]
theorem isB {w : World} {b : Nat} {S : List Bool} (h : Bd w b (codes S)) : Lib.IsBuilder 219 5 b b (Lib.byteCells (S.map byte)) w := by
  obtain ⟨p, v, hp, hb, ho⟩ := h
  have hown : w.ownsRow b 5 1 v (Lib.byteCells (S.map byte)).length (Lib.byteCells (S.map byte)) := by
    have h1 := ho.1
    rw [codes_cells] at h1
    have hl : (codes S).length = (Lib.byteCells (S.map byte)).length := by rw [← codes_cells]; simp
    rw [hl] at h1
    obtain ⟨h1, h2⟩ := h1
    refine ⟨h1, ?_⟩
    rcases h2 with h2 | ⟨g, cap, cur, hv, hg, r⟩
    · exact .inl h2
    · exact .inr ⟨g, cap, cur, hv, by omega, r⟩
  have hne : v.ownBlock ≠ some b := fun e => by have := ho.1.lt _ e; omega
  rcases hp with rfl | rfl
  · exact .inl ⟨Nat.le_refl _, v, hb, hown, hne⟩
  · exact .inr ⟨Nat.le_refl _, v, hb, hown, hne⟩
theorem string_any (w : World) (b : Nat) (S : List Bool) (h : Bd w b (codes S)) :
    Calls Tryz.prog 216 #[.pointer (some ⟨b, 0, none⟩)] w fun e w' => e = .returned (.string (text S)) ∧ Below b w w' :=
  Any.Builder_String_any Tryz.lays169 Tryz.Builder_Extra_169 b b (S.map byte) w (isB h) (Nat.le_of_lt h.lt)

set_option maxHeartbeats 1000000 in
/-- The closure, and what it leaves as it was. -/
theorem clos_two (w : World) (base b g cap p : Nat) (m : Int) (n : Nat) (L : List Bool) (hW : Wy w base b g cap m n L) (hp : Box w p #[.pointer (some ⟨b, 0, none⟩)] 158) (hpb : p ≠ b) (hpg : p ≠ g) :
    Calls Tryz.prog 225 #[.pointer (some ⟨p, 0, none⟩)] w fun e w' => e = .returned (.bool (decide ((lastN (n - 1) L : Int) < m))) ∧
      Wy w' base b g cap m n (L ++ [decide ((lastN (n - 1) L : Int) < m)]) ∧ Box w' p #[.pointer (some ⟨b, 0, none⟩)] 158 ∧ Below base w w' ∧ ∀ k, k < w.heap.size → k ≠ b → k ≠ g → w'.heap[k]? = w.heap[k]? := by
  have HW := Lib.hid hW
  have HP := Lib.hid hp
  have c0 := hp.cell 0
  have hbs : base ≤ w.heap.size := by obtain ⟨D, t, h1, h2, _⟩ := hW; have := h2.lt g rfl; omega
  have hsz := hp.lt
  obtain ⟨s, hs⟩ : ∃ s, s = decide ((lastN (n - 1) L : Int) < m) := ⟨_, rfl⟩
  have ha := may_any w base b m n L hW.any
  rw [← hs] at ha ⊢
  have HA := Lib.hid ha
  clear ha hs hW hp
  go_enter Tryz.func225, Tryz.ntmps225
  go_wp2_with fail
  refine HA.out.mono ?_
  rintro e w1 ⟨rfl, hg⟩
  have HW1 := Lib.hid (HW.out.grown hg)
  have HP1 := Lib.hid (HP.out.grown hg)
  have HB1 := Lib.hid (grown_below hg base hbs)
  have HK1 : Hid (∀ k, k < w.heap.size → w1.heap[k]? = w.heap[k]?) := fun k hk => hg.block k hk (fun e => by cases e)
  have HS1 := Lib.hid hg.size
  have c1 := HP1.out.cell 0
  have hsz1 := HP1.out.lt
  clear hg c0
  go_wp2_with fail
  refine (pass_one _ base b g cap m n L s HW1.out).mono ?_
  rintro e w2 ⟨rfl, hw, hb, hk⟩
  have HW2 := Lib.hid hw
  have HB2 := Lib.hid hb
  have HP2 : Hid (Box w2 p #[.pointer (some ⟨b, 0, none⟩)] 158) := (hk p hsz1 hpb hpg).trans HP1.out
  have HK2 : Hid (∀ k, k < w.heap.size → k ≠ b → k ≠ g → w2.heap[k]? = w.heap[k]?) := fun k h1 h2 h3 => (hk k (Nat.lt_of_lt_of_le h1 HS1.out) h2 h3).trans (HK1.out k h1)
  clear hw hb hk c1
  go_wp2
  go_ret
  exact ⟨rfl, HW2.out, HP2.out, HB1.out.trans HB2.out, HK2.out⟩

/-- Where the weather's ring, its closure and the builder stand. -/
structure WB (w : World) (base b g cap p B : Nat) (m : Int) (n : Nat) (L S : List Bool) : Prop where
  ring : Wy w base b g cap m n L
  clo : Box w p #[.pointer (some ⟨b, 0, none⟩)] 158
  bd : Bd w B (codes S)
  off : p ≠ b ∧ p ≠ g ∧ b < B ∧ g < B ∧ p < B ∧ base ≤ B
theorem wy_below {w w' : World} {base b g cap : Nat} {m : Int} {n B : Nat} {L : List Bool} (h : Wy w base b g cap m n L) (hb : Below B w w') (h1 : b < B) (h2 : g < B) : Wy w' base b g cap m n L := by
  obtain ⟨D, t, q1, q2, q3⟩ := h
  exact ⟨D, t, (hb.block b h1).trans q1, q2.under hb (fun c hc => by have : g = c := (by simpa [Value.ownBlock] using hc); omega), q3⟩
theorem WB.write {w w' : World} {base b g cap p B : Nat} {m : Int} {n : Nat} {L S S' : List Bool} (h : WB w base b g cap p B m n L S) (hb : Below B w w') (hd : Bd w' B (codes S')) : WB w' base b g cap p B m n L S' :=
  ⟨wy_below h.ring hb h.off.2.2.1 h.off.2.2.2.1, (hb.block p h.off.2.2.2.2.1).trans h.clo, hd, h.off⟩
theorem WB.day {w w' : World} {base b g cap p B : Nat} {m : Int} {n : Nat} {L L' S : List Bool} (h : WB w base b g cap p B m n L S) (hw : Wy w' base b g cap m n L') (hp : Box w' p #[.pointer (some ⟨b, 0, none⟩)] 158) (hs : w.heap.size ≤ w'.heap.size) (hk : ∀ k, k < w.heap.size → k ≠ b → k ≠ g → w'.heap[k]? = w.heap[k]?) : WB w' base b g cap p B m n L' S :=
  ⟨hw, hp, h.bd.kept hs (fun k h1 h2 => hk k h2 (by have := h.off; omega) (by have := h.off; omega)), h.off⟩

theorem ret_str {S T : List Bool} (h : S = T) : Ending.returned (.string (text S)) = .returned (.string (text T)) := by rw [h]
theorem may_dec {m n : Nat} (L : List Bool) : decide ((lastN (n - 1) L : Int) < (m : Int)) = may m n L := by
  unfold may
  by_cases h : lastN (n - 1) L < m
  · rw [decide_eq_true h, decide_eq_true (by omega)]
  · rw [decide_eq_false h, decide_eq_false (by omega)]

set_option maxRecDepth 20000 in
set_option maxHeartbeats 2000000 in
theorem signs_any (w : World) (M N : Nat) (k : Int) (hM : (Lit.int .i64 (M : Int)).wf = true) (hMN : M < N) (hN : N ≤ 10) (hk : k ≤ 100000) (v : Value) (P : List Bool) (hv : SeesG encB w v P) :
    Calls Tryz.prog 205 #[.agg #[.int .i64 (M : Int), .int .i64 (N : Int)], v, .int .i64 k] w fun e w' => e = .returned (.string (text (signs M N P k.toNat))) ∧ w.grownBy w' none := by
  have hgr := World.grownBy_alloc w (.cells #[.int .i64 (M : Int), .int .i64 (N : Int)] 38 (0, 0)) none
  have HV := Lib.hid (hv.grown hgr)
  have HG0 := Lib.hid hgr
  obtain ⟨c0, c1⟩ := StormS.two (box_new w #[.int .i64 (M : Int), .int .i64 (N : Int)] 38)
  have ha := fun w hv => worstW_any w (M : Int) N v P hM (by omega) hN hv
  have HA := Lib.hid ha
  have HK := Lib.hid (And.intro hMN hN)
  obtain ⟨T, hT⟩ : ∃ T, T = signs M N P k.toNat := ⟨_, rfl⟩
  have HT := Lib.hid hT
  rw [← hT]
  have hTl : T.length ≤ 3000000 := by rw [hT]; have := signs_len M N P k.toNat; omega
  clear hT
  clear ha hgr hv hM
  go_enter Tryz.func205, Tryz.ntmps205
  go_wp2_with fail
  generalize w.alloc (.cells #[.int .i64 (M : Int), .int .i64 (N : Int)] 38 (0, 0)) = w0 at *
  refine (HA.out _ HV.out).mono ?_
  rintro e w1 ⟨b, g, cap, p, rfl, hW, hp, hpb, hpg, hg⟩
  have hg2 := World.grownBy_alloc w1 (.cells #[.pointer none, .slice none 0 0] 219 (0, 0)) (none : Option Nat)
  have hlts : b < w1.heap.size ∧ g < w1.heap.size ∧ w0.heap.size ≤ w1.heap.size := by
    obtain ⟨D, t, h1, h2, _⟩ := hW
    exact ⟨h1.lt, (h2.lt g rfl).2, hg.size⟩
  have HWB : Hid (WB (w1.alloc (.cells #[.pointer none, .slice none 0 0] 219 (0, 0))) w0.heap.size b g cap p w1.heap.size (M : Int) N P []) :=
    ⟨hW.grown hg2, hp.grown hg2, Bd.new w1, hpb, hpg, hlts.1, hlts.2.1, hp.lt, hlts.2.2⟩
  have HG2 := Lib.hid (grownN_trans (grownN_trans HG0.out hg) hg2)
  have HSZ : Hid (w.heap.size ≤ w0.heap.size) := HG0.out.size
  clear hg hW hp hpb hpg c0 c1 HA hg2 hlts
  go_wp2
  generalize w1.alloc (.cells #[.pointer none, .slice none 0 0] 219 (0, 0)) = w2 at *
  generalize w1.heap.size = B at *
  generalize w0.heap.size = base at *
  go_loopw [13] (fun i wr => ∃ j : Nat, ∃ L S : List Bool, j ≤ k.toNat ∧ i = .int .i64 j ∧ Hid (S ++ signs M N L (k.toNat - j) = T) ∧ Hid (WB wr base b g cap p B (M : Int) N L S) ∧ Hid (w.grownBy wr none)) (fun i _ => k.toNat - (intOf i).toNat)
  case atStart => exact ⟨0, P, [], Nat.zero_le _, rfl, by show _ = _; rw [HT.out]; simp, HWB, HG2⟩
  case round =>
    rename_i _ wr
    obtain ⟨j, L, S, hj, rfl, HE, HW, HG⟩ := hrel
    by_cases hlt : j < k.toNat
    · have hltI : (j : Int) < k := by omega
      go_wp2
      go_loopw [] (fun wz => ∃ L S : List Bool, Hid (S ++ signs M N L (k.toNat - j) = T) ∧ Hid (WB wz base b g cap p B (M : Int) N L S) ∧ Hid (w.grownBy wz none)) (fun wz => 3000001 - bufLen wz B)
      case atStart => exact ⟨L, S, HE, HW, HG⟩
      case round =>
        obtain ⟨L2, S2, HE2, HW2, HG2'⟩ := hrel
        have HN := Lib.hid (signs_next (L := L2) HK.out.1 HK.out.2 (show k.toNat - j ≠ 0 by omega))
        have hSl : S2.length ≤ 3000000 := by
          have h := congrArg List.length HE2.out
          rw [List.length_append] at h
          omega
        have HC := Lib.hid (clos_two _ base b g cap p (M : Int) N L2 HW2.out.ring HW2.out.clo HW2.out.off.1 HW2.out.off.2.1)
        rw [may_dec] at HC
        cases hm : may M N L2
        · rw [hm] at HC HN
          have HE3 : Hid ((S2 ++ [false]) ++ signs M N (L2 ++ [false]) (k.toNat - (j + 1)) = T) := by
            show _ = _
            rw [← HE2.out, HN.out, if_neg (by simp), List.append_assoc, show k.toNat - (j + 1) = k.toNat - j - 1 by omega]; rfl
          have HSL := Lib.hid (show (codes S2).length ≤ 3000000 by rw [codes_len]; exact hSl)
          clear hm
          go_wp2_with fail
          refine HC.out.mono ?_
          rintro e w5 ⟨rfl, h5, h6, h7, h8⟩
          have HS5 := Lib.hid h7.size
          have HW5 := Lib.hid (HW2.out.day h5 h6 HS5.out h8)
          have HG5 := Lib.hid (below_grown ((grown_below HG2'.out _ (Nat.le_refl _)).trans (h7.mono HSZ.out)))
          clear h5 h6 h7 h8
          go_wp2_with fail
          refine (write_any w5 B (codes S2) 46 (.inr rfl) HW5.out.bd HSL.out).mono ?_
          rintro e w6 ⟨rfl, h5, h6⟩
          have HW6 := Lib.hid (HW5.out.write (S' := S2 ++ [false]) h6 (by rw [codes_next]; exact h5))
          have HG6 := Lib.hid (below_grown ((grown_below HG5.out _ (Nat.le_refl _)).trans (h6.mono (by have := HSZ.out; have := HW5.out.off; omega))))
          clear h5 h6
          go_wp2
          go_roundw
          case rel => exact ⟨j + 1, L2 ++ [false], S2 ++ [false], by omega, by go_num, HE3, HW6, HG6⟩
          case measure => simp [intOf]; omega
        · rw [hm] at HC HN
          have HE3 : Hid ((S2 ++ [true]) ++ signs M N (L2 ++ [true]) (k.toNat - j) = T) := by
            show _ = _
            rw [← HE2.out, HN.out, if_pos rfl, List.append_assoc]; rfl
          have HSL := Lib.hid (show (codes S2).length ≤ 3000000 by rw [codes_len]; exact hSl)
          have HBL := Lib.hid HW2.out.bd.bufLen
          have hS3 : (S2 ++ [true]).length ≤ 3000000 := by
            have h := congrArg List.length HE3.out
            rw [List.length_append] at h
            omega
          clear hm
          go_wp2_with fail
          refine HC.out.mono ?_
          rintro e w5 ⟨rfl, h5, h6, h7, h8⟩
          have HS5 := Lib.hid h7.size
          have HW5 := Lib.hid (HW2.out.day h5 h6 HS5.out h8)
          have HG5 := Lib.hid (below_grown ((grown_below HG2'.out _ (Nat.le_refl _)).trans (h7.mono HSZ.out)))
          clear h5 h6 h7 h8
          go_wp2_with fail
          refine (write_any w5 B (codes S2) 115 (.inl rfl) HW5.out.bd HSL.out).mono ?_
          rintro e w6 ⟨rfl, h5, h6⟩
          have HW6 := Lib.hid (HW5.out.write (S' := S2 ++ [true]) h6 (by rw [codes_next]; exact h5))
          have HG6 := Lib.hid (below_grown ((grown_below HG5.out _ (Nat.le_refl _)).trans (h6.mono (by have := HSZ.out; have := HW5.out.off; omega))))
          clear h5 h6
          go_wp2
          go_roundw
          case rel => exact ⟨L2 ++ [true], S2 ++ [true], HE3, HW6, HG6⟩
          case measure =>
            have h1 := HW6.out.bd.bufLen
            have h2 := HBL.out
            rw [codes_len] at h1 h2
            simp only [List.length_append, List.length_singleton] at h1 hS3
            omega
    · have hjk : j = k.toNat := by omega
      have HR : Hid (S = T) := by show _ = _; rw [← HE.out, hjk, Nat.sub_self, signs_zero, List.append_nil]
      have hnl : ¬ (j : Int) < k := by omega
      go_wp2_with fail
      refine (string_any wr B S HW.out.bd).mono ?_
      rintro e w5 ⟨rfl, hb⟩
      have HB := Lib.hid hb
      clear hb
      go_wp2
      go_ret
      exact ⟨ret_str HR.out, below_grown ((grown_below HG.out _ (Nat.le_refl _)).trans (HB.out.mono (by have := HSZ.out; have := HW.out.off; omega)))⟩
end Go.Proofs.YtonalkamfgpokaaGreat.Sgn
