/- Contracts of who leads a rope, of the program and of its model. -/
import Derived.Test.YtfcjbkagofccdaaLeadF
import Derived.Test.YtfcjbkagofccdaaMapP
import Derived.Test.YtfcjbkagofccdaaFour
import Derived.IntWalk
import Derived.Deep.QuietTactic
import Derived.BigQuiet
import Derived.Deep.RegionLaw
import Derived.Deep.RegionHeld3
namespace Go.Proofs.Ytfcjbkagofccdaa.Led
open Go.RowKit Kit Rw Rg Crw Mq Four

def mc (m : Mem) : Array Value := #[.int .i64 m.id, .int .i64 m.str, .int .i64 m.need, .bool m.ill, .bool false]
/-- Block b is a roster of the members: each number leads to a block of its first member. -/
structure Ros (wr : World) (b n : Nat) (f : Int → Option Nat) (L : List Mem) : Prop where
  map : IsP wr b n f
  has : ∀ k, (first L k = none ∧ f k = none) ∨ ∃ m g, first L k = some m ∧ f k = some g ∧ Box wr g (mc m) 99 ∧ b < g
section
variable {w wr wy : World} {b n g : Nat} {f : Int → Option Nat} {L : List Mem} {x : Mem}
theorem Ros.grown (h : Ros wr b n f L) (hg : wr.grownBy wy none) : Ros wy b n f L :=
  ⟨h.map.grown hg, fun k => by
    rcases h.has k with h1 | ⟨m, g, h1, h2, h3, h4⟩
    · exact .inl h1
    · exact .inr ⟨m, g, h1, h2, h3.grown hg, h4⟩⟩
theorem Ros.start (w : World) : Ros (w.alloc (.map #[] 0)) w.heap.size 0 (fun _ => none) [] := ⟨isP_made w, fun _ => .inl ⟨rfl, rfl⟩⟩
theorem Ros.skip {m : Mem} (h : Ros wr b n f L) (hx : first L x.id = some m) : Ros wr b (n + 1) f (L ++ [x]) :=
  ⟨h.map.mono (by omega), fun k => by
    rw [first_snoc]
    rcases h.has k with ⟨h1, h2⟩ | ⟨m', g, h1, h2, h3, h4⟩
    · rw [h1]
      have hk : x.id ≠ k := fun e => by rw [e, h1] at hx; cases hx
      simp only [if_neg hk]
      exact .inl ⟨trivial, h2⟩
    · rw [h1]; exact .inr ⟨m', g, rfl, h2, h3, h4⟩⟩
theorem Ros.add (h : Ros wr b n f L) (hx : first L x.id = none) (hm : IsP wy b (n + 1) (upd f x.id g)) (hb : Box wy g (mc x) 99) (hbg : b < g) (hg : wr.grownBy wy (some b)) : Ros wy b (n + 1) (upd f x.id g) (L ++ [x]) :=
  ⟨hm, fun k => by
    rw [first_snoc]
    unfold upd
    rcases h.has k with ⟨h1, h2⟩ | ⟨m', g', h1, h2, h3, h4⟩
    · rw [h1]
      by_cases hk : x.id = k
      · simp only [if_pos hk, if_pos hk.symm]
        exact .inr ⟨x, g, rfl, rfl, hb, hbg⟩
      · simp only [if_neg hk, if_neg (fun e => hk (Eq.symm e))]
        exact .inl ⟨trivial, h2⟩
    · rw [h1]
      have hk : ¬ k = x.id := fun e => by rw [e, hx] at h1; cases h1
      simp only [if_neg hk]
      exact .inr ⟨m', g', rfl, h2, h3.kept hg (fun e => by injection e with e; omega), h4⟩⟩
end
theorem five {w : World} {g : Nat} {m : Mem} (h : Box w g (mc m) 99) : w.cell? ⟨g, 0, none⟩ = some (.int .i64 m.id) ∧ w.cell? ⟨g, 1, none⟩ = some (.int .i64 m.str) := ⟨h.cell 0, h.cell 1⟩

set_option maxRecDepth 20000 in
set_option maxHeartbeats 2000000 in
theorem roster_any (w : World) (v : Value) (L : List Mem) (hv : SeesG encM w v L) (hn : L.length ≤ 100000000) :
    Calls Try.prog 69 #[v] w fun e w' => ∃ b f, e = .returned (.map (some b)) ∧ Ros w' b L.length f L ∧ w.grownBy w' none := by
  have hmm := fun (w : World) (k : IntKind) (n : Int) => run_make_hint Try.underlying95 w k n
  have HV := Lib.hid hv
  have HOK := Lib.hid hv.ok
  obtain ⟨a, cap, rfl, _⟩ := hv
  have HR0 : Hid (Ros (w.alloc (.map #[] 0)) w.heap.size 0 (fun _ => none) (L.take 0)) := by rw [List.take_zero]; exact Ros.start w
  have HG0 := Lib.hid (World.grownBy_alloc w (.map #[] 0) none)
  go_enter Try.func69, Try.ntmps69
  go_wp2
  go_loopw [11] (fun i wr => ∃ (j : Nat) (f : Int → Option Nat), j ≤ L.length ∧ i = .int .i64 j ∧ Hid (Ros wr w.heap.size j f (L.take j)) ∧ Hid (w.grownBy wr none)) (fun i _ => L.length - (intOf i).toNat)
  case atStart => exact ⟨0, _, Nat.zero_le _, rfl, HR0, HG0⟩
  case round =>
    rename_i _ wr
    obtain ⟨j, f, hj, rfl, HR, HG⟩ := hrel
    by_cases hlt : j < L.length
    · obtain ⟨b, o, rfl, _, _⟩ := HV.out.at_row hlt
      obtain ⟨x, hx⟩ : ∃ x, L.getD j zM = x := ⟨_, rfl⟩
      obtain ⟨d0, d1, d2, d3⟩ := atM_in HV.out HG.out hlt hx
      have hxi : (Lit.int .i64 x.id).wf = true := by rw [← hx]; exact (HOK.out _ (memG hlt)).1
      have HXI := Lib.hid (i64_of hxi)
      have HT := Lib.hid (take_snoc hlt)
      rw [hx] at HT
      have HSZ : Hid (w.heap.size < wr.heap.size) := HR.out.map.lt
      clear hxi hx
      have hga := World.grownBy_alloc wr (.cells #[.int .i64 x.id, .int .i64 x.str, .int .i64 x.need, .bool x.ill] 92 (0, 0)) (none : Option Nat)
      have HB1 := Lib.hid (box_new wr #[.int .i64 x.id, .int .i64 x.str, .int .i64 x.need, .bool x.ill] 92)
      have HG1 := Lib.hid (grownN_trans HG.out hga)
      have HR1 := Lib.hid (HR.out.grown hga)
      rcases HR.out.has x.id with ⟨h1, h2⟩ | ⟨m, g, h1, h2, h3, h4⟩
      · have H1 := Lib.hid h1
        have H2 := Lib.hid h2
        have hgb := World.grownBy_alloc (wr.alloc (.cells #[.int .i64 x.id, .int .i64 x.str, .int .i64 x.need, .bool x.ill] 92 (0, 0))) (.cells (mc x) 99 (0, 0)) (none : Option Nat)
        have hb2 := box_new (wr.alloc (.cells #[.int .i64 x.id, .int .i64 x.str, .int .i64 x.need, .bool x.ill] 92 (0, 0))) (mc x) 99
        simp only [World.size_alloc] at hb2
        have HB2 := Lib.hid hb2
        have HG2 := Lib.hid (grownN_trans HG1.out hgb)
        have HM2 := Lib.hid (HR1.out.map.grown hgb)
        have HGW := Lib.hid (grownN_trans hga hgb)
        clear hga hgb h1 h2 hb2
        go_wp2_with (first
          | (at_lookup; go_loud (refine wpP_lookup _ rfl _ _ 95 rfl Try.underlying95 w.heap.size j _ rfl HR1.out.map x.id (i64_mk HXI.out) rfl ?_); rw [H2.out]; (try simp only [ptr]))
          | (at_mapUpdate; go_loud (refine wpP_store _ rfl _ _ _ 95 rfl Try.underlying95 w.heap.size j _ rfl HM2.out (by omega) x.id (i64_mk HXI.out) rfl (wr.heap.size + 1) rfl ?_); intro w3 hm3 hg3; have HR3 := Lib.hid (HR.out.add H1.out hm3 (HB2.out.kept hg3 (by intro e; injection e with e; have := HSZ.out; omega)) (by have := HSZ.out; omega) (grown_old' HGW.out hg3)); have HG3 := Lib.hid (grown_new HG2.out hg3 (fun c hc => by injection hc with hc; omega)); clear hm3 hg3))
        go_roundw
        case rel => exact ⟨j + 1, _, by omega, by go_num, by rw [HT.out]; exact HR3, HG3⟩
        case measure => simp [intOf]; omega
      · have H2 := Lib.hid h2
        have HS := Lib.hid (HR1.out.skip (x := x) h1)
        clear hga h1 h2 h3 h4
        go_wp2_with (at_lookup; go_loud (refine wpP_lookup _ rfl _ _ 95 rfl Try.underlying95 w.heap.size j _ rfl HR1.out.map x.id (i64_mk HXI.out) rfl ?_); rw [H2.out]; (try simp only [ptr]))
        go_roundw
        case rel => exact ⟨j + 1, f, by omega, by go_num, by rw [HT.out]; exact HS, HG1⟩
        case measure => simp [intOf]; omega
    · have : j = L.length := by omega
      subst this
      go_wp2
      go_ret
      exact ⟨_, f, rfl, by have := HR.out; rw [List.take_length] at this; exact this, HG.out⟩

theorem info_int : (Try.prog.info? 3).map (fun i => (i.zero, i.size, i.bytes)) = some (some (.int .i64 0), 1, 8) := by kernel_rfl

set_option maxRecDepth 20000 in
set_option maxHeartbeats 1000000 in
theorem find_any (w : World) (v : Value) (L : List Mem) (k : Int) (hv : SeesG encM w v L) :
    Calls Try.prog 67 #[v, .int .i64 k] w fun e w' => ∃ q : Int, e = .returned (.int .i64 q) ∧ ((q = -1 ∧ first L k = none) ∨ ∃ i : Nat, q = i ∧ i < L.length ∧ first L k = some (L.getD i zM)) ∧ w.grownBy w' none := by
  have hl := hv.len
  have HV := Lib.hid hv
  obtain ⟨a, cap, rfl, _⟩ := hv
  go_enter Try.func67, Try.ntmps67
  go_wp2
  go_loopw [5] (fun i wr => ∃ j : Nat, j ≤ L.length ∧ i = .int .i64 j ∧ Hid (∀ i, i < j → (L.getD i zM).id ≠ k) ∧ Hid (w.grownBy wr none)) (fun i _ => L.length - (intOf i).toNat)
  case atStart => exact ⟨0, Nat.zero_le _, rfl, fun m hm => absurd hm (Nat.not_lt_zero _), World.grownBy.refl _ _⟩
  case round =>
    rename_i _ wr
    obtain ⟨j, hj, rfl, HE, HG⟩ := hrel
    by_cases hlt : j < L.length
    · obtain ⟨b, o, rfl, _, _⟩ := HV.out.at_row hlt
      obtain ⟨x, hx⟩ : ∃ x, L.getD j zM = x := ⟨_, rfl⟩
      obtain ⟨d0, d1, d2, d3⟩ := atM_in HV.out HG.out hlt hx
      by_cases hk : x.id = k
      · have HF := Lib.hid (first_at hlt HE.out (by rw [hx]; exact hk))
        clear hx
        go_wp2
        go_ret
        exact ⟨_, rfl, .inr ⟨j, rfl, hlt, HF.out⟩, HG.out⟩
      · have HE2 : Hid (∀ i, i < j + 1 → (L.getD i zM).id ≠ k) := fun i hi => by
          by_cases h : i = j
          · rw [h, hx]; exact hk
          · exact HE.out i (by omega)
        clear hx
        go_wp2
        go_roundw
        case rel => exact ⟨j + 1, by omega, by go_num, HE2, HG⟩
        case measure => simp [intOf]; omega
    · have : j = L.length := by omega
      subst this
      have HF := Lib.hid (first_none HE.out)
      go_wp2
      go_ret
      exact ⟨_, rfl, .inl ⟨rfl, HF.out⟩, HG.out⟩
end Go.Proofs.Ytfcjbkagofccdaa.Led
