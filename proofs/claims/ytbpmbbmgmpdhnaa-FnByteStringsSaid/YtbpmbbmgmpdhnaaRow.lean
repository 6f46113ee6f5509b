/- What a slice value of integers reads as in a world, what it owns, and how both go on. No condition. -/
import Derived.Test.YtbpmbbmgmpdhnaaKit
import Derived.OwnWalk
import Derived.Laws.AppendOwnNone
import Derived.Laws.BytesArg
import Derived.Lib.Hide
namespace Go.Proofs.Ytbpmbbmgmpdhnaa.Rw
open Go.RowKit Kit

/-- 'v' is a slice value whose elements read in 'w' as the numbers L. -/
def Sees (k : IntKind) (w : World) (v : Value) (L : List Int) : Prop :=
  ∃ a cap, v = .slice a L.length cap ∧ L.length ≤ cap ∧ cap ≤ maxLen ∧ (a = none → cap = 0) ∧ (∀ n ∈ L, (Lit.int k n).wf = true) ∧
    (L = [] ∨ ∃ b o, a = some ⟨b, o, none⟩ ∧ ∀ j, j < L.length → w.cell? ⟨b, o + j, none⟩ = some (.int k (L.getD j 0)))

/-- 'v' owns a row of its own, in a block from 'base' on, that holds the numbers L. -/
def Own (k : IntKind) (E : TypeId) (w : World) (base : Nat) (v : Value) (L : List Int) : Prop :=
  w.ownsRow base E 1 v L.length (L.map (Value.int k)) ∧ ∀ n ∈ L, (Lit.int k n).wf = true

theorem getD_map {k : IntKind} {L : List Int} {j : Nat} (hj : j < L.length) : (L.map (Value.int k))[j]? = some (.int k (L.getD j 0)) := by
  simp [hj]

theorem Own.sees {k : IntKind} {E : TypeId} {w : World} {base : Nat} {v : Value} {L : List Int} (h : Own k E w base v L) : Sees k w v L := by
  obtain ⟨ho, hw⟩ := h
  have ho' := ho
  rcases ho.2 with ⟨rfl, hn⟩ | ⟨g, cap, cur, rfl, hb, hg, hnc, hcm, hcs, ht⟩
  · refine ⟨none, 0, by rw [hn], by omega, by unfold maxLen; omega, fun _ => rfl, hw, .inl (List.eq_nil_of_length_eq_zero hn)⟩
  · refine ⟨_, cap, rfl, hnc, hcm, fun h => by simp at h, hw, .inr ⟨g, 0, rfl, fun j hj => ?_⟩⟩
    rw [Nat.zero_add, ho'.cellAt j (by omega), getD_map hj]

theorem Sees.len {k : IntKind} {w : World} {v : Value} {L : List Int} (h : Sees k w v L) : L.length ≤ 9223372036854775807 := by
  obtain ⟨a, cap, _, h1, h2, _⟩ := h
  unfold maxLen at h2; omega

theorem Sees.kept {k : IntKind} {w w' : World} {row : Option Nat} {v : Value} {L : List Int} (h : Sees k w v L) (hg : w.grownBy w' row) (hne : v.ownBlock = none ∨ v.ownBlock ≠ row) : Sees k w' v L := by
  obtain ⟨a, cap, rfl, h1, h2, h3, h4, h5⟩ := h
  refine ⟨a, cap, rfl, h1, h2, h3, h4, ?_⟩
  rcases h5 with h5 | ⟨b, o, rfl, h6⟩
  · exact .inl h5
  · exact .inr ⟨b, o, rfl, fun j hj => hg.cell (h6 j hj) (by simpa [Value.ownBlock] using hne)⟩

theorem ne_none (v : Value) : v.ownBlock = none ∨ v.ownBlock ≠ none := by cases v.ownBlock <;> simp
theorem Sees.grown {k : IntKind} {w w' : World} {v : Value} {L : List Int} (h : Sees k w v L) (hg : w.grownBy w' none) : Sees k w' v L := h.kept hg (ne_none v)
theorem Sees.below {k : IntKind} {w w' : World} {v : Value} {L : List Int} (h : Sees k w v L) (hb : Below w.heap.size w w') : Sees k w' v L := by
  obtain ⟨a, cap, rfl, h1, h2, h3, h4, h5⟩ := h
  refine ⟨a, cap, rfl, h1, h2, h3, h4, ?_⟩
  rcases h5 with h5 | ⟨b, o, rfl, h6⟩
  · exact .inl h5
  · exact .inr ⟨b, o, rfl, fun j hj => (hb.cell (World.block_lt_of_cell? w _ (h6 j hj))).trans (h6 j hj)⟩

section
variable {k : IntKind} {E : TypeId} {w w' : World} {base : Nat} {v : Value} {L : List Int}
theorem Own.kept {row : Option Nat} (h : Own k E w base v L) (hg : w.grownBy w' row) (hne : v.ownBlock = none ∨ v.ownBlock ≠ row) : Own k E w' base v L := ⟨h.1.kept hg hne, h.2⟩
theorem Own.grown (h : Own k E w base v L) (hg : w.grownBy w' none) : Own k E w' base v L := h.kept hg (ne_none v)
theorem Own.lower {b : Nat} (h : Own k E w base v L) (hb : b ≤ base) : Own k E w b v L := by
  obtain ⟨⟨h1, h2⟩, h3⟩ := h
  refine ⟨⟨h1, ?_⟩, h3⟩
  rcases h2 with h2 | ⟨g, cap, cur, hv, hg, r⟩
  · exact .inl h2
  · exact .inr ⟨g, cap, cur, hv, by omega, r⟩
theorem Own.lt (h : Own k E w base v L) : ∀ c, v.ownBlock = some c → base ≤ c ∧ c < w.heap.size := h.1.lt
/-- A row that was there before another one was made lies in another block. -/
theorem Own.apart {k' : IntKind} {E' : TypeId} {w0 : World} {b0 : Nat} {u : Value} {M : List Int} (h : Own k E w base v L) (h0 : Own k' E' w0 b0 u M) (hle : w0.heap.size ≤ base) : (v.ownBlock = none ∨ v.ownBlock ≠ u.ownBlock) ∧ (u.ownBlock = none ∨ u.ownBlock ≠ v.ownBlock) := by
  cases hv : v.ownBlock with
  | none => exact ⟨.inl rfl, by cases u.ownBlock <;> simp⟩
  | some c =>
    cases hu : u.ownBlock with
    | none => exact ⟨.inr (by simp), .inl rfl⟩
    | some d =>
      have := h.lt c hv
      have := h0.lt d hu
      exact ⟨.inr (by simp; omega), .inr (by simp; omega)⟩
/-- A row that the caller's memory holds lies in another block than one that was made since. -/
theorem Sees.apart {k' : IntKind} {w0 : World} {u : Value} {M : List Int} (h : Own k E w base v L) (h0 : Sees k' w0 u M) (hM : M ≠ []) (hle : w0.heap.size ≤ base) : u.ownBlock = none ∨ u.ownBlock ≠ v.ownBlock := by
  obtain ⟨a, cap, rfl, h1, h2, h3, h4, h5⟩ := h0
  rcases h5 with h5 | ⟨b, o, rfl, h6⟩
  · exact absurd h5 hM
  · have hb := World.block_lt_of_cell? w0 _ (h6 0 (List.length_pos_iff.2 hM))
    simp only at hb
    refine .inr ?_
    cases hv : v.ownBlock with
    | none => simp [Value.ownBlock]
    | some c => have := h.lt c hv; simp [Value.ownBlock]; omega
end

theorem grownN_trans {w w1 w2 : World} {r : Option Nat} (h : w.grownBy w1 r) (k : w1.grownBy w2 r) : w.grownBy w2 r :=
  ⟨k.os.trans h.os, k.tape.trans h.tape, k.output.trans h.output, Nat.le_trans h.size k.size, fun i hi hn => (k.block i (Nat.lt_of_lt_of_le hi h.size) hn).trans (h.block i hi hn)⟩
/-- New memory that is written later on: a call that makes it and then writes it writes nothing old. -/
theorem grown_new {w w1 w2 : World} {r : Option Nat} (h : w.grownBy w1 none) (k : w1.grownBy w2 r) (hr : ∀ c, r = some c → w.heap.size ≤ c) : w.grownBy w2 none :=
  ⟨k.os.trans h.os, k.tape.trans h.tape, k.output.trans h.output, Nat.le_trans h.size k.size, fun i hi hn => (k.block i (Nat.lt_of_lt_of_le hi h.size) (fun e => by have := hr i e.symm; omega)).trans (h.block i hi hn)⟩
theorem grown_below {w w' : World} (h : w.grownBy w' none) (B : Nat) (hB : B ≤ w.heap.size) : Below B w w' := (Below.refl B w).grown h hB (fun _ h => by cases h)
theorem below_grown {w w' : World} (h : Below w.heap.size w w') : w.grownBy w' none := ⟨h.os, h.tape, h.output, h.size, fun k hk _ => h.block k hk⟩

theorem IsRow.sees {k : IntKind} {w : World} {a : Option Addr} {len cap : Nat} {z : List Int} (h : IsRow k w a len cap z) : ∃ L, L.length = len ∧ Sees k w (.slice a len cap) L := by
  refine ⟨z.take len, ?_, ?_⟩
  · rcases h with ⟨_, rfl, _, rfl⟩ | ⟨_, _, h1, h2, h3, _⟩
    · rfl
    · simp; omega
  · rcases h with ⟨rfl, rfl, rfl, rfl⟩ | ⟨⟨b, o, s⟩, rfl, h1, h2, h3, h4, h5⟩
    · exact ⟨none, 0, rfl, by simp, by unfold maxLen; omega, fun _ => rfl, by simp, .inl rfl⟩
    · have hl : (z.take len).length = len := by simp; omega
      refine ⟨_, cap, by rw [hl], by omega, h2, fun h => by simp at h, fun n hn => h5 n (List.mem_of_mem_take hn), ?_⟩
      by_cases hz : len = 0
      · exact .inl (by simp [hz])
      · have hc := h4 0 (by omega)
        have hs : s = none := by simpa [Addr.add] using World.cell?_spot hc
        subst hs
        refine .inr ⟨b, o, rfl, fun j hj => ?_⟩
        have := h4 j (by omega)
        rw [add_plain] at this
        rw [this]
        congr 2
        have hj' : j < len := by omega
        rw [List.getD_eq_getElem?_getD, List.getD_eq_getElem?_getD, List.getElem?_take, if_pos hj']

theorem u8_of {n : Int} (h : (Lit.int .u8 n).wf = true) : 0 ≤ n ∧ n ≤ 255 := by
  have hmin : IntKind.u8.min = 0 := rfl
  have hmax : IntKind.u8.max = 255 := rfl
  simp only [Lit.wf, Bool.and_eq_true, decide_eq_true_eq] at h; omega
theorem u8_mk {n : Int} (h : 0 ≤ n ∧ n ≤ 255) : (Lit.int .u8 n).wf = true := by
  have hmin : IntKind.u8.min = 0 := rfl
  have hmax : IntKind.u8.max = 255 := rfl
  simp only [Lit.wf, Bool.and_eq_true, decide_eq_true_eq]; omega
theorem i64_mk {n : Int} (h : -9223372036854775808 ≤ n ∧ n ≤ 9223372036854775807) : (Lit.int .i64 n).wf = true := by
  have hmin : IntKind.i64.min = -9223372036854775808 := rfl
  have hmax : IntKind.i64.max = 9223372036854775807 := rfl
  simp only [Lit.wf, Bool.and_eq_true, decide_eq_true_eq]; omega
theorem mem_getD {L : List Int} {j : Nat} (hj : j < L.length) : L.getD j 0 ∈ L := by
  have : L.getD j 0 = L[j] := by simp [hj]
  rw [this]; exact List.getElem_mem hj
theorem Sees.wf {k : IntKind} {w : World} {v : Value} {L : List Int} (h : Sees k w v L) : ∀ n ∈ L, (Lit.int k n).wf = true := by
  obtain ⟨_, _, _, _, _, _, h, _⟩ := h; exact h

/-- 'A' to the left of i, 'B' from i on: what a loop leaves that turns B into A, element by element. -/
theorem splice_set {A B : List Int} {i : Nat} (h : A.length = B.length) (hi : i < A.length) : (A.take i ++ B.drop i).set i (A.getD i 0) = A.take (i + 1) ++ B.drop (i + 1) := by
  apply List.ext_getElem?
  intro j
  have hAi : A[i]? = some (A.getD i 0) := by simp [hi]
  rw [List.getElem?_set]
  by_cases hj : i = j
  · subst hj
    rw [if_pos rfl, if_pos (by simp; omega), List.getElem?_append_left (by simp; omega), List.getElem?_take, if_pos (by omega), hAi]
  · rw [if_neg hj]
    by_cases hlt : j < i
    · rw [List.getElem?_append_left (by simp; omega), List.getElem?_append_left (by simp; omega), List.getElem?_take, List.getElem?_take, if_pos hlt, if_pos (by omega)]
    · rw [List.getElem?_append_right (by simp; omega), List.getElem?_append_right (by simp; omega), List.getElem?_drop, List.getElem?_drop]
      simp only [List.length_take]
      congr 1
      omega
theorem splice_get {k : IntKind} {A B : List Int} {i : Nat} (h : A.length = B.length) (hi : i < A.length) : ((A.take i ++ B.drop i).map (Value.int k))[i]? = some (.int k (B.getD i 0)) := by
  rw [List.getElem?_map, List.getElem?_append_right (by simp; omega), List.getElem?_drop]
  have : min i A.length = i := by omega
  simp [this, show i < B.length by omega]
theorem splice_len {A B : List Int} {i : Nat} (h : A.length = B.length) (hi : i ≤ A.length) : (A.take i ++ B.drop i).length = A.length := by simp; omega

/-- A store into a row of the call's own. -/
theorem own_set {k : IntKind} {E : TypeId} {w : World} {base g n cap : Nat} {L : List Int} (h : w.ownsRow base E 1 (.slice (some ⟨g, 0, none⟩) n cap) n (L.map (Value.int k))) (j : Nat) (x : Int) :
    (w.setCell ⟨g, j, none⟩ (.int k x)).ownsRow base E 1 (.slice (some ⟨g, 0, none⟩) n cap) n ((L.set j x).map (Value.int k)) ∧ w.grownBy (w.setCell ⟨g, j, none⟩ (.int k x)) (some g) := by
  have := h.stored j (.int k x)
  rwa [← List.map_set] at this

/-- 'append(v, u...)', v a row of the call's own, u whatever reads as the numbers M. -/
theorem wpList_append_sees {P : Program} (w : World) {ops : Array Oper} {rest : List Oper} {o : Oper} {a : Act} {Q : Exit → Act → World → Prop} (hgd : o.guard = none) (s x : Operand) (t : TypeId)
    (ho : o.op = .call { callee := .builtin .append, args := #[s, x], argTypes := #[t, t] })
    (base : Nat) (E : TypeId) (i : TypeInfo) (z : Value) (bytes : Nat) (ht : P.underlying t = some (.slice E)) (hi : P.info? E = some i) (hz : i.zero = some z)
    (hsize : i.size = 1) (hby : i.bytes = bytes) (hzs : z.cells.size = 1) (k : IntKind)
    (v : Value) (L : List Int) (hs : a.eval s = v) (hown : Own k E w base v L) (u : Value) (M : List Int) (hx : a.eval x = u) (hu : Sees k w u M)
    (h63 : L.length + M.length ≤ maxLen) (hbytes : (L.length + M.length) * bytes ≤ 140737488355328) (hbase : base ≤ w.heap.size)
    (h : ∀ v' w', Own k E w' base v' (L ++ M) → w.grownBy w' v.ownBlock → wpList P ops Q rest (a.put o.dst v') w') : wpList P ops Q (o :: rest) a w := by
  obtain ⟨ho1, hw1⟩ := hown
  have hwf := hu.wf
  obtain ⟨ad, cap, rfl, hlc, hcm, hnil, _, hcell⟩ := hu
  have hall : ∀ n ∈ L ++ M, (Lit.int k n).wf = true := fun n hn => by
    rcases List.mem_append.1 hn with h | h
    · exact hw1 n h
    · exact hwf n h
  cases ad with
  | none =>
    have hc := hnil rfl
    subst hc
    have hM : M = [] := List.eq_nil_of_length_eq_zero (by omega)
    subst hM
    refine wpList_append_own_none hgd s x t ho base E i 1 ht hi v L.length _ hs ho1 (by simpa using hx) (h v w ⟨by simpa using ho1, hall⟩ ?_)
    exact World.grownBy.refl w _
  | some ad =>
    refine wpList_append_own w hgd s x t ho base E i z 1 bytes ht hi hz hsize hby hzs (by decide) v L.length _ hs ho1 ad M.length cap (M.map (Value.int k)) hx (by simp) ?_ (ints_oneCell k M) h63 hbytes hbase ?_
    · intro j y hy
      rcases hcell with rfl | ⟨b, of, e, hc⟩
      · simp at hy
      · injection e with e
        subst e
        have hj : j < M.length := by
          by_cases hj : j < M.length
          · exact hj
          · simp [hj] at hy
        rw [getD_map hj] at hy
        injection hy with hy
        subst hy
        rw [add_plain]
        exact hc j hj
    · intro v' w' h1 h2 _
      exact h v' w' ⟨by simpa using h1, hall⟩ h2

theorem sees_one {k : IntKind} {E : TypeId} (w : World) (x : Int) (hx : (Lit.int k x).wf = true) : Sees k (w.alloc (.cells #[.int k x] E (0, 0))) (.slice (some ⟨w.heap.size, 0, none⟩) 1 1) [x] := by
  refine ⟨_, 1, rfl, by simp, by unfold maxLen; omega, (fun h => by cases h), (fun n hn => by simp at hn; subst hn; exact hx), .inr ⟨_, _, rfl, fun j hj => ?_⟩⟩
  simp only [List.length_cons, List.length_nil] at hj
  obtain rfl : j = 0 := by omega
  rw [World.cell?_alloc_new]
  simp
/-- An empty row that has just been written out. -/
theorem own_empty {k : IntKind} {E : TypeId} (w : World) : Own k E (w.alloc (.cells #[] E (0, 0))) w.heap.size (.slice (some ⟨w.heap.size, 0, none⟩) 0 0) [] :=
  ⟨World.ownsRow_lit (size := 1) w #[] 0 (Nat.le_refl _) (Nat.zero_le _) rfl, by simp⟩
theorem own_nil {k : IntKind} {E : TypeId} (w : World) (base : Nat) : Own k E w base (.slice none 0 0) [] := ⟨World.ownsRow_nil _ _ _ _, by simp⟩

/-- 'append(v, x)', v a row of the call's own. -/
theorem wpList_append_one {P : Program} (w : World) {ops : Array Oper} {rest : List Oper} {o : Oper} {a : Act} {Q : Exit → Act → World → Prop} (hgd : o.guard = none) (s xo : Operand) (t : TypeId)
    (ho : o.op = .call { callee := .builtin .append, args := #[s, xo], argTypes := #[t, t] })
    (base : Nat) (E : TypeId) (i : TypeInfo) (z : Value) (bytes : Nat) (ht : P.underlying t = some (.slice E)) (hi : P.info? E = some i) (hz : i.zero = some z)
    (hsize : i.size = 1) (hby : i.bytes = bytes) (hzs : z.cells.size = 1) (k : IntKind)
    (v : Value) (L : List Int) (hs : a.eval s = v) (hown : Own k E w base v L) (x : Int) (hx : a.eval xo = .slice (some ⟨w.heap.size, 0, none⟩) 1 1) (hwf : (Lit.int k x).wf = true)
    (hl : L.length ≤ 10000000000000) (hb8 : bytes ≤ 8) (hbase : base ≤ w.heap.size)
    (h : ∀ v' w', Own k E w' base v' (L ++ [x]) → w.grownBy w' v.ownBlock → wpList P ops Q rest (a.put o.dst v') w') : wpList P ops Q (o :: rest) a (w.alloc (.cells #[.int k x] E (0, 0))) := by
  refine wpList_append_sees _ hgd s xo t ho base E i z bytes ht hi hz hsize hby hzs k v L hs (hown.grown (World.grownBy_alloc _ _ _)) _ [x] hx (sees_one w x hwf) ?_ ?_ ?_ ?_
  · simp only [List.length_cons, List.length_nil]; unfold maxLen; omega
  · simp only [List.length_cons, List.length_nil]
    exact Nat.le_trans (Nat.mul_le_mul (show L.length + (0 + 1) ≤ 10000000000001 by omega) hb8) (by decide)
  · simp; omega
  · intro v' w' h1 h2
    exact h v' w' h1 (grownN_trans (World.grownBy_alloc _ _ _) h2)

/-- 'string(v)', v whatever reads as bytes. -/
theorem run_convert_sees {P : Program} (w : World) (src dst e : TypeId) (hs : P.underlying src = some (.slice e)) (he : P.underlying e = some (.int .u8)) (hd : P.underlying dst = some .string) {v : Value} {L : List Int} (h : Sees .u8 w v L) :
    (convert src dst v).run P w = .ok (.string (strOfNums L)) w := by
  obtain ⟨a, cap, rfl, _, _, _, _, hc⟩ := h
  rcases hc with rfl | ⟨b, o, rfl, hc⟩
  · cases a with
    | none => exact run_convert_bytes_nil w src e hs he _ _ dst hd
    | some x =>
      rw [run_convert_bytes_string w src dst e _ _ _ hs he hd, run_bytesToString w x _ cap [] (by simp [loadCells, loadCellsFrom, Sem.run_pure]), foldl_push_bytes]
      rfl
  · exact run_convert_bytes_arg w src e hs he b o _ cap L rfl hc dst hd
theorem strOfNums_inj {X Y : List Int} (hX : ∀ n ∈ X, (Lit.int .u8 n).wf = true) (hY : ∀ n ∈ Y, (Lit.int .u8 n).wf = true) (h : strOfNums X = strOfNums Y) : X = Y := by
  have h1 : (strOfNums X).data.toList = (strOfNums Y).data.toList := by rw [h]
  rw [strOfNums_data, strOfNums_data] at h1
  apply List.ext_getElem?
  intro i
  have h2 := congrArg (fun l => l[i]?) h1
  simp only [List.getElem?_map] at h2
  cases hx : X[i]? with
  | none => rw [hx] at h2; cases hy : Y[i]? with
    | none => rfl
    | some y => rw [hy] at h2; simp at h2
  | some x => rw [hx] at h2; cases hy : Y[i]? with
    | none => rw [hy] at h2; simp at h2
    | some y =>
      rw [hy] at h2
      simp only [Option.map_some, Option.some.injEq] at h2
      have h3 := congrArg UInt8.toNat h2
      have bx := u8_of (hX x (List.mem_of_getElem? hx))
      have by' := u8_of (hY y (List.mem_of_getElem? hy))
      rw [UInt8.toNat_ofNat_of_lt' (show x.toNat < 256 by omega), UInt8.toNat_ofNat_of_lt' (show y.toNat < 256 by omega)] at h3
      congr 1
      omega
end Go.Proofs.Ytbpmbbmgmpdhnaa.Rw
