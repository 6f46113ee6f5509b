/- A region that draws its order: a condition on the world that holds as long as one operation, a store that waits for all that reads, has not come up. No condition of ours. -/
import Derived.Test.YtonalkamfgpokaaGreatMBase
import Derived.Deep.RegionHeld3
namespace Go.Proofs.YtonalkamfgpokaaGreat.Exc
open Go

section
variable {P : Program} {ops : Array Oper} {Q : Exit → Act → World → Prop} {md : Region.Mode} {S : World → Prop} {e : Nat}

/-- Whatever order is picked: the condition holds behind each operation as long as the eth one is to come. -/
def anyE (P : Program) (md : Region.Mode) (ops : Array Oper) (Q : Exit → Act → World → Prop) (S : World → Prop) (e : Nat) : Nat → Array Bool → Act → World → Prop
  | 0, listed, a, w => Region.ready md ops listed = [] ∧ Q .normal a w
  | fuel + 1, listed, a, w =>
    (Region.ready md ops listed = [] → Q .normal a w) ∧
    ∀ i ∈ Region.ready md ops listed, wpOp P ops Q i (fun a' w' => ((listed.setIfInBounds i true).getD e true = false → S w') ∧ anyE P md ops Q S e fuel (listed.setIfInBounds i true) a' w') a w
theorem any_of_E : ∀ (fuel : Nat) (listed : Array Bool) (a : Act) (w : World), anyE P md ops Q S e fuel listed a w → wpAny P md ops Q fuel listed a w
  | 0, _, _, _, h => h
  | fuel + 1, _, _, _, h => ⟨h.1, fun i hi => wpOp_mono (fun a' w' h' => any_of_E fuel _ a' w' h'.2) (h.2 i hi)⟩

/-- The eth operation waits for the ith one. -/
def waits (md : Region.Mode) (ops : Array Oper) (e i : Nat) : Bool :=
  match ops[e]? with
  | some o => o.after.toList.any fun d => Region.binds md d && d.on == i
  | none => false
theorem un_listed {listed : Array Bool} {i : Nat} (hi : listed.getD i true = false) (h1 : listed.getD i false = true) : False := by
  rcases Nat.lt_or_ge i listed.size with h' | h'
  · simp [h'] at hi h1; rw [hi] at h1; cases h1
  · simp [Array.getElem?_eq_none h'] at h1
theorem not_ready {listed : Array Bool} {i : Nat} (hw : waits md ops e i = true) (hi : listed.getD i true = false) : e ∉ Region.ready md ops listed := fun h => by
  obtain ⟨_, o, ho, hall⟩ := mem_ready.1 h
  unfold waits at hw
  rw [ho] at hw
  obtain ⟨d, hd, hb⟩ := List.any_eq_true.1 hw
  simp only [Bool.and_eq_true, beq_iff_eq] at hb
  have h1 := hall d (by simpa using hd) hb.1
  rw [hb.2] at h1
  exact un_listed hi h1

/-- An operation may be taken first that yields its value wherever T holds, if T holds as long as it is to come. -/
theorem first_T {T : World → Prop} {i : Nat} {oi : Oper} {v : Value} (hi : ops[i]? = some oi) (hsel : ∀ (j : Nat) (o : Oper) cs b, ops[j]? = some o → o.op ≠ .select cs b)
    (hQ : ∀ c a w, Q (.panic c) (a.put oi.dst v) w → Q (.panic c) a w) (hie : i ≠ e) (R : Array Bool → Prop)
    (hT : ∀ listed w, R listed → (listed.getD e true = false → S w) → T w) (hR : ∀ listed j, R listed → j ∈ Region.ready md ops listed → listed.getD i true = false → j ≠ i → R (listed.setIfInBounds j true)) :
    ∀ (fuel : Nat) (listed : Array Bool) (a : Act) (w : World), R listed →
      (∀ j oj, ops[j]? = some oj → j ≠ i → listed.getD j true = false → (∀ d ∈ oj.after, Region.binds md d = true → d.on ≠ i) → oi.apart ops oj = true) →
      i ∈ Region.ready md ops listed → YieldsIf P ops T oi v a → (listed.getD e true = false → S w) →
      anyE P md ops Q S e fuel (listed.setIfInBounds i true) (a.put oi.dst v) w → anyE P md ops Q S e (fuel + 1) listed a w := by
  have hge : ∀ listed : Array Bool, (listed.setIfInBounds i true).getD e true = listed.getD e true := fun listed => getD_set_ne true hie
  intro fuel
  induction fuel with
  | zero =>
    intro listed a w hRl _ hr hy hS H
    refine ⟨fun h => absurd hr (by rw [h]; simp), fun j hj => ?_⟩
    by_cases hji : j = i
    · subst hji; exact hy.wpOp hi (hT listed w hRl hS) ⟨by rw [hge]; exact hS, H⟩
    · have := ready_mono hj hji
      rw [H.1] at this
      cases this
  | succ fuel ih =>
    intro listed a w hRl hfree hr hy hS H
    refine ⟨fun h => absurd hr (by rw [h]; simp), fun j hj => ?_⟩
    by_cases hji : j = i
    · subst hji; exact hy.wpOp hi (hT listed w hRl hS) ⟨by rw [hge]; exact hS, H⟩
    · have hiu := (mem_ready.1 hr).1
      have h1 := H.2 j (ready_mono hj hji)
      obtain ⟨hju, oj, hoj, hall⟩ := mem_ready.1 hj
      have hno : ∀ d ∈ oj.after, Region.binds md d = true → d.on ≠ i := fun d hd hb heq => by
        have h2 := hall d hd hb
        rw [heq] at h2
        exact un_listed hiu h2
      have hco : (listed.setIfInBounds i true).setIfInBounds j true = (listed.setIfInBounds j true).setIfInBounds i true := Array.setIfInBounds_comm _ _ (Ne.symm hji)
      refine wpOp_mono (fun a' w' h3 => ?_)
        (wpOp_putIf hoj (hfree j oj hoj hji hju hno) (fun cs b => hsel i oi cs b hi) (fun cs b => hsel j oj cs b hoj) hQ hy h1)
      have hS3 : (listed.setIfInBounds j true).getD e true = false → S w' := fun h => h3.2.1 (by rw [hco, hge]; exact h)
      refine ⟨hS3, ih _ a' w' (hR listed j hRl hj hiu hji) (fun k ok hk hki hku hkn => ?_) (ready_mono hr (Ne.symm hji)) h3.1 hS3 ?_⟩
      · refine hfree k ok hk hki ?_ hkn
        by_cases hjk : j = k
        · subst hjk; exact hju
        · rw [getD_set_ne true hjk] at hku; exact hku
      · rw [← hco]
        exact h3.2.2

/-- What reads, and is waited for by the eth operation. -/
theorem take_E {i : Nat} {oi : Oper} {v : Value} {fuel : Nat} {listed : Array Bool} {a : Act} {w : World} (hi : ops[i]? = some oi)
    (hs : Region.noSelect ops = true) (hf : Region.free md ops listed i = true) (hr : (Region.ready md ops listed).contains i = true) (hwt : waits md ops e i = true) (hie : (i == e) = false) (hle : listed.getD e true = false)
    (hQ : ∀ c a w, Q (.panic c) (a.put oi.dst v) w → Q (.panic c) a w) (hy : YieldsIf P ops S oi v a) (hS : S w)
    (h : anyE P md ops Q S e fuel (listed.setIfInBounds i true) (a.put oi.dst v) w) : anyE P md ops Q S e (fuel + 1) listed a w :=
  first_T hi (Region.noSelect_spec hs) hQ (by simpa using hie) (fun l => l.getD e true = false) (fun l w hl h => h hl)
    (fun l j hl hj hu hji => by
      have hje : j ≠ e := fun h => not_ready (e := e) hwt hu (h ▸ hj)
      rw [getD_set_ne true hje]; exact hl) fuel listed a w hle (Region.free_spec hi hf) (by simpa using hr) hy (fun _ => hS) h
/-- What reads no world. -/
theorem take_W {i : Nat} {oi : Oper} {v : Value} {fuel : Nat} {listed : Array Bool} {a : Act} {w : World} (hi : ops[i]? = some oi)
    (hs : Region.noSelect ops = true) (hf : Region.free md ops listed i = true) (hr : (Region.ready md ops listed).contains i = true) (hie : (i == e) = false)
    (hQ : ∀ c a w, Q (.panic c) (a.put oi.dst v) w → Q (.panic c) a w) (hy : YieldsIf P ops (fun _ => True) oi v a) (hS : listed.getD e true = false → S w)
    (h : anyE P md ops Q S e fuel (listed.setIfInBounds i true) (a.put oi.dst v) w) : anyE P md ops Q S e (fuel + 1) listed a w :=
  first_T hi (Region.noSelect_spec hs) hQ (by simpa using hie) (fun _ => True) (fun _ _ _ _ => trivial) (fun _ _ _ _ _ _ => trivial) fuel listed a w trivial (Region.free_spec hi hf) (by simpa using hr) hy hS h
/-- One operation is ready, and is carried out; it is not the eth one. -/
theorem ready_E {fuel : Nat} {listed : Array Bool} {a : Act} {w : World} {i : Nat} {o : Oper} (hr : Region.ready md ops listed = [i]) (ho : ops[i]? = some o)
    (h : ∀ K' : Act → World → Prop, Shut (∀ a w, S w → (S w → anyE P md ops Q S e fuel (listed.setIfInBounds i true) a w) → K' a w) → if Region.wanted o (yielded ops a.tmps) = true then Oper.wp P o a w K' Q else K' (a.put o.dst undef) w) :
    anyE P md ops Q S e (fuel + 1) listed a w :=
  ⟨fun h0 => absurd (hr ▸ h0) (by simp), fun j hj => by
    rw [hr] at hj
    obtain rfl : j = i := by simpa using hj
    exact wpOp_step ho (fun K' hK => h K' (fun a w hS hW => hK a w ⟨fun _ => hS, hW hS⟩))⟩
/-- The eth operation itself. -/
theorem last_E {fuel : Nat} {listed : Array Bool} {a : Act} {w : World} {o : Oper} (hr : Region.ready md ops listed = [e]) (ho : ops[e]? = some o) (hz : (listed.setIfInBounds e true).getD e true = true)
    (h : ∀ K' : Act → World → Prop, Shut (∀ a w, anyE P md ops Q S e fuel (listed.setIfInBounds e true) a w → K' a w) → if Region.wanted o (yielded ops a.tmps) = true then Oper.wp P o a w K' Q else K' (a.put o.dst undef) w) :
    anyE P md ops Q S e (fuel + 1) listed a w :=
  ⟨fun h0 => absurd (hr ▸ h0) (by simp), fun j hj => by
    rw [hr] at hj
    obtain rfl : j = e := by simpa using hj
    exact wpOp_step ho (fun K' hK => h K' (fun a w hW => hK a w ⟨fun h => absurd (hz.symm.trans h) (by simp), hW⟩))⟩
theorem done_E {listed : Array Bool} {a : Act} {w : World} (hr : Region.ready md ops listed = []) (h : Q .normal a w) : ∀ fuel, anyE P md ops Q S e fuel listed a w
  | 0 => ⟨hr, h⟩
  | _ + 1 => ⟨fun _ => h, by rw [hr]; simp⟩
theorem region_E {id : Nat} {a : Act} {w : World} (e : Nat) (hm : P.follows .mixedOrders = true) (hS : S w.drew)
    (h : S w.drew → anyE P .any ops Q S e ops.size (Array.replicate ops.size false) a w.drew) : (Code.region id ops true).wp P Q a w :=
  wp_region_any hm (any_of_E _ _ _ _ (h hS))
end
end Go.Proofs.YtonalkamfgpokaaGreat.Exc
