/- The worst return's days against its answer: plain facts. No program. -/
import Derived.Test.YtonalkamfgpokaaGreatG28
import Derived.Test.YtonalkamfgpokaaGreatG21
import Derived.Test.YtonalkamfgpokaaGreatG30
namespace Go.Proofs.YtonalkamfgpokaaGreat.Hom
open Go.RowKit Kit Rw Rg Stm Crw Wf Ld Bfs Itr Lft

theorem calms_signs {m n : Nat} (hm : m < n) (hn : n ≤ 10) : ∀ (f : Nat) (L : List Bool) (k : Nat), mu L k ≤ f → calms (signs m n L k) = k
  | 0, L, k, hf => by
    have : k = 0 := by unfold mu at hf; omega
    subst this
    rw [signs_zero]; rfl
  | f + 1, L, k, hf => by
    by_cases hk : k = 0
    · subst hk; rw [signs_zero]; rfl
    · have h1 := mu_next (L := L) hm hn hk
      have ih := calms_signs hm hn f (L ++ [may m n L]) (if may m n L = true then k else k - 1) (by omega)
      rw [signs_next (L := L) hm hn hk, calms_next, ih]
      cases may m n L <;> simp <;> omega
/-- A weather that ends with a calm day, or has no day. -/
def Tidy (S : List Bool) : Prop := ∀ T, T <:+ S → T ≠ [] → 1 ≤ calms T
theorem Tidy.tail {b : Bool} {S : List Bool} (h : Tidy (b :: S)) : Tidy S := fun T hT => h T (hT.trans (List.suffix_cons b S))
theorem tidy_signs {m n : Nat} (hm : m < n) (hn : n ≤ 10) : ∀ (f : Nat) (L : List Bool) (k : Nat), mu L k ≤ f → Tidy (signs m n L k)
  | 0, L, k, hf => by
    have : k = 0 := by unfold mu at hf; omega
    subst this
    rw [signs_zero]
    exact fun T hT hne => absurd (List.suffix_nil.1 hT) hne
  | f + 1, L, k, hf => by
    by_cases hk : k = 0
    · subst hk; rw [signs_zero]; exact fun T hT hne => absurd (List.suffix_nil.1 hT) hne
    · intro T hT hne
      have h1 := mu_next (L := L) hm hn hk
      have hc := calms_signs hm hn (f + 1) L k hf
      rw [signs_next (L := L) hm hn hk] at hT hc
      rcases List.suffix_cons_iff.1 hT with h | h
      · rw [h, hc]; omega
      · exact tidy_signs hm hn f _ _ (by omega) T h hne
theorem endOf_cons (n g : Int) (x : Int × Int) (ds : List (Int × Int)) : endOf n g (x :: ds) = endOf x.1 x.2 ds := by
  unfold endOf
  rw [List.getLast?_cons]
  rfl
/-- The days of the worst return, against the food behind it: the base is its last cell, and no other. -/
theorem days_walk {base need : Int} {pick : Int → Int → Int} : ∀ (S : List Bool) (W : List Int) (a g : Int), Tidy S → calms S = W.length → (∀ i, i < W.length → (a :: W).getD i 0 ≠ base) → (a :: W).getD W.length 0 = base →
    atBase base (endOf a g (days need pick S W a g)) = walk need pick S W g
  | [], W, a, g, _, hc, _, hb => by
    have h0 : W = [] := List.eq_nil_of_length_eq_zero (by rw [← hc]; rfl)
    subst h0
    have : a = base := hb
    simp [days, endOf, atBase, walk, this]
  | true :: S, W, a, g, ht, hc, hne, hb => by
    have h1 := ht _ (List.suffix_refl _) (by simp)
    by_cases hg : g < need
    · have : a ≠ base := hne 0 (by omega)
      rw [days_no hg, walk_no hg]
      simp [endOf, atBase, this]
    · rw [days_storm hg, walk_storm hg, endOf_cons]
      exact days_walk S W a (g - need) ht.tail (by rw [← hc, calms_next]; simp) hne hb
  | false :: S, W, a, g, ht, hc, hne, hb => by
    have h1 := ht _ (List.suffix_refl _) (by simp)
    by_cases hg : g < need
    · have : a ≠ base := hne 0 (by omega)
      rw [days_no hg, walk_no hg]
      simp [endOf, atBase, this]
    · match W, hc, hne, hb with
      | [], hc, _, _ => rw [hc] at h1; simp at h1
      | c :: W, hc, hne, hb =>
        rw [days_calm hg, walk_calm hg, endOf_cons]
        refine days_walk S W c (pick c (g - need)) ht.tail ?_ (fun i hi => ?_) ?_
        · rw [calms_next] at hc; simp at hc; omega
        · exact hne (i + 1) (by simp; omega)
        · exact hb
theorem way_shape {W H : Int} {X : List Int} {n base : Int} (h : wayOf W H X n base ≠ []) :
    ∃ Wl, wayOf W H X n base = n :: Wl ∧ (∀ i, i < Wl.length → (n :: Wl).getD i 0 ≠ base) ∧ (n :: Wl).getD Wl.length 0 = base := by
  unfold wayOf at h ⊢
  split at h
  · rename_i ho
    rw [if_pos ho]
    obtain ⟨p, q, b, rfl, rfl, rfl, hb, hL, _⟩ := open_nat ho.2
    obtain ⟨p', q', a, e1, e2, rfl, ha, _⟩ := open_nat ho.1
    obtain ⟨k, hk⟩ : ∃ k, (at' (distL p X b) a + 1).toNat = k := ⟨_, rfl⟩
    rw [hk] at h ⊢
    match k, h, hk with
    | 0, h, _ => exact absurd rfl h
    | k + 1, _, hk =>
      have hd : at' (distL p X b) a = k := by omega
      have hsrc := (dist_is hL (a := (b : Int)) (by omega) (by omega)).src
      refine ⟨wayFrom p X (distL p X b) k (nearerOf p X (distL p X b) a), rfl, ?_, ?_⟩
      · intro i hi
        rw [wayFrom_len] at hi
        have e := wayFrom_at p X (distL p X b) (k + 1) i a (by omega)
        have hw := (wayAt_days ho.2 (n := (a : Int)) (by omega) (by omega) (by omega) i (by omega)).1
        rw [show ((a : Int) :: wayFrom p X (distL p X b) k (nearerOf p X (distL p X b) a)).getD i 0 = wayAt p X (distL p X b) i a from e]
        intro e'
        rw [e', hsrc] at hw
        omega
      · rw [wayFrom_len]
        have e := wayFrom_at p X (distL p X b) (k + 1) k a (by omega)
        have hw := wayAt_days ho.2 (n := (a : Int)) (by omega) (by omega) (by omega) k (by omega)
        rw [show ((a : Int) :: wayFrom p X (distL p X b) k (nearerOf p X (distL p X b) a)).getD k 0 = wayAt p X (distL p X b) k a from e]
        exact dist_zero ho.2 hw.2.1 hw.2.2.1 (by rw [hw.1]; omega)
  · exact absurd rfl h
theorem way_none {W H : Int} {X : List Int} {n base : Int} (ho : isOpen W H X n = true) (h : wayOf W H X n base = []) : n ≠ base := by
  intro e
  subst e
  unfold wayOf at h
  rw [if_pos ⟨ho, ho⟩] at h
  obtain ⟨p, q, b, rfl, rfl, rfl, hb, hL, _⟩ := open_nat ho
  rw [(dist_is hL (a := (b : Int)) (by omega) (by omega)).src] at h
  simp [wayFrom] at h
/-- The program's answer, behind its guards. -/
theorem left_days {W H : Int} {X : List Int} {base m rn n f : Int} {D : List (Int × Int)} {L : List Mem} {P : List Bool} (hr : isRule m rn = true) (hd : Dep.areDep W H X D = true) (hp : Pa.isParty W H X n f L P = true) (hm : m.toNat < rn.toNat) (hn : rn.toNat ≤ 10) :
    atBase base (endOf n (gain L D n f) (days (needOf L) (gain L D) (signs m.toNat rn.toNat P (((wayOf W H X n base).length : Int) - 1).toNat) ((wayOf W H X n base).drop 1) n (gain L D n f))) = left W H X base m rn D n f L P := by
  have hk : (((wayOf W H X n base).length : Int) - 1).toNat = (wayOf W H X n base).length - 1 := by omega
  rw [hk]
  unfold left
  by_cases hw : wayOf W H X n base = []
  · have hc : ¬ canAsk W H X base m rn D n f L P = true := by unfold canAsk; simp [hw]
    rw [if_neg hc, hw]
    have hne := way_none (isParty_of hp).1 hw
    rw [show ([] : List Int).length - 1 = 0 from rfl, signs_zero]
    simp [days, endOf, atBase, hne]
  · have hc : canAsk W H X base m rn D n f L P = true := by unfold canAsk; simp [hr, hd, hp, hw]
    rw [if_pos hc]
    obtain ⟨Wl, e, h1, h2⟩ := way_shape hw
    rw [e]
    unfold onWay
    refine days_walk _ Wl n _ (tidy_signs hm hn _ P _ (Nat.le_refl _)) ?_ h1 h2
    rw [calms_signs hm hn _ P _ (Nat.le_refl _)]
    simp
end Go.Proofs.YtonalkamfgpokaaGreat.Hom
