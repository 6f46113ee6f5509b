/- Contracts of who can be roped, of the program and of its model. -/
import Derived.Test.YtedijkkbphbnoaaRopeS
namespace Go.Proofs.Ytedijkkbphbnoaa.Rop
open Go.RowKit Kit Rw Rg Crw

set_option maxHeartbeats 1000000 in
theorem iCan_any (w : World) (v : Value) (L : List Mem) (hv : SeesG encM w v L) (hn : L.length ≤ 1000000000) :
    Calls Try.prog 15 #[v] w fun e w' => e = .returned (.bool (canRope L)) ∧ w.grownBy w' none := by
  have HV := Lib.hid hv
  clear hv
  go_enter Try.func15, Try.ntmps15
  go_wp2_with fail
  refine (iTeams_any w v L HV.out hn).mono ?_
  rintro e w2 ⟨t, Vs, rfl, ho, hd, hg⟩
  obtain ⟨ta, tc, ht, _⟩ := ho.sees
  subst ht
  have HD := Lib.hid hd
  have HG := Lib.hid hg
  clear ho hd hg
  go_wp2
  go_ret
  exact ⟨ret_bool (by rw [← HD.out]), HG.out⟩
set_option maxHeartbeats 1000000 in
theorem sCan_any (w : World) (v : Value) (L : List Mem) (hv : SeesG encM w v L) (hn : L.length ≤ 1000000000) :
    Calls Try.prog 14 #[v] w fun e w' => e = .returned (.bool (canRope L)) ∧ w.grownBy w' none := by
  have HV := Lib.hid hv
  clear hv
  go_enter Try.func14, Try.ntmps14
  go_wp2_with fail
  refine (sTeams_any w v L HV.out hn).mono ?_
  rintro e w2 ⟨t, rfl, Vs, ho, hd, hg⟩
  obtain ⟨ta, tc, ht, _⟩ := ho.sees
  subst ht
  have HD := Lib.hid hd
  have HG := Lib.hid hg
  clear ho hd hg
  go_wp2
  go_ret
  exact ⟨ret_bool (by rw [← HD.out]), HG.out⟩
end Go.Proofs.Ytedijkkbphbnoaa.Rop
