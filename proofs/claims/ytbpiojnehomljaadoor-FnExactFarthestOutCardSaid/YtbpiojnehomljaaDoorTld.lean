/- What is told instead of a measure that there is none of. -/
import Derived.Test.YtbpiojnehomljaaDoorEas
namespace Go.Proofs.YtbpiojnehomljaaDoor.Tld
open Go.RowKit Kit Rw Eas

set_option maxRecDepth 20000 in
theorem told_nil (w : World) (m : Int) :
    Calls Tryd.prog 20 #[.int .i64 m, .nilIface] w fun e w' => e = .returned (.int .i64 m) ∧ w.grownBy w' none := by
  have HG := Lib.hid (World.grownBy_alloc w (.cells #[.string ⟨#[]⟩, .int .i64 0] 63 (0, 0)) none)
  go_enter Tryd.func20, Tryd.ntmps20
  go_wp2_with fail
  refine (as_nil _ _).mono ?_
  rintro e w2 ⟨rfl, rfl⟩
  go_wp2
  go_ret
  exact ⟨rfl, HG.out⟩
set_option maxRecDepth 20000 in
set_option maxHeartbeats 1000000 in
theorem told_hit (w : World) (m n : Int) (s : ByteArray) (hE : ErrT w) :
    Calls Tryd.prog 20 #[.int .i64 m, .iface 63 (.agg #[.string s, .int .i64 n])] w fun e w' => e = .returned (.int .i64 n) ∧ w.grownBy w' none := by
  have hg := World.grownBy_alloc w (.cells #[.string ⟨#[]⟩, .int .i64 0] 63 (0, 0)) none
  have HG := Lib.hid hg
  have HC := Lib.hid (as_hit w.heap.size s n _ _ _ (errT_grown hE hg) (box_new w #[.string ⟨#[]⟩, .int .i64 0] 63))
  clear hg hE
  go_enter Tryd.func20, Tryd.ntmps20
  go_wp2_with fail
  refine HC.out.mono ?_
  rintro e w2 ⟨rfl, hb, hg⟩
  have HG2 := Lib.hid (grown_new HG.out hg (fun c hc => by injection hc; omega))
  have c1 := hb.cell 1
  clear hb hg HC
  go_wp2
  go_ret
  exact ⟨rfl, HG2.out⟩
end Go.Proofs.YtbpiojnehomljaaDoor.Tld
