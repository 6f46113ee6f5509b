/- The draw of a key and a byte string. -/
import Derived.Test.YtklbeeloppiknaaWord
import Derived.Test.YtklbeeloppiknaaDrawB
namespace Go.Proofs.Ytklbeeloppiknaa.Draw
open Go.RowKit Kit Rw

set_option maxHeartbeats 1000000 in
theorem dEncrypt_any (w : World) (a : Option Addr) (len cap : Nat) (z : List Int) (hr : IsRow .u8 w a len cap z) :
    Calls Try.prog 11 #[.slice a len cap] w fun e w' => ∃ k u L, e = .returned (.tuple #[.int .i64 k, u]) ∧ Word k ∧ Own .u8 5 w' w.heap.size u L ∧ L.length ≤ 7 ∧ w.grownBy w' none := by
  have HR := Lib.hid hr
  clear hr
  go_enter Try.func11, Try.ntmps11
  go_wp2_with fail
  refine (new_any w a len cap z HR.out).mono ?_
  rintro e w1 ⟨c, rfl, hc, hlc, hb⟩
  have HC := Lib.hid hc
  have HB := Lib.hid hb
  clear hc hb
  go_wp2_with fail
  refine (word_any _ _ HC.out).mono ?_
  rintro e w2 ⟨k, hk, rfl, hc2, hg2⟩
  have HC2 := Lib.hid hc2
  have HK := Lib.hid hk
  have HG2 := Lib.hid hg2
  clear hc2 hg2 HC hk
  go_wp2_with fail
  refine (below_any 8 (by omega) _ _ HC2.out).mono ?_
  rintro e w3 ⟨y, HP, rfl, hc3, hg3⟩
  obtain ⟨hy0, hy1⟩ := HP.1 (by omega)
  have HC3 := Lib.hid hc3
  have HG3 := Lib.hid (grownN_trans HG2.out hg3)
  clear HP hc3 hg3
  go_wp2_with fail
  refine (bytes_any y (by omega) _ _ HC3.out).mono ?_
  rintro e w4 ⟨u, L, hL, rfl, ho, hc4, hg4⟩
  have HG4 := Lib.hid (grownN_trans HG3.out hg4)
  have HL : Hid (L.length ≤ 7) := by show _ ≤ _; omega
  have HO := Lib.hid ho
  clear hL hc4 hg4 ho
  go_wp2
  go_ret2
  exact ⟨_, _, L, rfl, HK.out, HO.out.lower (Nat.le_trans HB.out.size HG3.out.size), HL.out, new_grown HB.out hlc HG4.out⟩
end Go.Proofs.Ytklbeeloppiknaa.Draw
