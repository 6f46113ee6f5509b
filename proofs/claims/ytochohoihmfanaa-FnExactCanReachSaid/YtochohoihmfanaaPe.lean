/- Contracts of the program's options of a party and of partyFrom. -/
import Derived.Test.YtochohoihmfanaaPc
namespace Go.Proofs.Ytochohoihmfanaa.Pe
open Go.RowKit Kit Rw Rg Four PartyL Pc Cln

/-- Where partyFrom stands: the party that it builds. -/
structure PF (W wr : World) (nb : Nat) (n x : Int) (u t : Value) (L : List Mem) (P : List Bool) : Prop where
  box : Box wr nb #[.int .i64 n, .int .i64 x, u, t] 64
  ou : OwnG encM 75 wr W.heap.size u L
  ot : OwnG encB 4 wr W.heap.size t P
  ap : ApartU u t
  nu : u.ownBlock ≠ some nb
  nt : t.ownBlock ≠ some nb
  new : W.heap.size ≤ nb
  grown : W.grownBy wr none
theorem PF.set {W wr : World} {nb : Nat} {n x y : Int} {u t : Value} {L : List Mem} {P : List Bool} (h : PF W wr nb n x u t L P) : PF W (wr.setCell ⟨nb, 1, none⟩ (.int .i64 y)) nb n y u t L P :=
  ⟨four_set1 h.box, h.ou.kept (grown_set _ _ _ _) (.inr h.nu), h.ot.kept (grown_set _ _ _ _) (.inr h.nt), h.ap, h.nu, h.nt, h.new, grown_new h.grown (grown_set _ _ _ _) (fun c e => by injection e with e; have := h.new; omega)⟩
theorem PF.fill {W wr : World} {nb : Nat} {n x : Int} {u t a b c d : Value} {L : List Mem} {P : List Bool} (hb : Box wr nb #[a, b, c, d] 64) (ho : OwnG encM 75 wr W.heap.size u L) (ht : OwnG encB 4 wr W.heap.size t P) (hap : ApartU u t) (hu : u.ownBlock ≠ some nb) (hn : t.ownBlock ≠ some nb) (hl : W.heap.size ≤ nb) (hg : W.grownBy wr none) : PF W (put4 wr nb (.int .i64 n) (.int .i64 x) u t) nb n x u t L P :=
  ⟨put4_box hb, ho.kept (put4_grown _ _ _ _ _ _) (.inr hu), ht.kept (put4_grown _ _ _ _ _ _) (.inr hn), hap, hu, hn, hl, grown_new hg (put4_grown _ _ _ _ _ _) (fun c e => by injection e with e; omega)⟩

end Go.Proofs.Ytochohoihmfanaa.Pe
