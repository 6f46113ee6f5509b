/- Contract of the model's AddDay. -/
import Derived.Test.YtbpiojnehomljaaStormS
namespace Go.Proofs.Ytbpiojnehomljaa.StormS
open Go.RowKit Kit Rw Rg Stm Md

theorem info_bool : (Try.prog.info? 4).map (fun i => (i.zero, i.size, i.bytes)) = some (some (.bool false), 1, 1) := by kernel_rfl
theorem from_block {a : Option Addr} {n cap i k m m' : Nat} {c : Nat} (h : (Value.slice (if cap = i then a else a.map (fun x => x.add k)) m m').ownBlock = some c) : (Value.slice a n cap).ownBlock = some c := by
  split at h
  · cases a with
    | none => simp [Value.ownBlock] at h
    | some x => simpa [Value.ownBlock] using h
  · cases a with
    | none => simp [Value.ownBlock] at h
    | some x =>
      simp only [Value.ownBlock, Option.map_some] at h ⊢
      rw [← h]
      simp only [Addr.add]
      split <;> rfl
end Go.Proofs.Ytbpiojnehomljaa.StormS
