/- Members compared: an equation of the run. No condition. -/
import Derived.Test.YtochohoihmfanaaRowM
import Derived.Laws.StructEq
namespace Go.Proofs.Ytochohoihmfanaa.EqM
open Go.RowKit Kit Rw Rg

instance : DecidableEq Mem := fun a b => decidable_of_iff (a.id = b.id ∧ a.str = b.str ∧ a.need = b.need ∧ a.ill = b.ill) (by cases a; cases b; simp)
def mval (x : Mem) : Value := .agg #[.int .i64 x.id, .int .i64 x.str, .int .i64 x.need, .bool x.ill]
theorem mem_eq (x y : Mem) : decide (x = y) = (decide (x.id = y.id) && (decide (x.str = y.str) && (decide (x.need = y.need) && decide (x.ill = y.ill)))) := by
  cases x; cases y
  simp [Bool.decide_and]
theorem run_eqM (w : World) (x y : Mem) : (Op.equalIn 10000 75 (mval x) (mval y)).run Try.prog w = .ok (decide (x = y)) w := by
  unfold mval
  rw [run_equalIn_agg w 9999 75 _ _ (by kernel_rfl) (by kernel_rfl), mem_eq]
  have hf : (Try.prog.fieldsOf 75).toList.map (fun f => (f.name == "_", f.type, f.offset)) = [(false, 3, 0), (false, 3, 1), (false, 3, 2), (false, 4, 3)] := by kernel_rfl
  generalize (Try.prog.fieldsOf 75).toList = fs at hf
  obtain ⟨f0, f1, f2, f3, rfl⟩ : ∃ f0 f1 f2 f3, fs = [f0, f1, f2, f3] := by
    have hl : fs.length = 4 := by simpa using congrArg List.length hf
    match fs, hl with
    | [a, b, c, d], _ => exact ⟨a, b, c, d, rfl⟩
  · simp only [List.map_cons, List.map_nil, List.cons.injEq, Prod.mk.injEq, and_true] at hf
    obtain ⟨⟨n0, t0, o0⟩, ⟨n1, t1, o1⟩, ⟨n2, t2, o2⟩, ⟨n3, t3, o3⟩⟩ := hf
    have hn : ∀ s : String, (s == "_") = false → s ≠ "_" := fun s h => by simpa using h
    by_cases h0 : x.id = y.id <;> by_cases h1 : x.str = y.str <;> by_cases h2 : x.need = y.need <;> by_cases h3 : x.ill = y.ill <;>
      simp [Op.eqFields, hn _ n0, hn _ n1, hn _ n2, hn _ n3, t0, t1, t2, t3, o0, o1, o2, o3, go_sem, h0, h1, h2, h3, Try.underlying3, Try.underlying4]
end Go.Proofs.Ytochohoihmfanaa.EqM
