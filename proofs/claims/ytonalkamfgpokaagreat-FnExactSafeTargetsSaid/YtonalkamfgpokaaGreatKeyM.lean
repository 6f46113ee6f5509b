/- What the frame of a claim asks of the whole program, apart from the law: the word of its start. A text of its own, for the kernel's memory. -/
import Derived.Test.YtonalkamfgpokaaGreatRows
import Derived.KernelRfl
namespace Go.Proofs.YtonalkamfgpokaaGreat
set_option maxRecDepth 100000 in
theorem key_enter : Tryz.pinned.checked.prog.mayEnter = true := by kernel_rfl
end Go.Proofs.YtonalkamfgpokaaGreat
