/- What the frame of a claim asks of the whole program, apart from the law: whether it lifts a final. A text of its own, for the kernel's memory. -/
import Derived.Test.YtonalkamfgpokaaGreatRows
import Derived.KernelRfl
namespace Go.Proofs.YtonalkamfgpokaaGreat
set_option maxRecDepth 100000 in
theorem key_lifts : Tryz.pinned.checked.prog.liftsFinal = false := by kernel_rfl
end Go.Proofs.YtonalkamfgpokaaGreat
