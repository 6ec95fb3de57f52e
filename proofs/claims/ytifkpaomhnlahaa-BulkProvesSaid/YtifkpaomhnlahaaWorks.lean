/-
  The law's self-check returns true in every world, and leaves what was there as it was: its answer is calculated by the kernel.
-/
import Derived.Test.YtifkpaomhnlahaaKernQ
import Derived.Test.YtifkpaomhnlahaaProg
namespace Go.Proofs.Ytifkpaomhnlahaa
open Go RowKit
theorem fitsW : Kern.tabFits Try.prog = true := by kernel_rfl
theorem works_true : Kern.isTrue ((Kern.run (Kern.tabOf Try.prog) 30000).call 13 [] ⟨.leaf, 0⟩) = true := by kernel_rfl
theorem works_calls (w : World) : Calls Try.prog 13 #[] w fun e w' => e = .returned (.bool true) ∧ Below w.heap.size w w' :=
  Kern.calls_of_run (Kern.tabOf_ok fitsW) rfl (Kern.StubOk.none rfl) works_true w
end Go.Proofs.Ytifkpaomhnlahaa
