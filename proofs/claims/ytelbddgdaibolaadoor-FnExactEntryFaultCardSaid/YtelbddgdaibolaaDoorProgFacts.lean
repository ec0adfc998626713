/-
  Facts of the program as a whole that every card of this seat leans on: each reckoned by the kernel, each by itself.
-/
import Derived.Test.YtelbddgdaibolaaDoorRows
import Derived.ProofKit
import Derived.MakeChecks
import Derived.JoinedCond
namespace Go.Proofs.YtelbddgdaibolaaDoor
theorem pf_laid : laidOutB Tryd.prog = true := by kernel_rfl
theorem pf_maps : mapsRowed Tryd.prog = true := by kernel_rfl
theorem pf_stops : (Tryd.prog.stops == []) = true := by kernel_rfl
theorem pf_knobs : (Tryd.prog.stopKnobs == []) = true := by kernel_rfl
theorem pf_heard : Tryd.prog.stopsHeard = true := by kernel_rfl
theorem pf_enter : Tryd.prog.mayEnter = true := by kernel_rfl
theorem pf_prog : Tryd.pinned.checked.prog = Tryd.prog := by kernel_rfl
end Go.Proofs.YtelbddgdaibolaaDoor
