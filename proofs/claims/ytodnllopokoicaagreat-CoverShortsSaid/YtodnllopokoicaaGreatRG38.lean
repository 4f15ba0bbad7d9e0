/- What stands for a member, as the reference tells it. -/
import Derived.Test.YtodnllopokoicaaGreatRG34
import Derived.Test.YtodnllopokoicaaGreatRG36
import Derived.Test.YtodnllopokoicaaGreatRG37
import Derived.Test.YtodnllopokoicaaGreatRG23
import Derived.Test.YtodnllopokoicaaGreatRG2
import Derived.Deep.RegionHeld3
namespace Go.Proofs.YtodnllopokoicaaGreat.NumK
open Go.RowKit
set_option linter.unusedVariables false

theorem capE_no {n : Int} (h : isMoney n = false) : capE n = 1 := by unfold capE; rw [h]; rfl
theorem capV_no {n : Int} (h : isMoney n = false) : capV n = 0 := by unfold capV; rw [h]; rfl
end Go.Proofs.YtodnllopokoicaaGreat.NumK
