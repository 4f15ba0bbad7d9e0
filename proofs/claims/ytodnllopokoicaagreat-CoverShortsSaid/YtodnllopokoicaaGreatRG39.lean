/- The sums of legs: the program's. -/
import Derived.Test.YtodnllopokoicaaGreatRG23
import Derived.Test.YtodnllopokoicaaGreatRG5
import Derived.Deep.RegionLaw
import Derived.Test.YtodnllopokoicaaGreatRG25
import Derived.Test.YtodnllopokoicaaGreatRG7
import Derived.Deep.DeepCutAuto
namespace Go.Proofs.YtodnllopokoicaaGreat.NumK
open Go.RowKit
set_option linter.unusedVariables false

end Go.Proofs.YtodnllopokoicaaGreat.NumK
namespace Go.Proofs.YtodnllopokoicaaGreat.NumK
open Go.RowKit
set_option linter.unusedVariables false

end Go.Proofs.YtodnllopokoicaaGreat.NumK
namespace Go.Proofs.YtodnllopokoicaaGreat.NumK
open Go.RowKit
set_option linter.unusedVariables false

/-! ### Of -/
end Go.Proofs.YtodnllopokoicaaGreat.NumK
namespace Go.Proofs.YtodnllopokoicaaGreat.NumK
open Go.RowKit
set_option linter.unusedVariables false

end Go.Proofs.YtodnllopokoicaaGreat.NumK
