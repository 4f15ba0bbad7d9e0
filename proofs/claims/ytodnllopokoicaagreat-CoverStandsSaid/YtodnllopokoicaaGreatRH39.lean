/- The sums of legs: the program's. -/
import Derived.Test.YtodnllopokoicaaGreatRH23
import Derived.Test.YtodnllopokoicaaGreatRH5
import Derived.Deep.RegionLaw
import Derived.Test.YtodnllopokoicaaGreatRH25
import Derived.Test.YtodnllopokoicaaGreatRH7
import Derived.Deep.DeepCutAuto
namespace Go.Proofs.YtodnllopokoicaaGreat.NumK
open Go.RowKit
set_option linter.unusedVariables false

end Go.Proofs.YtodnllopokoicaaGreat.NumK
namespace Go.Proofs.YtodnllopokoicaaGreat.NumK
open Go.RowKit
set_option linter.unusedVariables false

end Go.Proofs.YtodnllopokoicaaGreat.NumK
namespace Go.Proofs.YtodnllopokoicaaGreat.NumK
open Go.RowKit
set_option linter.unusedVariables false

/-! ### Of -/
end Go.Proofs.YtodnllopokoicaaGreat.NumK
namespace Go.Proofs.YtodnllopokoicaaGreat.NumK
open Go.RowKit
set_option linter.unusedVariables false

end Go.Proofs.YtodnllopokoicaaGreat.NumK
