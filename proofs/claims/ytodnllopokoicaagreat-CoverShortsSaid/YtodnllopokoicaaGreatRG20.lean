/- Units of a pledge; twins of pledges; two rows that are the same. -/
import Derived.Test.YtodnllopokoicaaGreatRG19
import Derived.Test.YtodnllopokoicaaGreatRG13
namespace Go.Proofs.YtodnllopokoicaaGreat.NumK
open Go.RowKit
set_option linter.unusedVariables false

end Go.Proofs.YtodnllopokoicaaGreat.NumK
