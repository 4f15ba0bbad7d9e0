/- The reference's Total and Ledger. -/
import Derived.Test.YtodnllopokoicaaGreatRG27
import Derived.Test.YtodnllopokoicaaGreatRG26
import Derived.Test.YtodnllopokoicaaGreatRG7
namespace Go.Proofs.YtodnllopokoicaaGreat.NumK
open Go.RowKit

end Go.Proofs.YtodnllopokoicaaGreat.NumK
