/- The reference's Ledger. -/
import Derived.Test.YtodnllopokoicaaGreatRG35
namespace Go.Proofs.YtodnllopokoicaaGreat.NumK
open Go.RowKit

end Go.Proofs.YtodnllopokoicaaGreat.NumK
