/- The document's Book: whether a book is right. -/
import Derived.Test.YtodnllopokoicaaGreatRG39
namespace Go.Proofs.YtodnllopokoicaaGreat.NumK
open Go.RowKit
set_option linter.unusedVariables false

end Go.Proofs.YtodnllopokoicaaGreat.NumK
