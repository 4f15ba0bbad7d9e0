/-
  No cell of these rows narrows 'for every input' (looked for: loops, veiled, ifaces, maps, wideKeys, modest, calm, conditions, laid).
  DERIVED. THE GIVEN ROWS OF THIS SEAT. 5 by the template 'for every input the law returns true; each argument reads behind the call as it read before'; 0 by the template 'total and deterministic' (their statements: YtgblhliinjgofaaTotals.lean).
  GIVEN WITH THE SEED: the statements are not yours to turn. If you find one false, say at which input.
  Laid BY PROGRAM, IN A SANDBOX (cutbox-rows.mjs): the forced cells as the released guide's own fill.sh prints them over the translation 11877d3064c49ebf… (all of the seat's roots in one cut). By AI agents, Wed Nov 11 2026. No macro, syntax, notation, axiom, sorry.
-/
import Derived.Test.YtgblhliinjgofaaChecked
import GoSem.Claim
import GoSem.ClaimJoined
import GoSem.ClaimMapViews
import Derived.JoinedTies
import Derived.KernelRfl
namespace Go.Proofs.Ytgblhliinjgofaa
/- THE CELL 'sum', in the pinned program and in every row, IS THE sha256 OF THE DUMP (.gsa) THAT YtgblhliinjgofaaProg.lean LOADS. Nothing in Lean hashes anything: it is a label: what it is worth is what the hold of that sum in a sandbox is worth. -/
noncomputable def Try.pinned : Pinned := { name := "ytgblhliinjgofaa", sum := "11877d3064c49ebfcc05bdbc78518ecfba735c147b8742f3e4429da81e946b6a", checked := Try.checked }
namespace Rows
def none {H : Type} : Left H := { results := [], args := [] }

/-- 'cambistlaw12.TradeExact': WHATEVER THE INPUT: true; the input reads as it did. -/
def tradeExactSpec : ChangeSpec := { name := "tradeExact", fn := fun _ => fun
  | [d1, d2] => { results := [.lit (.bool true)], args := [d1, d2] }
  | _ => none }
def tradeExactRow : OpenClaim := { program := "ytgblhliinjgofaa", sum := "11877d3064c49ebfcc05bdbc78518ecfba735c147b8742f3e4429da81e946b6a", func := "cambist/cambistlaw12.TradeExact", spec := "tradeExact", unfollowed := true, recurses := true, apart := false }
def TradeExactSaid : Prop := tradeExactRow.holds Try.pinned (OpenSpec.ofChange tradeExactSpec)

/-- ITS FALSE NEIGHBOUR: 'it returns false'. Refute it at one input. -/
def tradeExactWrong : ChangeSpec := { name := "tradeExact", fn := fun _ => fun
  | [d1, d2] => { results := [.lit (.bool false)], args := [d1, d2] }
  | _ => none }
def TradeExactWrongFalsely : Prop := tradeExactRow.holds Try.pinned (OpenSpec.ofChange tradeExactWrong)

/-- 'cambistlaw12.TradeSums': WHATEVER THE INPUT: true; the input reads as it did. -/
def tradeSumsSpec : ChangeSpec := { name := "tradeSums", fn := fun _ => fun
  | [d] => { results := [.lit (.bool true)], args := [d] }
  | _ => none }
def tradeSumsRow : OpenClaim := { program := "ytgblhliinjgofaa", sum := "11877d3064c49ebfcc05bdbc78518ecfba735c147b8742f3e4429da81e946b6a", func := "cambist/cambistlaw12.TradeSums", spec := "tradeSums", inPlace := ["math/bits.Add64"], apart := false }
def TradeSumsSaid : Prop := tradeSumsRow.holds Try.pinned (OpenSpec.ofChange tradeSumsSpec)

/-- ITS FALSE NEIGHBOUR: 'it returns false'. Refute it at one input. -/
def tradeSumsWrong : ChangeSpec := { name := "tradeSums", fn := fun _ => fun
  | [d] => { results := [.lit (.bool false)], args := [d] }
  | _ => none }
def TradeSumsWrongFalsely : Prop := tradeSumsRow.holds Try.pinned (OpenSpec.ofChange tradeSumsWrong)

/-- 'cambistlaw12.TradeFlat': WHATEVER THE INPUT: true; the input reads as it did. -/
def tradeFlatSpec : ChangeSpec := { name := "tradeFlat", fn := fun _ => fun
  | [d] => { results := [.lit (.bool true)], args := [d] }
  | _ => none }
def tradeFlatRow : OpenClaim := { program := "ytgblhliinjgofaa", sum := "11877d3064c49ebfcc05bdbc78518ecfba735c147b8742f3e4429da81e946b6a", func := "cambist/cambistlaw12.TradeFlat", spec := "tradeFlat", apart := false }
def TradeFlatSaid : Prop := tradeFlatRow.holds Try.pinned (OpenSpec.ofChange tradeFlatSpec)

/-- ITS FALSE NEIGHBOUR: 'it returns false'. Refute it at one input. -/
def tradeFlatWrong : ChangeSpec := { name := "tradeFlat", fn := fun _ => fun
  | [d] => { results := [.lit (.bool false)], args := [d] }
  | _ => none }
def TradeFlatWrongFalsely : Prop := tradeFlatRow.holds Try.pinned (OpenSpec.ofChange tradeFlatWrong)

/-- 'cambistlaw12.TradeSides': WHATEVER THE INPUT: true; the input reads as it did. -/
def tradeSidesSpec : ChangeSpec := { name := "tradeSides", fn := fun _ => fun
  | [d1, d2] => { results := [.lit (.bool true)], args := [d1, d2] }
  | _ => none }
def tradeSidesRow : OpenClaim := { program := "ytgblhliinjgofaa", sum := "11877d3064c49ebfcc05bdbc78518ecfba735c147b8742f3e4429da81e946b6a", func := "cambist/cambistlaw12.TradeSides", spec := "tradeSides", unfollowed := true, recurses := true, apart := false }
def TradeSidesSaid : Prop := tradeSidesRow.holds Try.pinned (OpenSpec.ofChange tradeSidesSpec)

/-- ITS FALSE NEIGHBOUR: 'it returns false'. Refute it at one input. -/
def tradeSidesWrong : ChangeSpec := { name := "tradeSides", fn := fun _ => fun
  | [d1, d2] => { results := [.lit (.bool false)], args := [d1, d2] }
  | _ => none }
def TradeSidesWrongFalsely : Prop := tradeSidesRow.holds Try.pinned (OpenSpec.ofChange tradeSidesWrong)

/-- 'cambistlaw12.TradeMany': WHATEVER THE INPUT: true; the input reads as it did. -/
def tradeManySpec : ChangeSpec := { name := "tradeMany", fn := fun _ => fun
  | [d] => { results := [.lit (.bool true)], args := [d] }
  | _ => none }
def tradeManyRow : OpenClaim := { program := "ytgblhliinjgofaa", sum := "11877d3064c49ebfcc05bdbc78518ecfba735c147b8742f3e4429da81e946b6a", func := "cambist/cambistlaw12.TradeMany", spec := "tradeMany", apart := false }
def TradeManySaid : Prop := tradeManyRow.holds Try.pinned (OpenSpec.ofChange tradeManySpec)

/-- ITS FALSE NEIGHBOUR: 'it returns false'. Refute it at one input. -/
def tradeManyWrong : ChangeSpec := { name := "tradeMany", fn := fun _ => fun
  | [d] => { results := [.lit (.bool false)], args := [d] }
  | _ => none }
def TradeManyWrongFalsely : Prop := tradeManyRow.holds Try.pinned (OpenSpec.ofChange tradeManyWrong)

/- THE SECOND FORM. 'bulk': how many values and letters a reading holds, each counted each time it is reached (what is shared counts as often as it is met; a slice's spare places count too). A statement '..UptoSaid' is the law's where the arguments, and the package variables that the reading takes, are together of bulk at most 1048576: NARROWER than '..Said'. Prove '..Said' where nothing that the law and all that it calls make is longer than what came in: it says more and counts as full. Else prove '..UptoSaid'. A law counts once. -/
mutual
def uptoBulk {H : Type} : DataW H → Nat
  | .lit (.string bytes) => bytes.length + 1
  | .lit _ => 1
  | .nil => 1
  | .ptr d => uptoBulk d + 1
  | .slice elems spare => uptoBulkAll elems + uptoBulkAll spare + 1
  | .agg parts => uptoBulkAll parts + 1
  | .iface _ d => uptoBulk d + 1
  | .map entries => uptoBulkEntries entries + 1
  | .held _ => 1
def uptoBulkAll {H : Type} : List (DataW H) → Nat
  | [] => 0
  | d :: r => uptoBulk d + uptoBulkAll r
def uptoBulkEntries {H : Type} : List (Lit × DataW H) → Nat
  | [] => 0
  | x :: r => uptoBulkEntry x + uptoBulkEntries r
def uptoBulkEntry {H : Type} : Lit × DataW H → Nat
  | (.string bytes, d) => bytes.length + uptoBulk d + 1
  | (_, d) => uptoBulk d + 1
 end
def uptoSmall : (H : Type) → List (DataW H) → Bool := fun _ ds => decide (uptoBulkAll ds ≤ 1048576)
def OpenSpec.upto (s : _root_.Go.ChangeSpec) : _root_.Go.OpenSpec := { _root_.Go.OpenSpec.ofChange s with cond := some uptoSmall }

/-- 'cambistlaw12.TradeExact', WHERE WHAT IT READS IS OF BULK AT MOST 1048576: true; the input reads as it did. -/
def tradeExactUptoRow : OpenClaim := { program := "ytgblhliinjgofaa", sum := "11877d3064c49ebfcc05bdbc78518ecfba735c147b8742f3e4429da81e946b6a", func := "cambist/cambistlaw12.TradeExact", spec := "tradeExact", unfollowed := true, recurses := true, apart := false, narrowed := true }
def TradeExactUptoSaid : Prop := tradeExactUptoRow.holds Try.pinned (OpenSpec.upto tradeExactSpec)

/-- 'cambistlaw12.TradeSums', WHERE WHAT IT READS IS OF BULK AT MOST 1048576: true; the input reads as it did. -/
def tradeSumsUptoRow : OpenClaim := { program := "ytgblhliinjgofaa", sum := "11877d3064c49ebfcc05bdbc78518ecfba735c147b8742f3e4429da81e946b6a", func := "cambist/cambistlaw12.TradeSums", spec := "tradeSums", inPlace := ["math/bits.Add64"], apart := false, narrowed := true }
def TradeSumsUptoSaid : Prop := tradeSumsUptoRow.holds Try.pinned (OpenSpec.upto tradeSumsSpec)

/-- 'cambistlaw12.TradeFlat', WHERE WHAT IT READS IS OF BULK AT MOST 1048576: true; the input reads as it did. -/
def tradeFlatUptoRow : OpenClaim := { program := "ytgblhliinjgofaa", sum := "11877d3064c49ebfcc05bdbc78518ecfba735c147b8742f3e4429da81e946b6a", func := "cambist/cambistlaw12.TradeFlat", spec := "tradeFlat", apart := false, narrowed := true }
def TradeFlatUptoSaid : Prop := tradeFlatUptoRow.holds Try.pinned (OpenSpec.upto tradeFlatSpec)

/-- 'cambistlaw12.TradeSides', WHERE WHAT IT READS IS OF BULK AT MOST 1048576: true; the input reads as it did. -/
def tradeSidesUptoRow : OpenClaim := { program := "ytgblhliinjgofaa", sum := "11877d3064c49ebfcc05bdbc78518ecfba735c147b8742f3e4429da81e946b6a", func := "cambist/cambistlaw12.TradeSides", spec := "tradeSides", unfollowed := true, recurses := true, apart := false, narrowed := true }
def TradeSidesUptoSaid : Prop := tradeSidesUptoRow.holds Try.pinned (OpenSpec.upto tradeSidesSpec)

/-- 'cambistlaw12.TradeMany', WHERE WHAT IT READS IS OF BULK AT MOST 1048576: true; the input reads as it did. -/
def tradeManyUptoRow : OpenClaim := { program := "ytgblhliinjgofaa", sum := "11877d3064c49ebfcc05bdbc78518ecfba735c147b8742f3e4429da81e946b6a", func := "cambist/cambistlaw12.TradeMany", spec := "tradeMany", apart := false, narrowed := true }
def TradeManyUptoSaid : Prop := tradeManyUptoRow.holds Try.pinned (OpenSpec.upto tradeManySpec)

end Rows
end Go.Proofs.Ytgblhliinjgofaa
