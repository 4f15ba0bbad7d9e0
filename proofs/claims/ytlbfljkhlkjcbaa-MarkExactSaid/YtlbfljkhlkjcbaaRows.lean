/-
  No cell of these rows narrows 'for every input' (looked for: loops, veiled, ifaces, maps, wideKeys, modest, calm, conditions, laid).
  DERIVED. THE GIVEN ROWS OF THIS SEAT. 5 by the template 'for every input the law returns true; each argument reads behind the call as it read before'; 0 by the template 'total and deterministic' (their statements: YtlbfljkhlkjcbaaTotals.lean).
  GIVEN WITH THE SEED: the statements are not yours to turn. If you find one false, say at which input.
  Laid BY PROGRAM, IN A SANDBOX (cutbox-rows.mjs): the forced cells as the released guide's own fill.sh prints them over the translation 5df857c055de3280… (all of the seat's roots in one cut). By AI agents, Wed Nov 11 2026. No macro, syntax, notation, axiom, sorry.
-/
import Derived.Test.YtlbfljkhlkjcbaaChecked
import GoSem.Claim
import GoSem.ClaimJoined
import GoSem.ClaimMapViews
import Derived.JoinedTies
import Derived.KernelRfl
namespace Go.Proofs.Ytlbfljkhlkjcbaa
/- THE CELL 'sum', in the pinned program and in every row, IS THE sha256 OF THE DUMP (.gsa) THAT YtlbfljkhlkjcbaaProg.lean LOADS. Nothing in Lean hashes anything: it is a label: what it is worth is what the hold of that sum in a sandbox is worth. -/
noncomputable def Try.pinned : Pinned := { name := "ytlbfljkhlkjcbaa", sum := "5df857c055de3280d1bee675b196282465e475507b24c93ef8e24cc0cd6719cc", checked := Try.checked }
namespace Rows
def none {H : Type} : Left H := { results := [], args := [] }

/-- 'cambistlaw14.MarkExact': WHATEVER THE INPUT: true; the input reads as it did. -/
def markExactSpec : ChangeSpec := { name := "markExact", fn := fun _ => fun
  | [d1, d2, d3, d4, d5, d6] => { results := [.lit (.bool true)], args := [d1, d2, d3, d4, d5, d6] }
  | _ => none }
def markExactRow : OpenClaim := { program := "ytlbfljkhlkjcbaa", sum := "5df857c055de3280d1bee675b196282465e475507b24c93ef8e24cc0cd6719cc", func := "cambist/cambistlaw14.MarkExact", spec := "markExact", inPlace := ["math/bits.Add64"], unfollowed := true, recurses := true, apart := false }
def MarkExactSaid : Prop := markExactRow.holds Try.pinned (OpenSpec.ofChange markExactSpec)

/-- ITS FALSE NEIGHBOUR: 'it returns false'. Refute it at one input. -/
def markExactWrong : ChangeSpec := { name := "markExact", fn := fun _ => fun
  | [d1, d2, d3, d4, d5, d6] => { results := [.lit (.bool false)], args := [d1, d2, d3, d4, d5, d6] }
  | _ => none }
def MarkExactWrongFalsely : Prop := markExactRow.holds Try.pinned (OpenSpec.ofChange markExactWrong)

/-- 'cambistlaw14.MarkSteps': WHATEVER THE INPUT: true; the input reads as it did. -/
def markStepsSpec : ChangeSpec := { name := "markSteps", fn := fun _ => fun
  | [d1, d2, d3, d4] => { results := [.lit (.bool true)], args := [d1, d2, d3, d4] }
  | _ => none }
def markStepsRow : OpenClaim := { program := "ytlbfljkhlkjcbaa", sum := "5df857c055de3280d1bee675b196282465e475507b24c93ef8e24cc0cd6719cc", func := "cambist/cambistlaw14.MarkSteps", spec := "markSteps", inPlace := ["math/bits.Add64"], apart := false }
def MarkStepsSaid : Prop := markStepsRow.holds Try.pinned (OpenSpec.ofChange markStepsSpec)

/-- ITS FALSE NEIGHBOUR: 'it returns false'. Refute it at one input. -/
def markStepsWrong : ChangeSpec := { name := "markSteps", fn := fun _ => fun
  | [d1, d2, d3, d4] => { results := [.lit (.bool false)], args := [d1, d2, d3, d4] }
  | _ => none }
def MarkStepsWrongFalsely : Prop := markStepsRow.holds Try.pinned (OpenSpec.ofChange markStepsWrong)

/-- 'cambistlaw14.MarkZero': WHATEVER THE INPUT: true; the input reads as it did. -/
def markZeroSpec : ChangeSpec := { name := "markZero", fn := fun _ => fun
  | [d1, d2] => { results := [.lit (.bool true)], args := [d1, d2] }
  | _ => none }
def markZeroRow : OpenClaim := { program := "ytlbfljkhlkjcbaa", sum := "5df857c055de3280d1bee675b196282465e475507b24c93ef8e24cc0cd6719cc", func := "cambist/cambistlaw14.MarkZero", spec := "markZero", inPlace := ["math/bits.Add64"], unfollowed := true, recurses := true, apart := false }
def MarkZeroSaid : Prop := markZeroRow.holds Try.pinned (OpenSpec.ofChange markZeroSpec)

/-- ITS FALSE NEIGHBOUR: 'it returns false'. Refute it at one input. -/
def markZeroWrong : ChangeSpec := { name := "markZero", fn := fun _ => fun
  | [d1, d2] => { results := [.lit (.bool false)], args := [d1, d2] }
  | _ => none }
def MarkZeroWrongFalsely : Prop := markZeroRow.holds Try.pinned (OpenSpec.ofChange markZeroWrong)

/-- 'cambistlaw14.MarkAgain': WHATEVER THE INPUT: true; the input reads as it did. -/
def markAgainSpec : ChangeSpec := { name := "markAgain", fn := fun _ => fun
  | [d1, d2] => { results := [.lit (.bool true)], args := [d1, d2] }
  | _ => none }
def markAgainRow : OpenClaim := { program := "ytlbfljkhlkjcbaa", sum := "5df857c055de3280d1bee675b196282465e475507b24c93ef8e24cc0cd6719cc", func := "cambist/cambistlaw14.MarkAgain", spec := "markAgain", inPlace := ["math/bits.Add64"], unfollowed := true, recurses := true, apart := false }
def MarkAgainSaid : Prop := markAgainRow.holds Try.pinned (OpenSpec.ofChange markAgainSpec)

/-- ITS FALSE NEIGHBOUR: 'it returns false'. Refute it at one input. -/
def markAgainWrong : ChangeSpec := { name := "markAgain", fn := fun _ => fun
  | [d1, d2] => { results := [.lit (.bool false)], args := [d1, d2] }
  | _ => none }
def MarkAgainWrongFalsely : Prop := markAgainRow.holds Try.pinned (OpenSpec.ofChange markAgainWrong)

/-- 'cambistlaw14.MarkPrices': WHATEVER THE INPUT: true; the input reads as it did. -/
def markPricesSpec : ChangeSpec := { name := "markPrices", fn := fun _ => fun
  | [d1, d2, d3, d4] => { results := [.lit (.bool true)], args := [d1, d2, d3, d4] }
  | _ => none }
def markPricesRow : OpenClaim := { program := "ytlbfljkhlkjcbaa", sum := "5df857c055de3280d1bee675b196282465e475507b24c93ef8e24cc0cd6719cc", func := "cambist/cambistlaw14.MarkPrices", spec := "markPrices", inPlace := ["math/bits.Add64"], apart := false }
def MarkPricesSaid : Prop := markPricesRow.holds Try.pinned (OpenSpec.ofChange markPricesSpec)

/-- ITS FALSE NEIGHBOUR: 'it returns false'. Refute it at one input. -/
def markPricesWrong : ChangeSpec := { name := "markPrices", fn := fun _ => fun
  | [d1, d2, d3, d4] => { results := [.lit (.bool false)], args := [d1, d2, d3, d4] }
  | _ => none }
def MarkPricesWrongFalsely : Prop := markPricesRow.holds Try.pinned (OpenSpec.ofChange markPricesWrong)

/- THE SECOND FORM. 'bulk': how many values and letters a reading holds, each counted each time it is reached (what is shared counts as often as it is met; a slice's spare places count too). A statement '..UptoSaid' is the law's where the arguments, and the package variables that the reading takes, are together of bulk at most 1048576: NARROWER than '..Said'. Prove '..Said' where nothing that the law and all that it calls make is longer than what came in: it says more and counts as full. Else prove '..UptoSaid'. A law counts once. -/
mutual
def uptoBulk {H : Type} : DataW H → Nat
  | .lit (.string bytes) => bytes.length + 1
  | .lit _ => 1
  | .nil => 1
  | .ptr d => uptoBulk d + 1
  | .slice elems spare => uptoBulkAll elems + uptoBulkAll spare + 1
  | .agg parts => uptoBulkAll parts + 1
  | .iface _ d => uptoBulk d + 1
  | .map entries => uptoBulkEntries entries + 1
  | .held _ => 1
def uptoBulkAll {H : Type} : List (DataW H) → Nat
  | [] => 0
  | d :: r => uptoBulk d + uptoBulkAll r
def uptoBulkEntries {H : Type} : List (Lit × DataW H) → Nat
  | [] => 0
  | x :: r => uptoBulkEntry x + uptoBulkEntries r
def uptoBulkEntry {H : Type} : Lit × DataW H → Nat
  | (.string bytes, d) => bytes.length + uptoBulk d + 1
  | (_, d) => uptoBulk d + 1
 end
def uptoSmall : (H : Type) → List (DataW H) → Bool := fun _ ds => decide (uptoBulkAll ds ≤ 1048576)
def OpenSpec.upto (s : _root_.Go.ChangeSpec) : _root_.Go.OpenSpec := { _root_.Go.OpenSpec.ofChange s with cond := some uptoSmall }

/-- 'cambistlaw14.MarkExact', WHERE WHAT IT READS IS OF BULK AT MOST 1048576: true; the input reads as it did. -/
def markExactUptoRow : OpenClaim := { program := "ytlbfljkhlkjcbaa", sum := "5df857c055de3280d1bee675b196282465e475507b24c93ef8e24cc0cd6719cc", func := "cambist/cambistlaw14.MarkExact", spec := "markExact", inPlace := ["math/bits.Add64"], unfollowed := true, recurses := true, apart := false, narrowed := true }
def MarkExactUptoSaid : Prop := markExactUptoRow.holds Try.pinned (OpenSpec.upto markExactSpec)

/-- 'cambistlaw14.MarkSteps', WHERE WHAT IT READS IS OF BULK AT MOST 1048576: true; the input reads as it did. -/
def markStepsUptoRow : OpenClaim := { program := "ytlbfljkhlkjcbaa", sum := "5df857c055de3280d1bee675b196282465e475507b24c93ef8e24cc0cd6719cc", func := "cambist/cambistlaw14.MarkSteps", spec := "markSteps", inPlace := ["math/bits.Add64"], apart := false, narrowed := true }
def MarkStepsUptoSaid : Prop := markStepsUptoRow.holds Try.pinned (OpenSpec.upto markStepsSpec)

/-- 'cambistlaw14.MarkZero', WHERE WHAT IT READS IS OF BULK AT MOST 1048576: true; the input reads as it did. -/
def markZeroUptoRow : OpenClaim := { program := "ytlbfljkhlkjcbaa", sum := "5df857c055de3280d1bee675b196282465e475507b24c93ef8e24cc0cd6719cc", func := "cambist/cambistlaw14.MarkZero", spec := "markZero", inPlace := ["math/bits.Add64"], unfollowed := true, recurses := true, apart := false, narrowed := true }
def MarkZeroUptoSaid : Prop := markZeroUptoRow.holds Try.pinned (OpenSpec.upto markZeroSpec)

/-- 'cambistlaw14.MarkAgain', WHERE WHAT IT READS IS OF BULK AT MOST 1048576: true; the input reads as it did. -/
def markAgainUptoRow : OpenClaim := { program := "ytlbfljkhlkjcbaa", sum := "5df857c055de3280d1bee675b196282465e475507b24c93ef8e24cc0cd6719cc", func := "cambist/cambistlaw14.MarkAgain", spec := "markAgain", inPlace := ["math/bits.Add64"], unfollowed := true, recurses := true, apart := false, narrowed := true }
def MarkAgainUptoSaid : Prop := markAgainUptoRow.holds Try.pinned (OpenSpec.upto markAgainSpec)

/-- 'cambistlaw14.MarkPrices', WHERE WHAT IT READS IS OF BULK AT MOST 1048576: true; the input reads as it did. -/
def markPricesUptoRow : OpenClaim := { program := "ytlbfljkhlkjcbaa", sum := "5df857c055de3280d1bee675b196282465e475507b24c93ef8e24cc0cd6719cc", func := "cambist/cambistlaw14.MarkPrices", spec := "markPrices", inPlace := ["math/bits.Add64"], apart := false, narrowed := true }
def MarkPricesUptoSaid : Prop := markPricesUptoRow.holds Try.pinned (OpenSpec.upto markPricesSpec)

end Rows
end Go.Proofs.Ytlbfljkhlkjcbaa
