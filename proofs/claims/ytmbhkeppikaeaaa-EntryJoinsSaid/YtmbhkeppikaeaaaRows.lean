/-
  No cell of these rows narrows 'for every input' (looked for: loops, veiled, ifaces, maps, wideKeys, modest, calm, conditions, laid).
  DERIVED. THE GIVEN ROWS OF THIS SEAT. 6 by the template 'for every input the law returns true; each argument reads behind the call as it read before'; 0 by the template 'total and deterministic' (their statements: YtmbhkeppikaeaaaTotals.lean).
  GIVEN WITH THE SEED: the statements are not yours to turn. If you find one false, say at which input.
  Laid BY PROGRAM, IN A SANDBOX (cutbox-rows.mjs): the forced cells as the released guide's own fill.sh prints them over the translation 870ada04dc582ce2… (all of the seat's roots in one cut). By AI agents, Wed Nov 11 2026. No macro, syntax, notation, axiom, sorry.
-/
import Derived.Test.YtmbhkeppikaeaaaChecked
import GoSem.Claim
import GoSem.ClaimJoined
import GoSem.ClaimMapViews
import Derived.JoinedTies
import Derived.KernelRfl
namespace Go.Proofs.Ytmbhkeppikaeaaa
/- THE CELL 'sum', in the pinned program and in every row, IS THE sha256 OF THE DUMP (.gsa) THAT YtmbhkeppikaeaaaProg.lean LOADS. Nothing in Lean hashes anything: it is a label: what it is worth is what the hold of that sum in a sandbox is worth. -/
noncomputable def Try.pinned : Pinned := { name := "ytmbhkeppikaeaaa", sum := "870ada04dc582ce20ae1eaa73f61b12387801520ad9885b79bc6bf7fca15d4bf", checked := Try.checked }
namespace Rows
def none {H : Type} : Left H := { results := [], args := [] }

/-- 'cambistlaw09.EntryExact': WHATEVER THE INPUT: true; the input reads as it did. -/
def entryExactSpec : ChangeSpec := { name := "entryExact", fn := fun _ => fun
  | [d] => { results := [.lit (.bool true)], args := [d] }
  | _ => none }
def entryExactRow : OpenClaim := { program := "ytmbhkeppikaeaaa", sum := "870ada04dc582ce20ae1eaa73f61b12387801520ad9885b79bc6bf7fca15d4bf", func := "cambist/cambistlaw09.EntryExact", spec := "entryExact", inPlace := ["math/bits.Add64"], plainKeys := false, apart := false }
def EntryExactSaid : Prop := entryExactRow.holds Try.pinned (OpenSpec.ofChange entryExactSpec)

/-- ITS FALSE NEIGHBOUR: 'it returns false'. Refute it at one input. -/
def entryExactWrong : ChangeSpec := { name := "entryExact", fn := fun _ => fun
  | [d] => { results := [.lit (.bool false)], args := [d] }
  | _ => none }
def EntryExactWrongFalsely : Prop := entryExactRow.holds Try.pinned (OpenSpec.ofChange entryExactWrong)

/-- 'cambistlaw09.EntryMoves': WHATEVER THE INPUT: true; the input reads as it did. -/
def entryMovesSpec : ChangeSpec := { name := "entryMoves", fn := fun _ => fun
  | [d1, d2, d3, d4] => { results := [.lit (.bool true)], args := [d1, d2, d3, d4] }
  | _ => none }
def entryMovesRow : OpenClaim := { program := "ytmbhkeppikaeaaa", sum := "870ada04dc582ce20ae1eaa73f61b12387801520ad9885b79bc6bf7fca15d4bf", func := "cambist/cambistlaw09.EntryMoves", spec := "entryMoves", inPlace := ["math/bits.Add64"], plainKeys := false, apart := false }
def EntryMovesSaid : Prop := entryMovesRow.holds Try.pinned (OpenSpec.ofChange entryMovesSpec)

/-- ITS FALSE NEIGHBOUR: 'it returns false'. Refute it at one input. -/
def entryMovesWrong : ChangeSpec := { name := "entryMoves", fn := fun _ => fun
  | [d1, d2, d3, d4] => { results := [.lit (.bool false)], args := [d1, d2, d3, d4] }
  | _ => none }
def EntryMovesWrongFalsely : Prop := entryMovesRow.holds Try.pinned (OpenSpec.ofChange entryMovesWrong)

/-- 'cambistlaw09.EntryJoins': WHATEVER THE INPUT: true; the input reads as it did. -/
def entryJoinsSpec : ChangeSpec := { name := "entryJoins", fn := fun _ => fun
  | [d] => { results := [.lit (.bool true)], args := [d] }
  | _ => none }
def entryJoinsRow : OpenClaim := { program := "ytmbhkeppikaeaaa", sum := "870ada04dc582ce20ae1eaa73f61b12387801520ad9885b79bc6bf7fca15d4bf", func := "cambist/cambistlaw09.EntryJoins", spec := "entryJoins", inPlace := ["math/bits.Add64"], plainKeys := false, apart := false }
def EntryJoinsSaid : Prop := entryJoinsRow.holds Try.pinned (OpenSpec.ofChange entryJoinsSpec)

/-- ITS FALSE NEIGHBOUR: 'it returns false'. Refute it at one input. -/
def entryJoinsWrong : ChangeSpec := { name := "entryJoins", fn := fun _ => fun
  | [d] => { results := [.lit (.bool false)], args := [d] }
  | _ => none }
def EntryJoinsWrongFalsely : Prop := entryJoinsRow.holds Try.pinned (OpenSpec.ofChange entryJoinsWrong)

/-- 'cambistlaw09.EntryTurns': WHATEVER THE INPUT: true; the input reads as it did. -/
def entryTurnsSpec : ChangeSpec := { name := "entryTurns", fn := fun _ => fun
  | [d] => { results := [.lit (.bool true)], args := [d] }
  | _ => none }
def entryTurnsRow : OpenClaim := { program := "ytmbhkeppikaeaaa", sum := "870ada04dc582ce20ae1eaa73f61b12387801520ad9885b79bc6bf7fca15d4bf", func := "cambist/cambistlaw09.EntryTurns", spec := "entryTurns", inPlace := ["math/bits.Add64"], plainKeys := false, apart := false }
def EntryTurnsSaid : Prop := entryTurnsRow.holds Try.pinned (OpenSpec.ofChange entryTurnsSpec)

/-- ITS FALSE NEIGHBOUR: 'it returns false'. Refute it at one input. -/
def entryTurnsWrong : ChangeSpec := { name := "entryTurns", fn := fun _ => fun
  | [d] => { results := [.lit (.bool false)], args := [d] }
  | _ => none }
def EntryTurnsWrongFalsely : Prop := entryTurnsRow.holds Try.pinned (OpenSpec.ofChange entryTurnsWrong)

/-- 'cambistlaw09.EntryPays': WHATEVER THE INPUT: true; the input reads as it did. -/
def entryPaysSpec : ChangeSpec := { name := "entryPays", fn := fun _ => fun
  | [d1, d2, d3] => { results := [.lit (.bool true)], args := [d1, d2, d3] }
  | _ => none }
def entryPaysRow : OpenClaim := { program := "ytmbhkeppikaeaaa", sum := "870ada04dc582ce20ae1eaa73f61b12387801520ad9885b79bc6bf7fca15d4bf", func := "cambist/cambistlaw09.EntryPays", spec := "entryPays", inPlace := ["math/bits.Add64"], plainKeys := false, apart := false }
def EntryPaysSaid : Prop := entryPaysRow.holds Try.pinned (OpenSpec.ofChange entryPaysSpec)

/-- ITS FALSE NEIGHBOUR: 'it returns false'. Refute it at one input. -/
def entryPaysWrong : ChangeSpec := { name := "entryPays", fn := fun _ => fun
  | [d1, d2, d3] => { results := [.lit (.bool false)], args := [d1, d2, d3] }
  | _ => none }
def EntryPaysWrongFalsely : Prop := entryPaysRow.holds Try.pinned (OpenSpec.ofChange entryPaysWrong)

/-- 'cambistlaw09.EntryMany': WHATEVER THE INPUT: true; the input reads as it did. -/
def entryManySpec : ChangeSpec := { name := "entryMany", fn := fun _ => fun
  | [d1, d2] => { results := [.lit (.bool true)], args := [d1, d2] }
  | _ => none }
def entryManyRow : OpenClaim := { program := "ytmbhkeppikaeaaa", sum := "870ada04dc582ce20ae1eaa73f61b12387801520ad9885b79bc6bf7fca15d4bf", func := "cambist/cambistlaw09.EntryMany", spec := "entryMany", inPlace := ["math/bits.Add64"], plainKeys := false, apart := false }
def EntryManySaid : Prop := entryManyRow.holds Try.pinned (OpenSpec.ofChange entryManySpec)

/-- ITS FALSE NEIGHBOUR: 'it returns false'. Refute it at one input. -/
def entryManyWrong : ChangeSpec := { name := "entryMany", fn := fun _ => fun
  | [d1, d2] => { results := [.lit (.bool false)], args := [d1, d2] }
  | _ => none }
def EntryManyWrongFalsely : Prop := entryManyRow.holds Try.pinned (OpenSpec.ofChange entryManyWrong)

/- THE SECOND FORM. 'bulk': how many values and letters a reading holds, each counted each time it is reached (what is shared counts as often as it is met; a slice's spare places count too). A statement '..UptoSaid' is the law's where the arguments, and the package variables that the reading takes, are together of bulk at most 1048576: NARROWER than '..Said'. Prove '..Said' where nothing that the law and all that it calls make is longer than what came in: it says more and counts as full. Else prove '..UptoSaid'. A law counts once. -/
mutual
def uptoBulk {H : Type} : DataW H → Nat
  | .lit (.string bytes) => bytes.length + 1
  | .lit _ => 1
  | .nil => 1
  | .ptr d => uptoBulk d + 1
  | .slice elems spare => uptoBulkAll elems + uptoBulkAll spare + 1
  | .agg parts => uptoBulkAll parts + 1
  | .iface _ d => uptoBulk d + 1
  | .map entries => uptoBulkEntries entries + 1
  | .held _ => 1
def uptoBulkAll {H : Type} : List (DataW H) → Nat
  | [] => 0
  | d :: r => uptoBulk d + uptoBulkAll r
def uptoBulkEntries {H : Type} : List (Lit × DataW H) → Nat
  | [] => 0
  | x :: r => uptoBulkEntry x + uptoBulkEntries r
def uptoBulkEntry {H : Type} : Lit × DataW H → Nat
  | (.string bytes, d) => bytes.length + uptoBulk d + 1
  | (_, d) => uptoBulk d + 1
 end
def uptoSmall : (H : Type) → List (DataW H) → Bool := fun _ ds => decide (uptoBulkAll ds ≤ 1048576)
def OpenSpec.upto (s : _root_.Go.ChangeSpec) : _root_.Go.OpenSpec := { _root_.Go.OpenSpec.ofChange s with cond := some uptoSmall }

/-- 'cambistlaw09.EntryExact', WHERE WHAT IT READS IS OF BULK AT MOST 1048576: true; the input reads as it did. -/
def entryExactUptoRow : OpenClaim := { program := "ytmbhkeppikaeaaa", sum := "870ada04dc582ce20ae1eaa73f61b12387801520ad9885b79bc6bf7fca15d4bf", func := "cambist/cambistlaw09.EntryExact", spec := "entryExact", inPlace := ["math/bits.Add64"], plainKeys := false, apart := false, narrowed := true }
def EntryExactUptoSaid : Prop := entryExactUptoRow.holds Try.pinned (OpenSpec.upto entryExactSpec)

/-- 'cambistlaw09.EntryMoves', WHERE WHAT IT READS IS OF BULK AT MOST 1048576: true; the input reads as it did. -/
def entryMovesUptoRow : OpenClaim := { program := "ytmbhkeppikaeaaa", sum := "870ada04dc582ce20ae1eaa73f61b12387801520ad9885b79bc6bf7fca15d4bf", func := "cambist/cambistlaw09.EntryMoves", spec := "entryMoves", inPlace := ["math/bits.Add64"], plainKeys := false, apart := false, narrowed := true }
def EntryMovesUptoSaid : Prop := entryMovesUptoRow.holds Try.pinned (OpenSpec.upto entryMovesSpec)

/-- 'cambistlaw09.EntryJoins', WHERE WHAT IT READS IS OF BULK AT MOST 1048576: true; the input reads as it did. -/
def entryJoinsUptoRow : OpenClaim := { program := "ytmbhkeppikaeaaa", sum := "870ada04dc582ce20ae1eaa73f61b12387801520ad9885b79bc6bf7fca15d4bf", func := "cambist/cambistlaw09.EntryJoins", spec := "entryJoins", inPlace := ["math/bits.Add64"], plainKeys := false, apart := false, narrowed := true }
def EntryJoinsUptoSaid : Prop := entryJoinsUptoRow.holds Try.pinned (OpenSpec.upto entryJoinsSpec)

/-- 'cambistlaw09.EntryTurns', WHERE WHAT IT READS IS OF BULK AT MOST 1048576: true; the input reads as it did. -/
def entryTurnsUptoRow : OpenClaim := { program := "ytmbhkeppikaeaaa", sum := "870ada04dc582ce20ae1eaa73f61b12387801520ad9885b79bc6bf7fca15d4bf", func := "cambist/cambistlaw09.EntryTurns", spec := "entryTurns", inPlace := ["math/bits.Add64"], plainKeys := false, apart := false, narrowed := true }
def EntryTurnsUptoSaid : Prop := entryTurnsUptoRow.holds Try.pinned (OpenSpec.upto entryTurnsSpec)

/-- 'cambistlaw09.EntryPays', WHERE WHAT IT READS IS OF BULK AT MOST 1048576: true; the input reads as it did. -/
def entryPaysUptoRow : OpenClaim := { program := "ytmbhkeppikaeaaa", sum := "870ada04dc582ce20ae1eaa73f61b12387801520ad9885b79bc6bf7fca15d4bf", func := "cambist/cambistlaw09.EntryPays", spec := "entryPays", inPlace := ["math/bits.Add64"], plainKeys := false, apart := false, narrowed := true }
def EntryPaysUptoSaid : Prop := entryPaysUptoRow.holds Try.pinned (OpenSpec.upto entryPaysSpec)

/-- 'cambistlaw09.EntryMany', WHERE WHAT IT READS IS OF BULK AT MOST 1048576: true; the input reads as it did. -/
def entryManyUptoRow : OpenClaim := { program := "ytmbhkeppikaeaaa", sum := "870ada04dc582ce20ae1eaa73f61b12387801520ad9885b79bc6bf7fca15d4bf", func := "cambist/cambistlaw09.EntryMany", spec := "entryMany", inPlace := ["math/bits.Add64"], plainKeys := false, apart := false, narrowed := true }
def EntryManyUptoSaid : Prop := entryManyUptoRow.holds Try.pinned (OpenSpec.upto entryManySpec)

end Rows
end Go.Proofs.Ytmbhkeppikaeaaa
