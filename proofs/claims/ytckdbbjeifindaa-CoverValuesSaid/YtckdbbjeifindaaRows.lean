/-
  No cell of these rows narrows 'for every input' (looked for: loops, veiled, ifaces, maps, wideKeys, modest, calm, conditions, laid).
  DERIVED. THE GIVEN ROWS OF THIS SEAT. 4 by the template 'for every input the law returns true; each argument reads behind the call as it read before'; 0 by the template 'total and deterministic' (their statements: YtckdbbjeifindaaTotals.lean).
  GIVEN WITH THE SEED: the statements are not yours to turn. If you find one false, say at which input.
  Laid BY PROGRAM, IN A SANDBOX (cutbox-rows.mjs): the forced cells as the released guide's own fill.sh prints them over the translation afc006d0f65ec666… (all of the seat's roots in one cut). By AI agents, Wed Nov 11 2026. No macro, syntax, notation, axiom, sorry.
-/
import Derived.Test.YtckdbbjeifindaaChecked
import GoSem.Claim
import GoSem.ClaimJoined
import GoSem.ClaimMapViews
import Derived.JoinedTies
import Derived.KernelRfl
namespace Go.Proofs.Ytckdbbjeifindaa
/- THE CELL 'sum', in the pinned program and in every row, IS THE sha256 OF THE DUMP (.gsa) THAT YtckdbbjeifindaaProg.lean LOADS. Nothing in Lean hashes anything: it is a label: what it is worth is what the hold of that sum in a sandbox is worth. -/
noncomputable def Try.pinned : Pinned := { name := "ytckdbbjeifindaa", sum := "afc006d0f65ec6669f9874f39f374014cfd2e9423acde43f70341e101aadab92", checked := Try.checked }
namespace Rows
def none {H : Type} : Left H := { results := [], args := [] }

/-- 'cambistlaw16.CoverExact': WHATEVER THE INPUT: true; the input reads as it did. -/
def coverExactSpec : ChangeSpec := { name := "coverExact", fn := fun _ => fun
  | [d1, d2, d3, d4, d5, d6] => { results := [.lit (.bool true)], args := [d1, d2, d3, d4, d5, d6] }
  | _ => none }
def coverExactRow : OpenClaim := { program := "ytckdbbjeifindaa", sum := "afc006d0f65ec6669f9874f39f374014cfd2e9423acde43f70341e101aadab92", func := "cambist/cambistlaw16.CoverExact", spec := "coverExact", inPlace := ["math/bits.Add64"], unfollowed := true, recurses := true, named := ["math/bits.divideError", "math/bits.overflowError"], apart := false }
def CoverExactSaid : Prop := coverExactRow.holds Try.pinned (OpenSpec.ofChange coverExactSpec)

/-- ITS FALSE NEIGHBOUR: 'it returns false'. Refute it at one input. -/
def coverExactWrong : ChangeSpec := { name := "coverExact", fn := fun _ => fun
  | [d1, d2, d3, d4, d5, d6] => { results := [.lit (.bool false)], args := [d1, d2, d3, d4, d5, d6] }
  | _ => none }
def CoverExactWrongFalsely : Prop := coverExactRow.holds Try.pinned (OpenSpec.ofChange coverExactWrong)

/-- 'cambistlaw16.CoverValues': WHATEVER THE INPUT: true; the input reads as it did. -/
def coverValuesSpec : ChangeSpec := { name := "coverValues", fn := fun _ => fun
  | [d1, d2, d3, d4, d5] => { results := [.lit (.bool true)], args := [d1, d2, d3, d4, d5] }
  | _ => none }
def coverValuesRow : OpenClaim := { program := "ytckdbbjeifindaa", sum := "afc006d0f65ec6669f9874f39f374014cfd2e9423acde43f70341e101aadab92", func := "cambist/cambistlaw16.CoverValues", spec := "coverValues", unfollowed := true, recurses := true, named := ["math/bits.divideError", "math/bits.overflowError"], apart := false }
def CoverValuesSaid : Prop := coverValuesRow.holds Try.pinned (OpenSpec.ofChange coverValuesSpec)

/-- ITS FALSE NEIGHBOUR: 'it returns false'. Refute it at one input. -/
def coverValuesWrong : ChangeSpec := { name := "coverValues", fn := fun _ => fun
  | [d1, d2, d3, d4, d5] => { results := [.lit (.bool false)], args := [d1, d2, d3, d4, d5] }
  | _ => none }
def CoverValuesWrongFalsely : Prop := coverValuesRow.holds Try.pinned (OpenSpec.ofChange coverValuesWrong)

/-- 'cambistlaw16.CoverChanges': WHATEVER THE INPUT: true; the input reads as it did. -/
def coverChangesSpec : ChangeSpec := { name := "coverChanges", fn := fun _ => fun
  | [d1, d2, d3, d4, d5] => { results := [.lit (.bool true)], args := [d1, d2, d3, d4, d5] }
  | _ => none }
def coverChangesRow : OpenClaim := { program := "ytckdbbjeifindaa", sum := "afc006d0f65ec6669f9874f39f374014cfd2e9423acde43f70341e101aadab92", func := "cambist/cambistlaw16.CoverChanges", spec := "coverChanges", unfollowed := true, recurses := true, named := ["math/bits.divideError", "math/bits.overflowError"], apart := false }
def CoverChangesSaid : Prop := coverChangesRow.holds Try.pinned (OpenSpec.ofChange coverChangesSpec)

/-- ITS FALSE NEIGHBOUR: 'it returns false'. Refute it at one input. -/
def coverChangesWrong : ChangeSpec := { name := "coverChanges", fn := fun _ => fun
  | [d1, d2, d3, d4, d5] => { results := [.lit (.bool false)], args := [d1, d2, d3, d4, d5] }
  | _ => none }
def CoverChangesWrongFalsely : Prop := coverChangesRow.holds Try.pinned (OpenSpec.ofChange coverChangesWrong)

/-- 'cambistlaw16.CoverMore': WHATEVER THE INPUT: true; the input reads as it did. -/
def coverMoreSpec : ChangeSpec := { name := "coverMore", fn := fun _ => fun
  | [d1, d2, d3, d4] => { results := [.lit (.bool true)], args := [d1, d2, d3, d4] }
  | _ => none }
def coverMoreRow : OpenClaim := { program := "ytckdbbjeifindaa", sum := "afc006d0f65ec6669f9874f39f374014cfd2e9423acde43f70341e101aadab92", func := "cambist/cambistlaw16.CoverMore", spec := "coverMore", unfollowed := true, recurses := true, named := ["math/bits.divideError", "math/bits.overflowError"], apart := false }
def CoverMoreSaid : Prop := coverMoreRow.holds Try.pinned (OpenSpec.ofChange coverMoreSpec)

/-- ITS FALSE NEIGHBOUR: 'it returns false'. Refute it at one input. -/
def coverMoreWrong : ChangeSpec := { name := "coverMore", fn := fun _ => fun
  | [d1, d2, d3, d4] => { results := [.lit (.bool false)], args := [d1, d2, d3, d4] }
  | _ => none }
def CoverMoreWrongFalsely : Prop := coverMoreRow.holds Try.pinned (OpenSpec.ofChange coverMoreWrong)

/- THE SECOND FORM. 'bulk': how many values and letters a reading holds, each counted each time it is reached (what is shared counts as often as it is met; a slice's spare places count too). A statement '..UptoSaid' is the law's where the arguments, and the package variables that the reading takes, are together of bulk at most 1048576: NARROWER than '..Said'. Prove '..Said' where nothing that the law and all that it calls make is longer than what came in: it says more and counts as full. Else prove '..UptoSaid'. A law counts once. -/
mutual
def uptoBulk {H : Type} : DataW H → Nat
  | .lit (.string bytes) => bytes.length + 1
  | .lit _ => 1
  | .nil => 1
  | .ptr d => uptoBulk d + 1
  | .slice elems spare => uptoBulkAll elems + uptoBulkAll spare + 1
  | .agg parts => uptoBulkAll parts + 1
  | .iface _ d => uptoBulk d + 1
  | .map entries => uptoBulkEntries entries + 1
  | .held _ => 1
def uptoBulkAll {H : Type} : List (DataW H) → Nat
  | [] => 0
  | d :: r => uptoBulk d + uptoBulkAll r
def uptoBulkEntries {H : Type} : List (Lit × DataW H) → Nat
  | [] => 0
  | x :: r => uptoBulkEntry x + uptoBulkEntries r
def uptoBulkEntry {H : Type} : Lit × DataW H → Nat
  | (.string bytes, d) => bytes.length + uptoBulk d + 1
  | (_, d) => uptoBulk d + 1
 end
def uptoSmall : (H : Type) → List (DataW H) → Bool := fun _ ds => decide (uptoBulkAll ds ≤ 1048576)
def OpenSpec.upto (s : _root_.Go.ChangeSpec) : _root_.Go.OpenSpec := { _root_.Go.OpenSpec.ofChange s with cond := some uptoSmall }

/-- 'cambistlaw16.CoverExact', WHERE WHAT IT READS IS OF BULK AT MOST 1048576: true; the input reads as it did. -/
def coverExactUptoRow : OpenClaim := { program := "ytckdbbjeifindaa", sum := "afc006d0f65ec6669f9874f39f374014cfd2e9423acde43f70341e101aadab92", func := "cambist/cambistlaw16.CoverExact", spec := "coverExact", inPlace := ["math/bits.Add64"], unfollowed := true, recurses := true, named := ["math/bits.divideError", "math/bits.overflowError"], apart := false, narrowed := true }
def CoverExactUptoSaid : Prop := coverExactUptoRow.holds Try.pinned (OpenSpec.upto coverExactSpec)

/-- 'cambistlaw16.CoverValues', WHERE WHAT IT READS IS OF BULK AT MOST 1048576: true; the input reads as it did. -/
def coverValuesUptoRow : OpenClaim := { program := "ytckdbbjeifindaa", sum := "afc006d0f65ec6669f9874f39f374014cfd2e9423acde43f70341e101aadab92", func := "cambist/cambistlaw16.CoverValues", spec := "coverValues", unfollowed := true, recurses := true, named := ["math/bits.divideError", "math/bits.overflowError"], apart := false, narrowed := true }
def CoverValuesUptoSaid : Prop := coverValuesUptoRow.holds Try.pinned (OpenSpec.upto coverValuesSpec)

/-- 'cambistlaw16.CoverChanges', WHERE WHAT IT READS IS OF BULK AT MOST 1048576: true; the input reads as it did. -/
def coverChangesUptoRow : OpenClaim := { program := "ytckdbbjeifindaa", sum := "afc006d0f65ec6669f9874f39f374014cfd2e9423acde43f70341e101aadab92", func := "cambist/cambistlaw16.CoverChanges", spec := "coverChanges", unfollowed := true, recurses := true, named := ["math/bits.divideError", "math/bits.overflowError"], apart := false, narrowed := true }
def CoverChangesUptoSaid : Prop := coverChangesUptoRow.holds Try.pinned (OpenSpec.upto coverChangesSpec)

/-- 'cambistlaw16.CoverMore', WHERE WHAT IT READS IS OF BULK AT MOST 1048576: true; the input reads as it did. -/
def coverMoreUptoRow : OpenClaim := { program := "ytckdbbjeifindaa", sum := "afc006d0f65ec6669f9874f39f374014cfd2e9423acde43f70341e101aadab92", func := "cambist/cambistlaw16.CoverMore", spec := "coverMore", unfollowed := true, recurses := true, named := ["math/bits.divideError", "math/bits.overflowError"], apart := false, narrowed := true }
def CoverMoreUptoSaid : Prop := coverMoreUptoRow.holds Try.pinned (OpenSpec.upto coverMoreSpec)

end Rows
end Go.Proofs.Ytckdbbjeifindaa
