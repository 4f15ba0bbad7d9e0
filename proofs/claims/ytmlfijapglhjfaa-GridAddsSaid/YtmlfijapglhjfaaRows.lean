/-
  No cell of these rows narrows 'for every input' (looked for: loops, veiled, ifaces, maps, wideKeys, modest, calm, conditions, laid).
  DERIVED. THE GIVEN ROWS OF THIS SEAT. 5 by the template 'for every input the law returns true; each argument reads behind the call as it read before'; 0 by the template 'total and deterministic' (their statements: YtmlfijapglhjfaaTotals.lean).
  GIVEN WITH THE SEED: the statements are not yours to turn. If you find one false, say at which input.
  Laid BY PROGRAM, IN A SANDBOX (cutbox-rows.mjs): the forced cells as the released guide's own fill.sh prints them over the translation e5d6c19ed1a1210c… (all of the seat's roots in one cut). By AI agents, Wed Nov 11 2026. No macro, syntax, notation, axiom, sorry.
-/
import Derived.Test.YtmlfijapglhjfaaChecked
import GoSem.Claim
import GoSem.ClaimJoined
import GoSem.ClaimMapViews
import Derived.JoinedTies
import Derived.KernelRfl
namespace Go.Proofs.Ytmlfijapglhjfaa
/- THE CELL 'sum', in the pinned program and in every row, IS THE sha256 OF THE DUMP (.gsa) THAT YtmlfijapglhjfaaProg.lean LOADS. Nothing in Lean hashes anything: it is a label: what it is worth is what the hold of that sum in a sandbox is worth. -/
noncomputable def Try.pinned : Pinned := { name := "ytmlfijapglhjfaa", sum := "e5d6c19ed1a1210c20f9bc348697f10ccff47ab21b2125be68c95e1453047dd8", checked := Try.checked }
namespace Rows
def none {H : Type} : Left H := { results := [], args := [] }

/-- 'cambistlaw15.GridExact': WHATEVER THE INPUT: true; the input reads as it did. -/
def gridExactSpec : ChangeSpec := { name := "gridExact", fn := fun _ => fun
  | [d1, d2, d3, d4] => { results := [.lit (.bool true)], args := [d1, d2, d3, d4] }
  | _ => none }
def gridExactRow : OpenClaim := { program := "ytmlfijapglhjfaa", sum := "e5d6c19ed1a1210c20f9bc348697f10ccff47ab21b2125be68c95e1453047dd8", func := "cambist/cambistlaw15.GridExact", spec := "gridExact", inPlace := ["math/bits.Add64"], unfollowed := true, recurses := true, apart := false }
def GridExactSaid : Prop := gridExactRow.holds Try.pinned (OpenSpec.ofChange gridExactSpec)

/-- ITS FALSE NEIGHBOUR: 'it returns false'. Refute it at one input. -/
def gridExactWrong : ChangeSpec := { name := "gridExact", fn := fun _ => fun
  | [d1, d2, d3, d4] => { results := [.lit (.bool false)], args := [d1, d2, d3, d4] }
  | _ => none }
def GridExactWrongFalsely : Prop := gridExactRow.holds Try.pinned (OpenSpec.ofChange gridExactWrong)

/-- 'cambistlaw15.GridCovers': WHATEVER THE INPUT: true; the input reads as it did. -/
def gridCoversSpec : ChangeSpec := { name := "gridCovers", fn := fun _ => fun
  | [d1, d2, d3, d4] => { results := [.lit (.bool true)], args := [d1, d2, d3, d4] }
  | _ => none }
def gridCoversRow : OpenClaim := { program := "ytmlfijapglhjfaa", sum := "e5d6c19ed1a1210c20f9bc348697f10ccff47ab21b2125be68c95e1453047dd8", func := "cambist/cambistlaw15.GridCovers", spec := "gridCovers", inPlace := ["math/bits.Add64"], unfollowed := true, recurses := true, apart := false }
def GridCoversSaid : Prop := gridCoversRow.holds Try.pinned (OpenSpec.ofChange gridCoversSpec)

/-- ITS FALSE NEIGHBOUR: 'it returns false'. Refute it at one input. -/
def gridCoversWrong : ChangeSpec := { name := "gridCovers", fn := fun _ => fun
  | [d1, d2, d3, d4] => { results := [.lit (.bool false)], args := [d1, d2, d3, d4] }
  | _ => none }
def GridCoversWrongFalsely : Prop := gridCoversRow.holds Try.pinned (OpenSpec.ofChange gridCoversWrong)

/-- 'cambistlaw15.GridJoins': WHATEVER THE INPUT: true; the input reads as it did. -/
def gridJoinsSpec : ChangeSpec := { name := "gridJoins", fn := fun _ => fun
  | [d1, d2, d3, d4, d5] => { results := [.lit (.bool true)], args := [d1, d2, d3, d4, d5] }
  | _ => none }
def gridJoinsRow : OpenClaim := { program := "ytmlfijapglhjfaa", sum := "e5d6c19ed1a1210c20f9bc348697f10ccff47ab21b2125be68c95e1453047dd8", func := "cambist/cambistlaw15.GridJoins", spec := "gridJoins", inPlace := ["math/bits.Add64"], unfollowed := true, recurses := true, apart := false }
def GridJoinsSaid : Prop := gridJoinsRow.holds Try.pinned (OpenSpec.ofChange gridJoinsSpec)

/-- ITS FALSE NEIGHBOUR: 'it returns false'. Refute it at one input. -/
def gridJoinsWrong : ChangeSpec := { name := "gridJoins", fn := fun _ => fun
  | [d1, d2, d3, d4, d5] => { results := [.lit (.bool false)], args := [d1, d2, d3, d4, d5] }
  | _ => none }
def GridJoinsWrongFalsely : Prop := gridJoinsRow.holds Try.pinned (OpenSpec.ofChange gridJoinsWrong)

/-- 'cambistlaw15.GridOthers': WHATEVER THE INPUT: true; the input reads as it did. -/
def gridOthersSpec : ChangeSpec := { name := "gridOthers", fn := fun _ => fun
  | [d1, d2, d3, d4] => { results := [.lit (.bool true)], args := [d1, d2, d3, d4] }
  | _ => none }
def gridOthersRow : OpenClaim := { program := "ytmlfijapglhjfaa", sum := "e5d6c19ed1a1210c20f9bc348697f10ccff47ab21b2125be68c95e1453047dd8", func := "cambist/cambistlaw15.GridOthers", spec := "gridOthers", inPlace := ["math/bits.Add64"], unfollowed := true, recurses := true, apart := false }
def GridOthersSaid : Prop := gridOthersRow.holds Try.pinned (OpenSpec.ofChange gridOthersSpec)

/-- ITS FALSE NEIGHBOUR: 'it returns false'. Refute it at one input. -/
def gridOthersWrong : ChangeSpec := { name := "gridOthers", fn := fun _ => fun
  | [d1, d2, d3, d4] => { results := [.lit (.bool false)], args := [d1, d2, d3, d4] }
  | _ => none }
def GridOthersWrongFalsely : Prop := gridOthersRow.holds Try.pinned (OpenSpec.ofChange gridOthersWrong)

/-- 'cambistlaw15.GridAdds': WHATEVER THE INPUT: true; the input reads as it did. -/
def gridAddsSpec : ChangeSpec := { name := "gridAdds", fn := fun _ => fun
  | [d1, d2, d3] => { results := [.lit (.bool true)], args := [d1, d2, d3] }
  | _ => none }
def gridAddsRow : OpenClaim := { program := "ytmlfijapglhjfaa", sum := "e5d6c19ed1a1210c20f9bc348697f10ccff47ab21b2125be68c95e1453047dd8", func := "cambist/cambistlaw15.GridAdds", spec := "gridAdds", inPlace := ["math/bits.Add64"], unfollowed := true, recurses := true, apart := false }
def GridAddsSaid : Prop := gridAddsRow.holds Try.pinned (OpenSpec.ofChange gridAddsSpec)

/-- ITS FALSE NEIGHBOUR: 'it returns false'. Refute it at one input. -/
def gridAddsWrong : ChangeSpec := { name := "gridAdds", fn := fun _ => fun
  | [d1, d2, d3] => { results := [.lit (.bool false)], args := [d1, d2, d3] }
  | _ => none }
def GridAddsWrongFalsely : Prop := gridAddsRow.holds Try.pinned (OpenSpec.ofChange gridAddsWrong)

/- THE SECOND FORM. 'bulk': how many values and letters a reading holds, each counted each time it is reached (what is shared counts as often as it is met; a slice's spare places count too). A statement '..UptoSaid' is the law's where the arguments, and the package variables that the reading takes, are together of bulk at most 1048576: NARROWER than '..Said'. Prove '..Said' where nothing that the law and all that it calls make is longer than what came in: it says more and counts as full. Else prove '..UptoSaid'. A law counts once. -/
mutual
def uptoBulk {H : Type} : DataW H → Nat
  | .lit (.string bytes) => bytes.length + 1
  | .lit _ => 1
  | .nil => 1
  | .ptr d => uptoBulk d + 1
  | .slice elems spare => uptoBulkAll elems + uptoBulkAll spare + 1
  | .agg parts => uptoBulkAll parts + 1
  | .iface _ d => uptoBulk d + 1
  | .map entries => uptoBulkEntries entries + 1
  | .held _ => 1
def uptoBulkAll {H : Type} : List (DataW H) → Nat
  | [] => 0
  | d :: r => uptoBulk d + uptoBulkAll r
def uptoBulkEntries {H : Type} : List (Lit × DataW H) → Nat
  | [] => 0
  | x :: r => uptoBulkEntry x + uptoBulkEntries r
def uptoBulkEntry {H : Type} : Lit × DataW H → Nat
  | (.string bytes, d) => bytes.length + uptoBulk d + 1
  | (_, d) => uptoBulk d + 1
 end
def uptoSmall : (H : Type) → List (DataW H) → Bool := fun _ ds => decide (uptoBulkAll ds ≤ 1048576)
def OpenSpec.upto (s : _root_.Go.ChangeSpec) : _root_.Go.OpenSpec := { _root_.Go.OpenSpec.ofChange s with cond := some uptoSmall }

/-- 'cambistlaw15.GridExact', WHERE WHAT IT READS IS OF BULK AT MOST 1048576: true; the input reads as it did. -/
def gridExactUptoRow : OpenClaim := { program := "ytmlfijapglhjfaa", sum := "e5d6c19ed1a1210c20f9bc348697f10ccff47ab21b2125be68c95e1453047dd8", func := "cambist/cambistlaw15.GridExact", spec := "gridExact", inPlace := ["math/bits.Add64"], unfollowed := true, recurses := true, apart := false, narrowed := true }
def GridExactUptoSaid : Prop := gridExactUptoRow.holds Try.pinned (OpenSpec.upto gridExactSpec)

/-- 'cambistlaw15.GridCovers', WHERE WHAT IT READS IS OF BULK AT MOST 1048576: true; the input reads as it did. -/
def gridCoversUptoRow : OpenClaim := { program := "ytmlfijapglhjfaa", sum := "e5d6c19ed1a1210c20f9bc348697f10ccff47ab21b2125be68c95e1453047dd8", func := "cambist/cambistlaw15.GridCovers", spec := "gridCovers", inPlace := ["math/bits.Add64"], unfollowed := true, recurses := true, apart := false, narrowed := true }
def GridCoversUptoSaid : Prop := gridCoversUptoRow.holds Try.pinned (OpenSpec.upto gridCoversSpec)

/-- 'cambistlaw15.GridJoins', WHERE WHAT IT READS IS OF BULK AT MOST 1048576: true; the input reads as it did. -/
def gridJoinsUptoRow : OpenClaim := { program := "ytmlfijapglhjfaa", sum := "e5d6c19ed1a1210c20f9bc348697f10ccff47ab21b2125be68c95e1453047dd8", func := "cambist/cambistlaw15.GridJoins", spec := "gridJoins", inPlace := ["math/bits.Add64"], unfollowed := true, recurses := true, apart := false, narrowed := true }
def GridJoinsUptoSaid : Prop := gridJoinsUptoRow.holds Try.pinned (OpenSpec.upto gridJoinsSpec)

/-- 'cambistlaw15.GridOthers', WHERE WHAT IT READS IS OF BULK AT MOST 1048576: true; the input reads as it did. -/
def gridOthersUptoRow : OpenClaim := { program := "ytmlfijapglhjfaa", sum := "e5d6c19ed1a1210c20f9bc348697f10ccff47ab21b2125be68c95e1453047dd8", func := "cambist/cambistlaw15.GridOthers", spec := "gridOthers", inPlace := ["math/bits.Add64"], unfollowed := true, recurses := true, apart := false, narrowed := true }
def GridOthersUptoSaid : Prop := gridOthersUptoRow.holds Try.pinned (OpenSpec.upto gridOthersSpec)

/-- 'cambistlaw15.GridAdds', WHERE WHAT IT READS IS OF BULK AT MOST 1048576: true; the input reads as it did. -/
def gridAddsUptoRow : OpenClaim := { program := "ytmlfijapglhjfaa", sum := "e5d6c19ed1a1210c20f9bc348697f10ccff47ab21b2125be68c95e1453047dd8", func := "cambist/cambistlaw15.GridAdds", spec := "gridAdds", inPlace := ["math/bits.Add64"], unfollowed := true, recurses := true, apart := false, narrowed := true }
def GridAddsUptoSaid : Prop := gridAddsUptoRow.holds Try.pinned (OpenSpec.upto gridAddsSpec)

end Rows
end Go.Proofs.Ytmlfijapglhjfaa
