/-
  No cell of these rows narrows 'for every input' (looked for: loops, veiled, ifaces, maps, wideKeys, modest, calm, conditions, laid).
  DERIVED. THE GIVEN ROWS OF THIS SEAT. 5 by the template 'for every input the law returns true; each argument reads behind the call as it read before'; 0 by the template 'total and deterministic' (their statements: YtlmnbafklefmcaaTotals.lean).
  GIVEN WITH THE SEED: the statements are not yours to turn. If you find one false, say at which input.
  Laid BY PROGRAM, IN A SANDBOX (cutbox-rows.mjs): the forced cells as the released guide's own fill.sh prints them over the translation 9659150c55064805… (all of the seat's roots in one cut). By AI agents, Wed Nov 11 2026. No macro, syntax, notation, axiom, sorry.
-/
import Derived.Test.YtlmnbafklefmcaaChecked
import GoSem.Claim
import GoSem.ClaimJoined
import GoSem.ClaimMapViews
import Derived.JoinedTies
import Derived.KernelRfl
namespace Go.Proofs.Ytlmnbafklefmcaa
/- THE CELL 'sum', in the pinned program and in every row, IS THE sha256 OF THE DUMP (.gsa) THAT YtlmnbafklefmcaaProg.lean LOADS. Nothing in Lean hashes anything: it is a label: what it is worth is what the hold of that sum in a sandbox is worth. -/
noncomputable def Try.pinned : Pinned := { name := "ytlmnbafklefmcaa", sum := "9659150c55064805d1defcf885c24bb568f2157437cc3cafd06cefd555dcba7a", checked := Try.checked }
namespace Rows
def none {H : Type} : Left H := { results := [], args := [] }

/-- 'cambistlaw17.NetExact': WHATEVER THE INPUT: true; the input reads as it did. -/
def netExactSpec : ChangeSpec := { name := "netExact", fn := fun _ => fun
  | [d1, d2, d3] => { results := [.lit (.bool true)], args := [d1, d2, d3] }
  | _ => none }
def netExactRow : OpenClaim := { program := "ytlmnbafklefmcaa", sum := "9659150c55064805d1defcf885c24bb568f2157437cc3cafd06cefd555dcba7a", func := "cambist/cambistlaw17.NetExact", spec := "netExact", inPlace := ["math/bits.Add64"], unfollowed := true, recurses := true, plainKeys := false, apart := false }
def NetExactSaid : Prop := netExactRow.holds Try.pinned (OpenSpec.ofChange netExactSpec)

/-- ITS FALSE NEIGHBOUR: 'it returns false'. Refute it at one input. -/
def netExactWrong : ChangeSpec := { name := "netExact", fn := fun _ => fun
  | [d1, d2, d3] => { results := [.lit (.bool false)], args := [d1, d2, d3] }
  | _ => none }
def NetExactWrongFalsely : Prop := netExactRow.holds Try.pinned (OpenSpec.ofChange netExactWrong)

/-- 'cambistlaw17.NetSums': WHATEVER THE INPUT: true; the input reads as it did. -/
def netSumsSpec : ChangeSpec := { name := "netSums", fn := fun _ => fun
  | [d] => { results := [.lit (.bool true)], args := [d] }
  | _ => none }
def netSumsRow : OpenClaim := { program := "ytlmnbafklefmcaa", sum := "9659150c55064805d1defcf885c24bb568f2157437cc3cafd06cefd555dcba7a", func := "cambist/cambistlaw17.NetSums", spec := "netSums", unfollowed := true, recurses := true, plainKeys := false, apart := false }
def NetSumsSaid : Prop := netSumsRow.holds Try.pinned (OpenSpec.ofChange netSumsSpec)

/-- ITS FALSE NEIGHBOUR: 'it returns false'. Refute it at one input. -/
def netSumsWrong : ChangeSpec := { name := "netSums", fn := fun _ => fun
  | [d] => { results := [.lit (.bool false)], args := [d] }
  | _ => none }
def NetSumsWrongFalsely : Prop := netSumsRow.holds Try.pinned (OpenSpec.ofChange netSumsWrong)

/-- 'cambistlaw17.NetParts': WHATEVER THE INPUT: true; the input reads as it did. -/
def netPartsSpec : ChangeSpec := { name := "netParts", fn := fun _ => fun
  | [d1, d2] => { results := [.lit (.bool true)], args := [d1, d2] }
  | _ => none }
def netPartsRow : OpenClaim := { program := "ytlmnbafklefmcaa", sum := "9659150c55064805d1defcf885c24bb568f2157437cc3cafd06cefd555dcba7a", func := "cambist/cambistlaw17.NetParts", spec := "netParts", unfollowed := true, recurses := true, plainKeys := false, apart := false }
def NetPartsSaid : Prop := netPartsRow.holds Try.pinned (OpenSpec.ofChange netPartsSpec)

/-- ITS FALSE NEIGHBOUR: 'it returns false'. Refute it at one input. -/
def netPartsWrong : ChangeSpec := { name := "netParts", fn := fun _ => fun
  | [d1, d2] => { results := [.lit (.bool false)], args := [d1, d2] }
  | _ => none }
def NetPartsWrongFalsely : Prop := netPartsRow.holds Try.pinned (OpenSpec.ofChange netPartsWrong)

/-- 'cambistlaw17.NetPays': WHATEVER THE INPUT: true; the input reads as it did. -/
def netPaysSpec : ChangeSpec := { name := "netPays", fn := fun _ => fun
  | [d] => { results := [.lit (.bool true)], args := [d] }
  | _ => none }
def netPaysRow : OpenClaim := { program := "ytlmnbafklefmcaa", sum := "9659150c55064805d1defcf885c24bb568f2157437cc3cafd06cefd555dcba7a", func := "cambist/cambistlaw17.NetPays", spec := "netPays", inPlace := ["math/bits.Add64"], unfollowed := true, recurses := true, plainKeys := false, apart := false }
def NetPaysSaid : Prop := netPaysRow.holds Try.pinned (OpenSpec.ofChange netPaysSpec)

/-- ITS FALSE NEIGHBOUR: 'it returns false'. Refute it at one input. -/
def netPaysWrong : ChangeSpec := { name := "netPays", fn := fun _ => fun
  | [d] => { results := [.lit (.bool false)], args := [d] }
  | _ => none }
def NetPaysWrongFalsely : Prop := netPaysRow.holds Try.pinned (OpenSpec.ofChange netPaysWrong)

/-- 'cambistlaw17.NetZero': WHATEVER THE INPUT: true; the input reads as it did. -/
def netZeroSpec : ChangeSpec := { name := "netZero", fn := fun _ => fun
  | [d1, d2] => { results := [.lit (.bool true)], args := [d1, d2] }
  | _ => none }
def netZeroRow : OpenClaim := { program := "ytlmnbafklefmcaa", sum := "9659150c55064805d1defcf885c24bb568f2157437cc3cafd06cefd555dcba7a", func := "cambist/cambistlaw17.NetZero", spec := "netZero", unfollowed := true, recurses := true, plainKeys := false, apart := false }
def NetZeroSaid : Prop := netZeroRow.holds Try.pinned (OpenSpec.ofChange netZeroSpec)

/-- ITS FALSE NEIGHBOUR: 'it returns false'. Refute it at one input. -/
def netZeroWrong : ChangeSpec := { name := "netZero", fn := fun _ => fun
  | [d1, d2] => { results := [.lit (.bool false)], args := [d1, d2] }
  | _ => none }
def NetZeroWrongFalsely : Prop := netZeroRow.holds Try.pinned (OpenSpec.ofChange netZeroWrong)

/- THE SECOND FORM. 'bulk': how many values and letters a reading holds, each counted each time it is reached (what is shared counts as often as it is met; a slice's spare places count too). A statement '..UptoSaid' is the law's where the arguments, and the package variables that the reading takes, are together of bulk at most 1048576: NARROWER than '..Said'. Prove '..Said' where nothing that the law and all that it calls make is longer than what came in: it says more and counts as full. Else prove '..UptoSaid'. A law counts once. -/
mutual
def uptoBulk {H : Type} : DataW H → Nat
  | .lit (.string bytes) => bytes.length + 1
  | .lit _ => 1
  | .nil => 1
  | .ptr d => uptoBulk d + 1
  | .slice elems spare => uptoBulkAll elems + uptoBulkAll spare + 1
  | .agg parts => uptoBulkAll parts + 1
  | .iface _ d => uptoBulk d + 1
  | .map entries => uptoBulkEntries entries + 1
  | .held _ => 1
def uptoBulkAll {H : Type} : List (DataW H) → Nat
  | [] => 0
  | d :: r => uptoBulk d + uptoBulkAll r
def uptoBulkEntries {H : Type} : List (Lit × DataW H) → Nat
  | [] => 0
  | x :: r => uptoBulkEntry x + uptoBulkEntries r
def uptoBulkEntry {H : Type} : Lit × DataW H → Nat
  | (.string bytes, d) => bytes.length + uptoBulk d + 1
  | (_, d) => uptoBulk d + 1
 end
def uptoSmall : (H : Type) → List (DataW H) → Bool := fun _ ds => decide (uptoBulkAll ds ≤ 1048576)
def OpenSpec.upto (s : _root_.Go.ChangeSpec) : _root_.Go.OpenSpec := { _root_.Go.OpenSpec.ofChange s with cond := some uptoSmall }

/-- 'cambistlaw17.NetExact', WHERE WHAT IT READS IS OF BULK AT MOST 1048576: true; the input reads as it did. -/
def netExactUptoRow : OpenClaim := { program := "ytlmnbafklefmcaa", sum := "9659150c55064805d1defcf885c24bb568f2157437cc3cafd06cefd555dcba7a", func := "cambist/cambistlaw17.NetExact", spec := "netExact", inPlace := ["math/bits.Add64"], unfollowed := true, recurses := true, plainKeys := false, apart := false, narrowed := true }
def NetExactUptoSaid : Prop := netExactUptoRow.holds Try.pinned (OpenSpec.upto netExactSpec)

/-- 'cambistlaw17.NetSums', WHERE WHAT IT READS IS OF BULK AT MOST 1048576: true; the input reads as it did. -/
def netSumsUptoRow : OpenClaim := { program := "ytlmnbafklefmcaa", sum := "9659150c55064805d1defcf885c24bb568f2157437cc3cafd06cefd555dcba7a", func := "cambist/cambistlaw17.NetSums", spec := "netSums", unfollowed := true, recurses := true, plainKeys := false, apart := false, narrowed := true }
def NetSumsUptoSaid : Prop := netSumsUptoRow.holds Try.pinned (OpenSpec.upto netSumsSpec)

/-- 'cambistlaw17.NetParts', WHERE WHAT IT READS IS OF BULK AT MOST 1048576: true; the input reads as it did. -/
def netPartsUptoRow : OpenClaim := { program := "ytlmnbafklefmcaa", sum := "9659150c55064805d1defcf885c24bb568f2157437cc3cafd06cefd555dcba7a", func := "cambist/cambistlaw17.NetParts", spec := "netParts", unfollowed := true, recurses := true, plainKeys := false, apart := false, narrowed := true }
def NetPartsUptoSaid : Prop := netPartsUptoRow.holds Try.pinned (OpenSpec.upto netPartsSpec)

/-- 'cambistlaw17.NetPays', WHERE WHAT IT READS IS OF BULK AT MOST 1048576: true; the input reads as it did. -/
def netPaysUptoRow : OpenClaim := { program := "ytlmnbafklefmcaa", sum := "9659150c55064805d1defcf885c24bb568f2157437cc3cafd06cefd555dcba7a", func := "cambist/cambistlaw17.NetPays", spec := "netPays", inPlace := ["math/bits.Add64"], unfollowed := true, recurses := true, plainKeys := false, apart := false, narrowed := true }
def NetPaysUptoSaid : Prop := netPaysUptoRow.holds Try.pinned (OpenSpec.upto netPaysSpec)

/-- 'cambistlaw17.NetZero', WHERE WHAT IT READS IS OF BULK AT MOST 1048576: true; the input reads as it did. -/
def netZeroUptoRow : OpenClaim := { program := "ytlmnbafklefmcaa", sum := "9659150c55064805d1defcf885c24bb568f2157437cc3cafd06cefd555dcba7a", func := "cambist/cambistlaw17.NetZero", spec := "netZero", unfollowed := true, recurses := true, plainKeys := false, apart := false, narrowed := true }
def NetZeroUptoSaid : Prop := netZeroUptoRow.holds Try.pinned (OpenSpec.upto netZeroSpec)

end Rows
end Go.Proofs.Ytlmnbafklefmcaa
