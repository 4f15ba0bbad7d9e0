/-
  No cell of these rows narrows 'for every input' (looked for: loops, veiled, ifaces, maps, wideKeys, modest, calm, conditions, laid).
  DERIVED. THE GIVEN ROWS OF THIS SEAT. 5 by the template 'for every input the law returns true; each argument reads behind the call as it read before'; 0 by the template 'total and deterministic' (their statements: YtahioajpmlochaaTotals.lean).
  GIVEN WITH THE SEED: the statements are not yours to turn. If you find one false, say at which input.
  Laid BY PROGRAM, IN A SANDBOX (cutbox-rows.mjs): the forced cells as the released guide's own fill.sh prints them over the translation d6d79cbd7ba76410… (all of the seat's roots in one cut). By AI agents, Wed Nov 11 2026. No macro, syntax, notation, axiom, sorry.
-/
import Derived.Test.YtahioajpmlochaaChecked
import GoSem.Claim
import GoSem.ClaimJoined
import GoSem.ClaimMapViews
import Derived.JoinedTies
import Derived.KernelRfl
namespace Go.Proofs.Ytahioajpmlochaa
/- THE CELL 'sum', in the pinned program and in every row, IS THE sha256 OF THE DUMP (.gsa) THAT YtahioajpmlochaaProg.lean LOADS. Nothing in Lean hashes anything: it is a label: what it is worth is what the hold of that sum in a sandbox is worth. -/
noncomputable def Try.pinned : Pinned := { name := "ytahioajpmlochaa", sum := "d6d79cbd7ba76410325f8aec70c76d6bbf55d69a5f60c2f9bbf3e81db5743c06", checked := Try.checked }
namespace Rows
def none {H : Type} : Left H := { results := [], args := [] }

/-- 'cambistlaw19.AuctionExact': WHATEVER THE INPUT: true; the input reads as it did. -/
def auctionExactSpec : ChangeSpec := { name := "auctionExact", fn := fun _ => fun
  | [d1, d2, d3, d4, d5] => { results := [.lit (.bool true)], args := [d1, d2, d3, d4, d5] }
  | _ => none }
def auctionExactRow : OpenClaim := { program := "ytahioajpmlochaa", sum := "d6d79cbd7ba76410325f8aec70c76d6bbf55d69a5f60c2f9bbf3e81db5743c06", func := "cambist/cambistlaw19.AuctionExact", spec := "auctionExact", inPlace := ["math/bits.Add64"], unfollowed := true, recurses := true, apart := false }
def AuctionExactSaid : Prop := auctionExactRow.holds Try.pinned (OpenSpec.ofChange auctionExactSpec)

/-- ITS FALSE NEIGHBOUR: 'it returns false'. Refute it at one input. -/
def auctionExactWrong : ChangeSpec := { name := "auctionExact", fn := fun _ => fun
  | [d1, d2, d3, d4, d5] => { results := [.lit (.bool false)], args := [d1, d2, d3, d4, d5] }
  | _ => none }
def AuctionExactWrongFalsely : Prop := auctionExactRow.holds Try.pinned (OpenSpec.ofChange auctionExactWrong)

/-- 'cambistlaw19.AuctionFair': WHATEVER THE INPUT: true; the input reads as it did. -/
def auctionFairSpec : ChangeSpec := { name := "auctionFair", fn := fun _ => fun
  | [d1, d2] => { results := [.lit (.bool true)], args := [d1, d2] }
  | _ => none }
def auctionFairRow : OpenClaim := { program := "ytahioajpmlochaa", sum := "d6d79cbd7ba76410325f8aec70c76d6bbf55d69a5f60c2f9bbf3e81db5743c06", func := "cambist/cambistlaw19.AuctionFair", spec := "auctionFair", unfollowed := true, recurses := true, apart := false }
def AuctionFairSaid : Prop := auctionFairRow.holds Try.pinned (OpenSpec.ofChange auctionFairSpec)

/-- ITS FALSE NEIGHBOUR: 'it returns false'. Refute it at one input. -/
def auctionFairWrong : ChangeSpec := { name := "auctionFair", fn := fun _ => fun
  | [d1, d2] => { results := [.lit (.bool false)], args := [d1, d2] }
  | _ => none }
def AuctionFairWrongFalsely : Prop := auctionFairRow.holds Try.pinned (OpenSpec.ofChange auctionFairWrong)

/-- 'cambistlaw19.AuctionLegs': WHATEVER THE INPUT: true; the input reads as it did. -/
def auctionLegsSpec : ChangeSpec := { name := "auctionLegs", fn := fun _ => fun
  | [d1, d2, d3] => { results := [.lit (.bool true)], args := [d1, d2, d3] }
  | _ => none }
def auctionLegsRow : OpenClaim := { program := "ytahioajpmlochaa", sum := "d6d79cbd7ba76410325f8aec70c76d6bbf55d69a5f60c2f9bbf3e81db5743c06", func := "cambist/cambistlaw19.AuctionLegs", spec := "auctionLegs", unfollowed := true, recurses := true, apart := false }
def AuctionLegsSaid : Prop := auctionLegsRow.holds Try.pinned (OpenSpec.ofChange auctionLegsSpec)

/-- ITS FALSE NEIGHBOUR: 'it returns false'. Refute it at one input. -/
def auctionLegsWrong : ChangeSpec := { name := "auctionLegs", fn := fun _ => fun
  | [d1, d2, d3] => { results := [.lit (.bool false)], args := [d1, d2, d3] }
  | _ => none }
def AuctionLegsWrongFalsely : Prop := auctionLegsRow.holds Try.pinned (OpenSpec.ofChange auctionLegsWrong)

/-- 'cambistlaw19.AuctionOrders': WHATEVER THE INPUT: true; the input reads as it did. -/
def auctionOrdersSpec : ChangeSpec := { name := "auctionOrders", fn := fun _ => fun
  | [d1, d2] => { results := [.lit (.bool true)], args := [d1, d2] }
  | _ => none }
def auctionOrdersRow : OpenClaim := { program := "ytahioajpmlochaa", sum := "d6d79cbd7ba76410325f8aec70c76d6bbf55d69a5f60c2f9bbf3e81db5743c06", func := "cambist/cambistlaw19.AuctionOrders", spec := "auctionOrders", unfollowed := true, recurses := true, apart := false }
def AuctionOrdersSaid : Prop := auctionOrdersRow.holds Try.pinned (OpenSpec.ofChange auctionOrdersSpec)

/-- ITS FALSE NEIGHBOUR: 'it returns false'. Refute it at one input. -/
def auctionOrdersWrong : ChangeSpec := { name := "auctionOrders", fn := fun _ => fun
  | [d1, d2] => { results := [.lit (.bool false)], args := [d1, d2] }
  | _ => none }
def AuctionOrdersWrongFalsely : Prop := auctionOrdersRow.holds Try.pinned (OpenSpec.ofChange auctionOrdersWrong)

/-- 'cambistlaw19.AuctionMore': WHATEVER THE INPUT: true; the input reads as it did. -/
def auctionMoreSpec : ChangeSpec := { name := "auctionMore", fn := fun _ => fun
  | [d1, d2, d3] => { results := [.lit (.bool true)], args := [d1, d2, d3] }
  | _ => none }
def auctionMoreRow : OpenClaim := { program := "ytahioajpmlochaa", sum := "d6d79cbd7ba76410325f8aec70c76d6bbf55d69a5f60c2f9bbf3e81db5743c06", func := "cambist/cambistlaw19.AuctionMore", spec := "auctionMore", unfollowed := true, recurses := true, apart := false }
def AuctionMoreSaid : Prop := auctionMoreRow.holds Try.pinned (OpenSpec.ofChange auctionMoreSpec)

/-- ITS FALSE NEIGHBOUR: 'it returns false'. Refute it at one input. -/
def auctionMoreWrong : ChangeSpec := { name := "auctionMore", fn := fun _ => fun
  | [d1, d2, d3] => { results := [.lit (.bool false)], args := [d1, d2, d3] }
  | _ => none }
def AuctionMoreWrongFalsely : Prop := auctionMoreRow.holds Try.pinned (OpenSpec.ofChange auctionMoreWrong)

/- THE SECOND FORM. 'bulk': how many values and letters a reading holds, each counted each time it is reached (what is shared counts as often as it is met; a slice's spare places count too). A statement '..UptoSaid' is the law's where the arguments, and the package variables that the reading takes, are together of bulk at most 1048576: NARROWER than '..Said'. Prove '..Said' where nothing that the law and all that it calls make is longer than what came in: it says more and counts as full. Else prove '..UptoSaid'. A law counts once. -/
mutual
def uptoBulk {H : Type} : DataW H → Nat
  | .lit (.string bytes) => bytes.length + 1
  | .lit _ => 1
  | .nil => 1
  | .ptr d => uptoBulk d + 1
  | .slice elems spare => uptoBulkAll elems + uptoBulkAll spare + 1
  | .agg parts => uptoBulkAll parts + 1
  | .iface _ d => uptoBulk d + 1
  | .map entries => uptoBulkEntries entries + 1
  | .held _ => 1
def uptoBulkAll {H : Type} : List (DataW H) → Nat
  | [] => 0
  | d :: r => uptoBulk d + uptoBulkAll r
def uptoBulkEntries {H : Type} : List (Lit × DataW H) → Nat
  | [] => 0
  | x :: r => uptoBulkEntry x + uptoBulkEntries r
def uptoBulkEntry {H : Type} : Lit × DataW H → Nat
  | (.string bytes, d) => bytes.length + uptoBulk d + 1
  | (_, d) => uptoBulk d + 1
 end
def uptoSmall : (H : Type) → List (DataW H) → Bool := fun _ ds => decide (uptoBulkAll ds ≤ 1048576)
def OpenSpec.upto (s : _root_.Go.ChangeSpec) : _root_.Go.OpenSpec := { _root_.Go.OpenSpec.ofChange s with cond := some uptoSmall }

/-- 'cambistlaw19.AuctionExact', WHERE WHAT IT READS IS OF BULK AT MOST 1048576: true; the input reads as it did. -/
def auctionExactUptoRow : OpenClaim := { program := "ytahioajpmlochaa", sum := "d6d79cbd7ba76410325f8aec70c76d6bbf55d69a5f60c2f9bbf3e81db5743c06", func := "cambist/cambistlaw19.AuctionExact", spec := "auctionExact", inPlace := ["math/bits.Add64"], unfollowed := true, recurses := true, apart := false, narrowed := true }
def AuctionExactUptoSaid : Prop := auctionExactUptoRow.holds Try.pinned (OpenSpec.upto auctionExactSpec)

/-- 'cambistlaw19.AuctionFair', WHERE WHAT IT READS IS OF BULK AT MOST 1048576: true; the input reads as it did. -/
def auctionFairUptoRow : OpenClaim := { program := "ytahioajpmlochaa", sum := "d6d79cbd7ba76410325f8aec70c76d6bbf55d69a5f60c2f9bbf3e81db5743c06", func := "cambist/cambistlaw19.AuctionFair", spec := "auctionFair", unfollowed := true, recurses := true, apart := false, narrowed := true }
def AuctionFairUptoSaid : Prop := auctionFairUptoRow.holds Try.pinned (OpenSpec.upto auctionFairSpec)

/-- 'cambistlaw19.AuctionLegs', WHERE WHAT IT READS IS OF BULK AT MOST 1048576: true; the input reads as it did. -/
def auctionLegsUptoRow : OpenClaim := { program := "ytahioajpmlochaa", sum := "d6d79cbd7ba76410325f8aec70c76d6bbf55d69a5f60c2f9bbf3e81db5743c06", func := "cambist/cambistlaw19.AuctionLegs", spec := "auctionLegs", unfollowed := true, recurses := true, apart := false, narrowed := true }
def AuctionLegsUptoSaid : Prop := auctionLegsUptoRow.holds Try.pinned (OpenSpec.upto auctionLegsSpec)

/-- 'cambistlaw19.AuctionOrders', WHERE WHAT IT READS IS OF BULK AT MOST 1048576: true; the input reads as it did. -/
def auctionOrdersUptoRow : OpenClaim := { program := "ytahioajpmlochaa", sum := "d6d79cbd7ba76410325f8aec70c76d6bbf55d69a5f60c2f9bbf3e81db5743c06", func := "cambist/cambistlaw19.AuctionOrders", spec := "auctionOrders", unfollowed := true, recurses := true, apart := false, narrowed := true }
def AuctionOrdersUptoSaid : Prop := auctionOrdersUptoRow.holds Try.pinned (OpenSpec.upto auctionOrdersSpec)

/-- 'cambistlaw19.AuctionMore', WHERE WHAT IT READS IS OF BULK AT MOST 1048576: true; the input reads as it did. -/
def auctionMoreUptoRow : OpenClaim := { program := "ytahioajpmlochaa", sum := "d6d79cbd7ba76410325f8aec70c76d6bbf55d69a5f60c2f9bbf3e81db5743c06", func := "cambist/cambistlaw19.AuctionMore", spec := "auctionMore", unfollowed := true, recurses := true, apart := false, narrowed := true }
def AuctionMoreUptoSaid : Prop := auctionMoreUptoRow.holds Try.pinned (OpenSpec.upto auctionMoreSpec)

end Rows
end Go.Proofs.Ytahioajpmlochaa
