/-
  No cell of these rows narrows 'for every input' (looked for: loops, veiled, ifaces, maps, wideKeys, modest, calm, conditions, laid).
  DERIVED. THE GIVEN ROWS OF THIS SEAT. 6 by the template 'for every input the law returns true; each argument reads behind the call as it read before'; 0 by the template 'total and deterministic' (their statements: YtkbmiajgmnfpfaaTotals.lean).
  GIVEN WITH THE SEED: the statements are not yours to turn. If you find one false, say at which input.
  Laid BY PROGRAM, IN A SANDBOX (cutbox-rows.mjs): the forced cells as the released guide's own fill.sh prints them over the translation 1f866b1667afc5e9… (all of the seat's roots in one cut). By AI agents, Wed Nov 11 2026. No macro, syntax, notation, axiom, sorry.
-/
import Derived.Test.YtkbmiajgmnfpfaaChecked
import GoSem.Claim
import GoSem.ClaimJoined
import GoSem.ClaimMapViews
import Derived.JoinedTies
import Derived.KernelRfl
namespace Go.Proofs.Ytkbmiajgmnfpfaa
/- THE CELL 'sum', in the pinned program and in every row, IS THE sha256 OF THE DUMP (.gsa) THAT YtkbmiajgmnfpfaaProg.lean LOADS. Nothing in Lean hashes anything: it is a label: what it is worth is what the hold of that sum in a sandbox is worth. -/
noncomputable def Try.pinned : Pinned := { name := "ytkbmiajgmnfpfaa", sum := "1f866b1667afc5e96c91aff3bb2df3bd4de56fdb33ff16dc2eee6724f2d7e316", checked := Try.checked }
namespace Rows
def none {H : Type} : Left H := { results := [], args := [] }

/-- 'cambistlaw13.BookExact': WHATEVER THE INPUT: true; the input reads as it did. -/
def bookExactSpec : ChangeSpec := { name := "bookExact", fn := fun _ => fun
  | [d1, d2, d3] => { results := [.lit (.bool true)], args := [d1, d2, d3] }
  | _ => none }
def bookExactRow : OpenClaim := { program := "ytkbmiajgmnfpfaa", sum := "1f866b1667afc5e96c91aff3bb2df3bd4de56fdb33ff16dc2eee6724f2d7e316", func := "cambist/cambistlaw13.BookExact", spec := "bookExact", inPlace := ["math/bits.Add64"], unfollowed := true, recurses := true, plainKeys := false, apart := false }
def BookExactSaid : Prop := bookExactRow.holds Try.pinned (OpenSpec.ofChange bookExactSpec)

/-- ITS FALSE NEIGHBOUR: 'it returns false'. Refute it at one input. -/
def bookExactWrong : ChangeSpec := { name := "bookExact", fn := fun _ => fun
  | [d1, d2, d3] => { results := [.lit (.bool false)], args := [d1, d2, d3] }
  | _ => none }
def BookExactWrongFalsely : Prop := bookExactRow.holds Try.pinned (OpenSpec.ofChange bookExactWrong)

/-- 'cambistlaw13.BookSound': WHATEVER THE INPUT: true; the input reads as it did. -/
def bookSoundSpec : ChangeSpec := { name := "bookSound", fn := fun _ => fun
  | [d] => { results := [.lit (.bool true)], args := [d] }
  | _ => none }
def bookSoundRow : OpenClaim := { program := "ytkbmiajgmnfpfaa", sum := "1f866b1667afc5e96c91aff3bb2df3bd4de56fdb33ff16dc2eee6724f2d7e316", func := "cambist/cambistlaw13.BookSound", spec := "bookSound", inPlace := ["math/bits.Add64"], unfollowed := true, recurses := true, plainKeys := false, apart := false }
def BookSoundSaid : Prop := bookSoundRow.holds Try.pinned (OpenSpec.ofChange bookSoundSpec)

/-- ITS FALSE NEIGHBOUR: 'it returns false'. Refute it at one input. -/
def bookSoundWrong : ChangeSpec := { name := "bookSound", fn := fun _ => fun
  | [d] => { results := [.lit (.bool false)], args := [d] }
  | _ => none }
def BookSoundWrongFalsely : Prop := bookSoundRow.holds Try.pinned (OpenSpec.ofChange bookSoundWrong)

/-- 'cambistlaw13.BookBack': WHATEVER THE INPUT: true; the input reads as it did. -/
def bookBackSpec : ChangeSpec := { name := "bookBack", fn := fun _ => fun
  | [d1, d2] => { results := [.lit (.bool true)], args := [d1, d2] }
  | _ => none }
def bookBackRow : OpenClaim := { program := "ytkbmiajgmnfpfaa", sum := "1f866b1667afc5e96c91aff3bb2df3bd4de56fdb33ff16dc2eee6724f2d7e316", func := "cambist/cambistlaw13.BookBack", spec := "bookBack", unfollowed := true, recurses := true, plainKeys := false, apart := false }
def BookBackSaid : Prop := bookBackRow.holds Try.pinned (OpenSpec.ofChange bookBackSpec)

/-- ITS FALSE NEIGHBOUR: 'it returns false'. Refute it at one input. -/
def bookBackWrong : ChangeSpec := { name := "bookBack", fn := fun _ => fun
  | [d1, d2] => { results := [.lit (.bool false)], args := [d1, d2] }
  | _ => none }
def BookBackWrongFalsely : Prop := bookBackRow.holds Try.pinned (OpenSpec.ofChange bookBackWrong)

/-- 'cambistlaw13.BookParts': WHATEVER THE INPUT: true; the input reads as it did. -/
def bookPartsSpec : ChangeSpec := { name := "bookParts", fn := fun _ => fun
  | [d1, d2] => { results := [.lit (.bool true)], args := [d1, d2] }
  | _ => none }
def bookPartsRow : OpenClaim := { program := "ytkbmiajgmnfpfaa", sum := "1f866b1667afc5e96c91aff3bb2df3bd4de56fdb33ff16dc2eee6724f2d7e316", func := "cambist/cambistlaw13.BookParts", spec := "bookParts", unfollowed := true, recurses := true, plainKeys := false, apart := false }
def BookPartsSaid : Prop := bookPartsRow.holds Try.pinned (OpenSpec.ofChange bookPartsSpec)

/-- ITS FALSE NEIGHBOUR: 'it returns false'. Refute it at one input. -/
def bookPartsWrong : ChangeSpec := { name := "bookParts", fn := fun _ => fun
  | [d1, d2] => { results := [.lit (.bool false)], args := [d1, d2] }
  | _ => none }
def BookPartsWrongFalsely : Prop := bookPartsRow.holds Try.pinned (OpenSpec.ofChange bookPartsWrong)

/-- 'cambistlaw13.BookOrder': WHATEVER THE INPUT: true; the input reads as it did. -/
def bookOrderSpec : ChangeSpec := { name := "bookOrder", fn := fun _ => fun
  | [d] => { results := [.lit (.bool true)], args := [d] }
  | _ => none }
def bookOrderRow : OpenClaim := { program := "ytkbmiajgmnfpfaa", sum := "1f866b1667afc5e96c91aff3bb2df3bd4de56fdb33ff16dc2eee6724f2d7e316", func := "cambist/cambistlaw13.BookOrder", spec := "bookOrder", unfollowed := true, recurses := true, plainKeys := false, apart := false }
def BookOrderSaid : Prop := bookOrderRow.holds Try.pinned (OpenSpec.ofChange bookOrderSpec)

/-- ITS FALSE NEIGHBOUR: 'it returns false'. Refute it at one input. -/
def bookOrderWrong : ChangeSpec := { name := "bookOrder", fn := fun _ => fun
  | [d] => { results := [.lit (.bool false)], args := [d] }
  | _ => none }
def BookOrderWrongFalsely : Prop := bookOrderRow.holds Try.pinned (OpenSpec.ofChange bookOrderWrong)

/-- 'cambistlaw13.BookFull': WHATEVER THE INPUT: true; the input reads as it did. -/
def bookFullSpec : ChangeSpec := { name := "bookFull", fn := fun _ => fun
  | [d1, d2] => { results := [.lit (.bool true)], args := [d1, d2] }
  | _ => none }
def bookFullRow : OpenClaim := { program := "ytkbmiajgmnfpfaa", sum := "1f866b1667afc5e96c91aff3bb2df3bd4de56fdb33ff16dc2eee6724f2d7e316", func := "cambist/cambistlaw13.BookFull", spec := "bookFull", unfollowed := true, recurses := true, plainKeys := false, apart := false }
def BookFullSaid : Prop := bookFullRow.holds Try.pinned (OpenSpec.ofChange bookFullSpec)

/-- ITS FALSE NEIGHBOUR: 'it returns false'. Refute it at one input. -/
def bookFullWrong : ChangeSpec := { name := "bookFull", fn := fun _ => fun
  | [d1, d2] => { results := [.lit (.bool false)], args := [d1, d2] }
  | _ => none }
def BookFullWrongFalsely : Prop := bookFullRow.holds Try.pinned (OpenSpec.ofChange bookFullWrong)

/- THE SECOND FORM. 'bulk': how many values and letters a reading holds, each counted each time it is reached (what is shared counts as often as it is met; a slice's spare places count too). A statement '..UptoSaid' is the law's where the arguments, and the package variables that the reading takes, are together of bulk at most 1048576: NARROWER than '..Said'. Prove '..Said' where nothing that the law and all that it calls make is longer than what came in: it says more and counts as full. Else prove '..UptoSaid'. A law counts once. -/
mutual
def uptoBulk {H : Type} : DataW H → Nat
  | .lit (.string bytes) => bytes.length + 1
  | .lit _ => 1
  | .nil => 1
  | .ptr d => uptoBulk d + 1
  | .slice elems spare => uptoBulkAll elems + uptoBulkAll spare + 1
  | .agg parts => uptoBulkAll parts + 1
  | .iface _ d => uptoBulk d + 1
  | .map entries => uptoBulkEntries entries + 1
  | .held _ => 1
def uptoBulkAll {H : Type} : List (DataW H) → Nat
  | [] => 0
  | d :: r => uptoBulk d + uptoBulkAll r
def uptoBulkEntries {H : Type} : List (Lit × DataW H) → Nat
  | [] => 0
  | x :: r => uptoBulkEntry x + uptoBulkEntries r
def uptoBulkEntry {H : Type} : Lit × DataW H → Nat
  | (.string bytes, d) => bytes.length + uptoBulk d + 1
  | (_, d) => uptoBulk d + 1
 end
def uptoSmall : (H : Type) → List (DataW H) → Bool := fun _ ds => decide (uptoBulkAll ds ≤ 1048576)
def OpenSpec.upto (s : _root_.Go.ChangeSpec) : _root_.Go.OpenSpec := { _root_.Go.OpenSpec.ofChange s with cond := some uptoSmall }

/-- 'cambistlaw13.BookExact', WHERE WHAT IT READS IS OF BULK AT MOST 1048576: true; the input reads as it did. -/
def bookExactUptoRow : OpenClaim := { program := "ytkbmiajgmnfpfaa", sum := "1f866b1667afc5e96c91aff3bb2df3bd4de56fdb33ff16dc2eee6724f2d7e316", func := "cambist/cambistlaw13.BookExact", spec := "bookExact", inPlace := ["math/bits.Add64"], unfollowed := true, recurses := true, plainKeys := false, apart := false, narrowed := true }
def BookExactUptoSaid : Prop := bookExactUptoRow.holds Try.pinned (OpenSpec.upto bookExactSpec)

/-- 'cambistlaw13.BookSound', WHERE WHAT IT READS IS OF BULK AT MOST 1048576: true; the input reads as it did. -/
def bookSoundUptoRow : OpenClaim := { program := "ytkbmiajgmnfpfaa", sum := "1f866b1667afc5e96c91aff3bb2df3bd4de56fdb33ff16dc2eee6724f2d7e316", func := "cambist/cambistlaw13.BookSound", spec := "bookSound", inPlace := ["math/bits.Add64"], unfollowed := true, recurses := true, plainKeys := false, apart := false, narrowed := true }
def BookSoundUptoSaid : Prop := bookSoundUptoRow.holds Try.pinned (OpenSpec.upto bookSoundSpec)

/-- 'cambistlaw13.BookBack', WHERE WHAT IT READS IS OF BULK AT MOST 1048576: true; the input reads as it did. -/
def bookBackUptoRow : OpenClaim := { program := "ytkbmiajgmnfpfaa", sum := "1f866b1667afc5e96c91aff3bb2df3bd4de56fdb33ff16dc2eee6724f2d7e316", func := "cambist/cambistlaw13.BookBack", spec := "bookBack", unfollowed := true, recurses := true, plainKeys := false, apart := false, narrowed := true }
def BookBackUptoSaid : Prop := bookBackUptoRow.holds Try.pinned (OpenSpec.upto bookBackSpec)

/-- 'cambistlaw13.BookParts', WHERE WHAT IT READS IS OF BULK AT MOST 1048576: true; the input reads as it did. -/
def bookPartsUptoRow : OpenClaim := { program := "ytkbmiajgmnfpfaa", sum := "1f866b1667afc5e96c91aff3bb2df3bd4de56fdb33ff16dc2eee6724f2d7e316", func := "cambist/cambistlaw13.BookParts", spec := "bookParts", unfollowed := true, recurses := true, plainKeys := false, apart := false, narrowed := true }
def BookPartsUptoSaid : Prop := bookPartsUptoRow.holds Try.pinned (OpenSpec.upto bookPartsSpec)

/-- 'cambistlaw13.BookOrder', WHERE WHAT IT READS IS OF BULK AT MOST 1048576: true; the input reads as it did. -/
def bookOrderUptoRow : OpenClaim := { program := "ytkbmiajgmnfpfaa", sum := "1f866b1667afc5e96c91aff3bb2df3bd4de56fdb33ff16dc2eee6724f2d7e316", func := "cambist/cambistlaw13.BookOrder", spec := "bookOrder", unfollowed := true, recurses := true, plainKeys := false, apart := false, narrowed := true }
def BookOrderUptoSaid : Prop := bookOrderUptoRow.holds Try.pinned (OpenSpec.upto bookOrderSpec)

/-- 'cambistlaw13.BookFull', WHERE WHAT IT READS IS OF BULK AT MOST 1048576: true; the input reads as it did. -/
def bookFullUptoRow : OpenClaim := { program := "ytkbmiajgmnfpfaa", sum := "1f866b1667afc5e96c91aff3bb2df3bd4de56fdb33ff16dc2eee6724f2d7e316", func := "cambist/cambistlaw13.BookFull", spec := "bookFull", unfollowed := true, recurses := true, plainKeys := false, apart := false, narrowed := true }
def BookFullUptoSaid : Prop := bookFullUptoRow.holds Try.pinned (OpenSpec.upto bookFullSpec)

end Rows
end Go.Proofs.Ytkbmiajgmnfpfaa
