/-
  No cell of these rows narrows 'for every input' (looked for: loops, veiled, ifaces, maps, wideKeys, modest, calm, conditions, laid).
  DERIVED. THE GIVEN ROWS OF THIS SEAT. 5 by the template 'for every input the law returns true; each argument reads behind the call as it read before'; 0 by the template 'total and deterministic' (their statements: YtaipgcckafbgeaaTotals.lean).
  GIVEN WITH THE SEED: the statements are not yours to turn. If you find one false, say at which input.
  Laid BY PROGRAM, IN A SANDBOX (cutbox-rows.mjs): the forced cells as the released guide's own fill.sh prints them over the translation bd69a8209e553730… (all of the seat's roots in one cut). By AI agents, Wed Nov 11 2026. No macro, syntax, notation, axiom, sorry.
-/
import Derived.Test.YtaipgcckafbgeaaChecked
import GoSem.Claim
import GoSem.ClaimJoined
import GoSem.ClaimMapViews
import Derived.JoinedTies
import Derived.KernelRfl
namespace Go.Proofs.Ytaipgcckafbgeaa
/- THE CELL 'sum', in the pinned program and in every row, IS THE sha256 OF THE DUMP (.gsa) THAT YtaipgcckafbgeaaProg.lean LOADS. Nothing in Lean hashes anything: it is a label: what it is worth is what the hold of that sum in a sandbox is worth. -/
noncomputable def Try.pinned : Pinned := { name := "ytaipgcckafbgeaa", sum := "bd69a8209e5537306b89889d2d55bb45e1d86ca06fcd8e0ecaed7e2185dd5c8b", checked := Try.checked }
namespace Rows
def none {H : Type} : Left H := { results := [], args := [] }

/-- 'cambistlaw18.CallExact': WHATEVER THE INPUT: true; the input reads as it did. -/
def callExactSpec : ChangeSpec := { name := "callExact", fn := fun _ => fun
  | [d1, d2, d3, d4, d5] => { results := [.lit (.bool true)], args := [d1, d2, d3, d4, d5] }
  | _ => none }
def callExactRow : OpenClaim := { program := "ytaipgcckafbgeaa", sum := "bd69a8209e5537306b89889d2d55bb45e1d86ca06fcd8e0ecaed7e2185dd5c8b", func := "cambist/cambistlaw18.CallExact", spec := "callExact", unfollowed := true, recurses := true, apart := false }
def CallExactSaid : Prop := callExactRow.holds Try.pinned (OpenSpec.ofChange callExactSpec)

/-- ITS FALSE NEIGHBOUR: 'it returns false'. Refute it at one input. -/
def callExactWrong : ChangeSpec := { name := "callExact", fn := fun _ => fun
  | [d1, d2, d3, d4, d5] => { results := [.lit (.bool false)], args := [d1, d2, d3, d4, d5] }
  | _ => none }
def CallExactWrongFalsely : Prop := callExactRow.holds Try.pinned (OpenSpec.ofChange callExactWrong)

/-- 'cambistlaw18.CallSound': WHATEVER THE INPUT: true; the input reads as it did. -/
def callSoundSpec : ChangeSpec := { name := "callSound", fn := fun _ => fun
  | [d] => { results := [.lit (.bool true)], args := [d] }
  | _ => none }
def callSoundRow : OpenClaim := { program := "ytaipgcckafbgeaa", sum := "bd69a8209e5537306b89889d2d55bb45e1d86ca06fcd8e0ecaed7e2185dd5c8b", func := "cambist/cambistlaw18.CallSound", spec := "callSound", unfollowed := true, recurses := true, apart := false }
def CallSoundSaid : Prop := callSoundRow.holds Try.pinned (OpenSpec.ofChange callSoundSpec)

/-- ITS FALSE NEIGHBOUR: 'it returns false'. Refute it at one input. -/
def callSoundWrong : ChangeSpec := { name := "callSound", fn := fun _ => fun
  | [d] => { results := [.lit (.bool false)], args := [d] }
  | _ => none }
def CallSoundWrongFalsely : Prop := callSoundRow.holds Try.pinned (OpenSpec.ofChange callSoundWrong)

/-- 'cambistlaw18.CallMeets': WHATEVER THE INPUT: true; the input reads as it did. -/
def callMeetsSpec : ChangeSpec := { name := "callMeets", fn := fun _ => fun
  | [d1, d2, d3] => { results := [.lit (.bool true)], args := [d1, d2, d3] }
  | _ => none }
def callMeetsRow : OpenClaim := { program := "ytaipgcckafbgeaa", sum := "bd69a8209e5537306b89889d2d55bb45e1d86ca06fcd8e0ecaed7e2185dd5c8b", func := "cambist/cambistlaw18.CallMeets", spec := "callMeets", unfollowed := true, recurses := true, apart := false }
def CallMeetsSaid : Prop := callMeetsRow.holds Try.pinned (OpenSpec.ofChange callMeetsSpec)

/-- ITS FALSE NEIGHBOUR: 'it returns false'. Refute it at one input. -/
def callMeetsWrong : ChangeSpec := { name := "callMeets", fn := fun _ => fun
  | [d1, d2, d3] => { results := [.lit (.bool false)], args := [d1, d2, d3] }
  | _ => none }
def CallMeetsWrongFalsely : Prop := callMeetsRow.holds Try.pinned (OpenSpec.ofChange callMeetsWrong)

/-- 'cambistlaw18.CallLate': WHATEVER THE INPUT: true; the input reads as it did. -/
def callLateSpec : ChangeSpec := { name := "callLate", fn := fun _ => fun
  | [d1, d2, d3] => { results := [.lit (.bool true)], args := [d1, d2, d3] }
  | _ => none }
def callLateRow : OpenClaim := { program := "ytaipgcckafbgeaa", sum := "bd69a8209e5537306b89889d2d55bb45e1d86ca06fcd8e0ecaed7e2185dd5c8b", func := "cambist/cambistlaw18.CallLate", spec := "callLate", unfollowed := true, recurses := true, apart := false }
def CallLateSaid : Prop := callLateRow.holds Try.pinned (OpenSpec.ofChange callLateSpec)

/-- ITS FALSE NEIGHBOUR: 'it returns false'. Refute it at one input. -/
def callLateWrong : ChangeSpec := { name := "callLate", fn := fun _ => fun
  | [d1, d2, d3] => { results := [.lit (.bool false)], args := [d1, d2, d3] }
  | _ => none }
def CallLateWrongFalsely : Prop := callLateRow.holds Try.pinned (OpenSpec.ofChange callLateWrong)

/-- 'cambistlaw18.CallOthers': WHATEVER THE INPUT: true; the input reads as it did. -/
def callOthersSpec : ChangeSpec := { name := "callOthers", fn := fun _ => fun
  | [d1, d2, d3, d4, d5] => { results := [.lit (.bool true)], args := [d1, d2, d3, d4, d5] }
  | _ => none }
def callOthersRow : OpenClaim := { program := "ytaipgcckafbgeaa", sum := "bd69a8209e5537306b89889d2d55bb45e1d86ca06fcd8e0ecaed7e2185dd5c8b", func := "cambist/cambistlaw18.CallOthers", spec := "callOthers", unfollowed := true, recurses := true, apart := false }
def CallOthersSaid : Prop := callOthersRow.holds Try.pinned (OpenSpec.ofChange callOthersSpec)

/-- ITS FALSE NEIGHBOUR: 'it returns false'. Refute it at one input. -/
def callOthersWrong : ChangeSpec := { name := "callOthers", fn := fun _ => fun
  | [d1, d2, d3, d4, d5] => { results := [.lit (.bool false)], args := [d1, d2, d3, d4, d5] }
  | _ => none }
def CallOthersWrongFalsely : Prop := callOthersRow.holds Try.pinned (OpenSpec.ofChange callOthersWrong)

/- THE SECOND FORM. 'bulk': how many values and letters a reading holds, each counted each time it is reached (what is shared counts as often as it is met; a slice's spare places count too). A statement '..UptoSaid' is the law's where the arguments, and the package variables that the reading takes, are together of bulk at most 1048576: NARROWER than '..Said'. Prove '..Said' where nothing that the law and all that it calls make is longer than what came in: it says more and counts as full. Else prove '..UptoSaid'. A law counts once. -/
mutual
def uptoBulk {H : Type} : DataW H → Nat
  | .lit (.string bytes) => bytes.length + 1
  | .lit _ => 1
  | .nil => 1
  | .ptr d => uptoBulk d + 1
  | .slice elems spare => uptoBulkAll elems + uptoBulkAll spare + 1
  | .agg parts => uptoBulkAll parts + 1
  | .iface _ d => uptoBulk d + 1
  | .map entries => uptoBulkEntries entries + 1
  | .held _ => 1
def uptoBulkAll {H : Type} : List (DataW H) → Nat
  | [] => 0
  | d :: r => uptoBulk d + uptoBulkAll r
def uptoBulkEntries {H : Type} : List (Lit × DataW H) → Nat
  | [] => 0
  | x :: r => uptoBulkEntry x + uptoBulkEntries r
def uptoBulkEntry {H : Type} : Lit × DataW H → Nat
  | (.string bytes, d) => bytes.length + uptoBulk d + 1
  | (_, d) => uptoBulk d + 1
 end
def uptoSmall : (H : Type) → List (DataW H) → Bool := fun _ ds => decide (uptoBulkAll ds ≤ 1048576)
def OpenSpec.upto (s : _root_.Go.ChangeSpec) : _root_.Go.OpenSpec := { _root_.Go.OpenSpec.ofChange s with cond := some uptoSmall }

/-- 'cambistlaw18.CallExact', WHERE WHAT IT READS IS OF BULK AT MOST 1048576: true; the input reads as it did. -/
def callExactUptoRow : OpenClaim := { program := "ytaipgcckafbgeaa", sum := "bd69a8209e5537306b89889d2d55bb45e1d86ca06fcd8e0ecaed7e2185dd5c8b", func := "cambist/cambistlaw18.CallExact", spec := "callExact", unfollowed := true, recurses := true, apart := false, narrowed := true }
def CallExactUptoSaid : Prop := callExactUptoRow.holds Try.pinned (OpenSpec.upto callExactSpec)

/-- 'cambistlaw18.CallSound', WHERE WHAT IT READS IS OF BULK AT MOST 1048576: true; the input reads as it did. -/
def callSoundUptoRow : OpenClaim := { program := "ytaipgcckafbgeaa", sum := "bd69a8209e5537306b89889d2d55bb45e1d86ca06fcd8e0ecaed7e2185dd5c8b", func := "cambist/cambistlaw18.CallSound", spec := "callSound", unfollowed := true, recurses := true, apart := false, narrowed := true }
def CallSoundUptoSaid : Prop := callSoundUptoRow.holds Try.pinned (OpenSpec.upto callSoundSpec)

/-- 'cambistlaw18.CallMeets', WHERE WHAT IT READS IS OF BULK AT MOST 1048576: true; the input reads as it did. -/
def callMeetsUptoRow : OpenClaim := { program := "ytaipgcckafbgeaa", sum := "bd69a8209e5537306b89889d2d55bb45e1d86ca06fcd8e0ecaed7e2185dd5c8b", func := "cambist/cambistlaw18.CallMeets", spec := "callMeets", unfollowed := true, recurses := true, apart := false, narrowed := true }
def CallMeetsUptoSaid : Prop := callMeetsUptoRow.holds Try.pinned (OpenSpec.upto callMeetsSpec)

/-- 'cambistlaw18.CallLate', WHERE WHAT IT READS IS OF BULK AT MOST 1048576: true; the input reads as it did. -/
def callLateUptoRow : OpenClaim := { program := "ytaipgcckafbgeaa", sum := "bd69a8209e5537306b89889d2d55bb45e1d86ca06fcd8e0ecaed7e2185dd5c8b", func := "cambist/cambistlaw18.CallLate", spec := "callLate", unfollowed := true, recurses := true, apart := false, narrowed := true }
def CallLateUptoSaid : Prop := callLateUptoRow.holds Try.pinned (OpenSpec.upto callLateSpec)

/-- 'cambistlaw18.CallOthers', WHERE WHAT IT READS IS OF BULK AT MOST 1048576: true; the input reads as it did. -/
def callOthersUptoRow : OpenClaim := { program := "ytaipgcckafbgeaa", sum := "bd69a8209e5537306b89889d2d55bb45e1d86ca06fcd8e0ecaed7e2185dd5c8b", func := "cambist/cambistlaw18.CallOthers", spec := "callOthers", unfollowed := true, recurses := true, apart := false, narrowed := true }
def CallOthersUptoSaid : Prop := callOthersUptoRow.holds Try.pinned (OpenSpec.upto callOthersSpec)

end Rows
end Go.Proofs.Ytaipgcckafbgeaa
