/-
  DERIVED. GIVEN WITH THE SEED: THE CARDS: each row of YtefjdgggafkmoaaDoorRows.lean that lists a variable, with what it lists TIED to the program's text (the seventh form; the later family's looks); each row that meets fmt, with fmt's text TOLD by the authors' own Lean function (tested against real Go, not proved from fmt's source: count such statements apart). THE CARD IS WHAT COUNTS. Prove the row's statement (the work); the ties are given (YtefjdgggafkmoaaDoorTie.lean); close each card by the builder's one call (the guide's Derived/Test/ToyasCard.lean, 'card_holds'). Laid BY PROGRAM, IN A SANDBOX (cutbox-door.mjs). By AI agents, Wed Nov 11 2026. No macro, syntax, notation, axiom, sorry.
-/
import Derived.Test.YtefjdgggafkmoaaDoorRows
import GoSem.ClaimSeven
namespace Go.Proofs.YtefjdgggafkmoaaDoor
namespace Rows

/-- THE TIED CARD OF 'cambistlaw08.AcctExact'. -/
def acctExactCard : Claim7 := { stood := { row := acctExactRow, standIns := [], harness := (true, "61fec8c97259d8254393db65bcc813d83e550cfd07f6ab2d74a4109bb181c966"), looks := true }, kinds := [], alts := [], laidByText := true, laidKinds := [.data, .data, .data, .sentinel, .sentinel], laidTests := true, laidLooks := .later }
def AcctExactCardSaid : Prop := Claim7.holds Tryd.pinned (.plain (OpenSpec.ofChange acctExactSpec)) acctExactCard

/-- THE TIED CARD OF 'cambistlaw08.AcctAll'. -/
def acctAllCard : Claim7 := { stood := { row := acctAllRow, standIns := [], harness := (true, "61fec8c97259d8254393db65bcc813d83e550cfd07f6ab2d74a4109bb181c966"), looks := true }, kinds := [], alts := [], laidByText := true, laidKinds := [.data, .data, .data], laidTests := true, laidLooks := .later }
def AcctAllCardSaid : Prop := Claim7.holds Tryd.pinned (.plain (OpenSpec.ofChange acctAllSpec)) acctAllCard

/-- THE TIED CARD OF 'cambistlaw08.AcctBack'. -/
def acctBackCard : Claim7 := { stood := { row := acctBackRow, standIns := [], harness := (true, "61fec8c97259d8254393db65bcc813d83e550cfd07f6ab2d74a4109bb181c966"), looks := true }, kinds := [], alts := [], laidByText := true, laidKinds := [.data, .data, .data, .sentinel, .sentinel], laidTests := true, laidLooks := .later }
def AcctBackCardSaid : Prop := Claim7.holds Tryd.pinned (.plain (OpenSpec.ofChange acctBackSpec)) acctBackCard

/-- THE TIED CARD OF 'cambistlaw08.AcctNames'. -/
def acctNamesCard : Claim7 := { stood := { row := acctNamesRow, standIns := [], harness := (true, "61fec8c97259d8254393db65bcc813d83e550cfd07f6ab2d74a4109bb181c966"), looks := true }, kinds := [], alts := [], laidByText := true, laidKinds := [.data, .data, .data], laidTests := true, laidLooks := .later }
def AcctNamesCardSaid : Prop := Claim7.holds Tryd.pinned (.plain (OpenSpec.ofChange acctNamesSpec)) acctNamesCard

/-- THE TIED CARD OF 'cambistlaw08.AcctOrder'. -/
def acctOrderCard : Claim7 := { stood := { row := acctOrderRow, standIns := [], harness := (true, "61fec8c97259d8254393db65bcc813d83e550cfd07f6ab2d74a4109bb181c966"), looks := true }, kinds := [], alts := [], laidByText := true, laidKinds := [.data, .data, .data], laidTests := true, laidLooks := .later }
def AcctOrderCardSaid : Prop := Claim7.holds Tryd.pinned (.plain (OpenSpec.ofChange acctOrderSpec)) acctOrderCard

/-- THE SECOND FORM's CARD OF 'cambistlaw08.AcctExact'. -/
def acctExactUptoCard : Claim7 := { stood := { row := acctExactUptoRow, standIns := [], harness := (true, "61fec8c97259d8254393db65bcc813d83e550cfd07f6ab2d74a4109bb181c966"), looks := true }, kinds := [], alts := [], laidByText := true, laidKinds := [.data, .data, .data, .sentinel, .sentinel], laidTests := true, laidLooks := .later }
def AcctExactUptoCardSaid : Prop := Claim7.holds Tryd.pinned (.plain (OpenSpec.upto acctExactSpec)) acctExactUptoCard

/-- THE SECOND FORM's CARD OF 'cambistlaw08.AcctAll'. -/
def acctAllUptoCard : Claim7 := { stood := { row := acctAllUptoRow, standIns := [], harness := (true, "61fec8c97259d8254393db65bcc813d83e550cfd07f6ab2d74a4109bb181c966"), looks := true }, kinds := [], alts := [], laidByText := true, laidKinds := [.data, .data, .data], laidTests := true, laidLooks := .later }
def AcctAllUptoCardSaid : Prop := Claim7.holds Tryd.pinned (.plain (OpenSpec.upto acctAllSpec)) acctAllUptoCard

/-- THE SECOND FORM's CARD OF 'cambistlaw08.AcctBack'. -/
def acctBackUptoCard : Claim7 := { stood := { row := acctBackUptoRow, standIns := [], harness := (true, "61fec8c97259d8254393db65bcc813d83e550cfd07f6ab2d74a4109bb181c966"), looks := true }, kinds := [], alts := [], laidByText := true, laidKinds := [.data, .data, .data, .sentinel, .sentinel], laidTests := true, laidLooks := .later }
def AcctBackUptoCardSaid : Prop := Claim7.holds Tryd.pinned (.plain (OpenSpec.upto acctBackSpec)) acctBackUptoCard

/-- THE SECOND FORM's CARD OF 'cambistlaw08.AcctNames'. -/
def acctNamesUptoCard : Claim7 := { stood := { row := acctNamesUptoRow, standIns := [], harness := (true, "61fec8c97259d8254393db65bcc813d83e550cfd07f6ab2d74a4109bb181c966"), looks := true }, kinds := [], alts := [], laidByText := true, laidKinds := [.data, .data, .data], laidTests := true, laidLooks := .later }
def AcctNamesUptoCardSaid : Prop := Claim7.holds Tryd.pinned (.plain (OpenSpec.upto acctNamesSpec)) acctNamesUptoCard

/-- THE SECOND FORM's CARD OF 'cambistlaw08.AcctOrder'. -/
def acctOrderUptoCard : Claim7 := { stood := { row := acctOrderUptoRow, standIns := [], harness := (true, "61fec8c97259d8254393db65bcc813d83e550cfd07f6ab2d74a4109bb181c966"), looks := true }, kinds := [], alts := [], laidByText := true, laidKinds := [.data, .data, .data], laidTests := true, laidLooks := .later }
def AcctOrderUptoCardSaid : Prop := Claim7.holds Tryd.pinned (.plain (OpenSpec.upto acctOrderSpec)) acctOrderUptoCard
end Rows
end Go.Proofs.YtefjdgggafkmoaaDoor
