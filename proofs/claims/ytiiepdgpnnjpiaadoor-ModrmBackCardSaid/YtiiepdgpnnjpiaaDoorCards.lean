/-
  DERIVED. GIVEN WITH THE SEED: THE CARDS: each row of YtiiepdgpnnjpiaaDoorRows.lean that lists a variable, with what it lists TIED to the program's text (the seventh form; the later family's looks); each row that meets fmt, with fmt's text TOLD by the authors' own Lean function (tested against real Go, not proved from fmt's source: count such statements apart). THE CARD IS WHAT COUNTS. Prove the row's statement (the work); the ties are given (YtiiepdgpnnjpiaaDoorTie.lean); close each card by the builder's one call (the guide's Derived/Test/ToyasCard.lean, 'card_holds'). Laid BY PROGRAM, IN A SANDBOX (cutbox-door.mjs). By AI agents, Wed Nov 11 2026. No macro, syntax, notation, axiom, sorry.
-/
import Derived.Test.YtiiepdgpnnjpiaaDoorRows
import GoSem.ClaimSeven
namespace Go.Proofs.YtiiepdgpnnjpiaaDoor
namespace Rows

/-- THE TIED CARD OF 'linotypelaw09.ModrmLays'. -/
def modrmLaysCard : Claim7 := { stood := { row := modrmLaysRow, standIns := [], harness := (true, "f659c46fe1c5eb6e65491196ac577d283e2a56111e24c6857d1b482db12718c2"), looks := true }, kinds := [], alts := [], laidByText := true, laidKinds := [.data, .data], laidTests := true, laidLooks := .later }
def ModrmLaysCardSaid : Prop := Claim7.holds Tryd.pinned (.plain (OpenSpec.ofChange modrmLaysSpec)) modrmLaysCard

/-- THE TIED CARD OF 'linotypelaw09.ModrmReads'. -/
def modrmReadsCard : Claim7 := { stood := { row := modrmReadsRow, standIns := [], harness := (true, "f659c46fe1c5eb6e65491196ac577d283e2a56111e24c6857d1b482db12718c2"), looks := true }, kinds := [], alts := [], laidByText := true, laidKinds := [.data, .data], laidTests := true, laidLooks := .later }
def ModrmReadsCardSaid : Prop := Claim7.holds Tryd.pinned (.plain (OpenSpec.ofChange modrmReadsSpec)) modrmReadsCard

/-- THE TIED CARD OF 'linotypelaw09.ModrmKnown'. -/
def modrmKnownCard : Claim7 := { stood := { row := modrmKnownRow, standIns := [], harness := (true, "f659c46fe1c5eb6e65491196ac577d283e2a56111e24c6857d1b482db12718c2"), looks := true }, kinds := [], alts := [], laidByText := true, laidKinds := [.data, .data], laidTests := true, laidLooks := .later }
def ModrmKnownCardSaid : Prop := Claim7.holds Tryd.pinned (.plain (OpenSpec.ofChange modrmKnownSpec)) modrmKnownCard

/-- THE TIED CARD OF 'linotypelaw09.ModrmBack'. -/
def modrmBackCard : Claim7 := { stood := { row := modrmBackRow, standIns := [], harness := (true, "f659c46fe1c5eb6e65491196ac577d283e2a56111e24c6857d1b482db12718c2"), looks := true }, kinds := [], alts := [], laidByText := true, laidKinds := [.data, .data], laidTests := true, laidLooks := .later }
def ModrmBackCardSaid : Prop := Claim7.holds Tryd.pinned (.plain (OpenSpec.ofChange modrmBackSpec)) modrmBackCard

/-- THE TIED CARD OF 'linotypelaw09.ModrmFound'. -/
def modrmFoundCard : Claim7 := { stood := { row := modrmFoundRow, standIns := [], harness := (true, "f659c46fe1c5eb6e65491196ac577d283e2a56111e24c6857d1b482db12718c2"), looks := true }, kinds := [], alts := [], laidByText := true, laidKinds := [.data, .data], laidTests := true, laidLooks := .later }
def ModrmFoundCardSaid : Prop := Claim7.holds Tryd.pinned (.plain (OpenSpec.ofChange modrmFoundSpec)) modrmFoundCard

/-- THE SECOND FORM's CARD OF 'linotypelaw09.ModrmLays'. -/
def modrmLaysUptoCard : Claim7 := { stood := { row := modrmLaysUptoRow, standIns := [], harness := (true, "f659c46fe1c5eb6e65491196ac577d283e2a56111e24c6857d1b482db12718c2"), looks := true }, kinds := [], alts := [], laidByText := true, laidKinds := [.data, .data], laidTests := true, laidLooks := .later }
def ModrmLaysUptoCardSaid : Prop := Claim7.holds Tryd.pinned (.plain (OpenSpec.upto modrmLaysSpec)) modrmLaysUptoCard

/-- THE SECOND FORM's CARD OF 'linotypelaw09.ModrmReads'. -/
def modrmReadsUptoCard : Claim7 := { stood := { row := modrmReadsUptoRow, standIns := [], harness := (true, "f659c46fe1c5eb6e65491196ac577d283e2a56111e24c6857d1b482db12718c2"), looks := true }, kinds := [], alts := [], laidByText := true, laidKinds := [.data, .data], laidTests := true, laidLooks := .later }
def ModrmReadsUptoCardSaid : Prop := Claim7.holds Tryd.pinned (.plain (OpenSpec.upto modrmReadsSpec)) modrmReadsUptoCard

/-- THE SECOND FORM's CARD OF 'linotypelaw09.ModrmKnown'. -/
def modrmKnownUptoCard : Claim7 := { stood := { row := modrmKnownUptoRow, standIns := [], harness := (true, "f659c46fe1c5eb6e65491196ac577d283e2a56111e24c6857d1b482db12718c2"), looks := true }, kinds := [], alts := [], laidByText := true, laidKinds := [.data, .data], laidTests := true, laidLooks := .later }
def ModrmKnownUptoCardSaid : Prop := Claim7.holds Tryd.pinned (.plain (OpenSpec.upto modrmKnownSpec)) modrmKnownUptoCard

/-- THE SECOND FORM's CARD OF 'linotypelaw09.ModrmBack'. -/
def modrmBackUptoCard : Claim7 := { stood := { row := modrmBackUptoRow, standIns := [], harness := (true, "f659c46fe1c5eb6e65491196ac577d283e2a56111e24c6857d1b482db12718c2"), looks := true }, kinds := [], alts := [], laidByText := true, laidKinds := [.data, .data], laidTests := true, laidLooks := .later }
def ModrmBackUptoCardSaid : Prop := Claim7.holds Tryd.pinned (.plain (OpenSpec.upto modrmBackSpec)) modrmBackUptoCard

/-- THE SECOND FORM's CARD OF 'linotypelaw09.ModrmFound'. -/
def modrmFoundUptoCard : Claim7 := { stood := { row := modrmFoundUptoRow, standIns := [], harness := (true, "f659c46fe1c5eb6e65491196ac577d283e2a56111e24c6857d1b482db12718c2"), looks := true }, kinds := [], alts := [], laidByText := true, laidKinds := [.data, .data], laidTests := true, laidLooks := .later }
def ModrmFoundUptoCardSaid : Prop := Claim7.holds Tryd.pinned (.plain (OpenSpec.upto modrmFoundSpec)) modrmFoundUptoCard
end Rows
end Go.Proofs.YtiiepdgpnnjpiaaDoor
