/-
  DERIVED. GIVEN WITH THE SEED: THE CARDS: each row of YtibhpfddjlnbmaaDoorRows.lean that lists a variable, with what it lists TIED to the program's text (the seventh form; the later family's looks); each row that meets fmt, with fmt's text TOLD by the authors' own Lean function (tested against real Go, not proved from fmt's source: count such statements apart). THE CARD IS WHAT COUNTS. Prove the row's statement (the work); the ties are given (YtibhpfddjlnbmaaDoorTie.lean); close each card by the builder's one call (the guide's Derived/Test/ToyasCard.lean, 'card_holds'). Laid BY PROGRAM, IN A SANDBOX (cutbox-door.mjs). By AI agents, Wed Nov 11 2026. No macro, syntax, notation, axiom, sorry.
-/
import Derived.Test.YtibhpfddjlnbmaaDoorRows
import GoSem.ClaimSeven
namespace Go.Proofs.YtibhpfddjlnbmaaDoor
namespace Rows

/-- THE TIED CARD OF 'linotypelaw02.LiteralScans'. -/
def literalScansCard : Claim7 := { stood := { row := literalScansRow, standIns := [], harness := (true, "1ff05e0976b957af9cfeee35da019e43bf68f6df904c61d10a04c5837df4f7f2"), looks := false }, kinds := [], alts := [], laidByText := true, laidKinds := [.data, .data, .data, .data, .pinned, .pinned], laidTests := true, laidLooks := .later }
def LiteralScansCardSaid : Prop := Claim7.holds Tryd.pinned (.plain (OpenSpec.ofChange literalScansSpec)) literalScansCard

/-- THE TIED CARD OF 'linotypelaw02.LiteralTells'. -/
def literalTellsCard : Claim7 := { stood := { row := literalTellsRow, standIns := [], harness := (true, "1ff05e0976b957af9cfeee35da019e43bf68f6df904c61d10a04c5837df4f7f2"), looks := false }, kinds := [], alts := [], laidByText := true, laidKinds := [.data, .data, .data, .data, .pinned, .pinned], laidTests := true, laidLooks := .later }
def LiteralTellsCardSaid : Prop := Claim7.holds Tryd.pinned (.plain (OpenSpec.ofChange literalTellsSpec)) literalTellsCard

/-- THE TIED CARD OF 'linotypelaw02.LiteralBack'. -/
def literalBackCard : Claim7 := { stood := { row := literalBackRow, standIns := [], harness := (true, "1ff05e0976b957af9cfeee35da019e43bf68f6df904c61d10a04c5837df4f7f2"), looks := false }, kinds := [], alts := [], laidByText := true, laidKinds := [.data, .data, .data, .data, .pinned, .pinned], laidTests := true, laidLooks := .later }
def LiteralBackCardSaid : Prop := Claim7.holds Tryd.pinned (.plain (OpenSpec.ofChange literalBackSpec)) literalBackCard

/-- THE TIED CARD OF 'linotypelaw02.LiteralSpelled'. -/
def literalSpelledCard : Claim7 := { stood := { row := literalSpelledRow, standIns := [], harness := (true, "1ff05e0976b957af9cfeee35da019e43bf68f6df904c61d10a04c5837df4f7f2"), looks := false }, kinds := [], alts := [], laidByText := true, laidKinds := [.data, .data, .data, .data, .pinned, .pinned], laidTests := true, laidLooks := .later }
def LiteralSpelledCardSaid : Prop := Claim7.holds Tryd.pinned (.plain (OpenSpec.ofChange literalSpelledSpec)) literalSpelledCard

/-- THE TIED CARD OF 'linotypelaw02.LiteralBytes'. -/
def literalBytesCard : Claim7 := { stood := { row := literalBytesRow, standIns := [], harness := (true, "1ff05e0976b957af9cfeee35da019e43bf68f6df904c61d10a04c5837df4f7f2"), looks := false }, kinds := [], alts := [], laidByText := true, laidKinds := [.data, .data, .data, .data, .pinned, .pinned], laidTests := true, laidLooks := .later }
def LiteralBytesCardSaid : Prop := Claim7.holds Tryd.pinned (.plain (OpenSpec.ofChange literalBytesSpec)) literalBytesCard

/-- THE TIED CARD OF 'linotypelaw02.LiteralKnown'. -/
def literalKnownCard : Claim7 := { stood := { row := literalKnownRow, standIns := [], harness := (true, "1ff05e0976b957af9cfeee35da019e43bf68f6df904c61d10a04c5837df4f7f2"), looks := false }, kinds := [], alts := [], laidByText := true, laidKinds := [.data, .data, .data, .data, .pinned, .pinned], laidTests := true, laidLooks := .later }
def LiteralKnownCardSaid : Prop := Claim7.holds Tryd.pinned (.plain (OpenSpec.ofChange literalKnownSpec)) literalKnownCard

/-- THE SECOND FORM's CARD OF 'linotypelaw02.LiteralScans'. -/
def literalScansUptoCard : Claim7 := { stood := { row := literalScansUptoRow, standIns := [], harness := (true, "1ff05e0976b957af9cfeee35da019e43bf68f6df904c61d10a04c5837df4f7f2"), looks := false }, kinds := [], alts := [], laidByText := true, laidKinds := [.data, .data, .data, .data, .pinned, .pinned], laidTests := true, laidLooks := .later }
def LiteralScansUptoCardSaid : Prop := Claim7.holds Tryd.pinned (.plain (OpenSpec.upto literalScansSpec)) literalScansUptoCard

/-- THE SECOND FORM's CARD OF 'linotypelaw02.LiteralTells'. -/
def literalTellsUptoCard : Claim7 := { stood := { row := literalTellsUptoRow, standIns := [], harness := (true, "1ff05e0976b957af9cfeee35da019e43bf68f6df904c61d10a04c5837df4f7f2"), looks := false }, kinds := [], alts := [], laidByText := true, laidKinds := [.data, .data, .data, .data, .pinned, .pinned], laidTests := true, laidLooks := .later }
def LiteralTellsUptoCardSaid : Prop := Claim7.holds Tryd.pinned (.plain (OpenSpec.upto literalTellsSpec)) literalTellsUptoCard

/-- THE SECOND FORM's CARD OF 'linotypelaw02.LiteralBack'. -/
def literalBackUptoCard : Claim7 := { stood := { row := literalBackUptoRow, standIns := [], harness := (true, "1ff05e0976b957af9cfeee35da019e43bf68f6df904c61d10a04c5837df4f7f2"), looks := false }, kinds := [], alts := [], laidByText := true, laidKinds := [.data, .data, .data, .data, .pinned, .pinned], laidTests := true, laidLooks := .later }
def LiteralBackUptoCardSaid : Prop := Claim7.holds Tryd.pinned (.plain (OpenSpec.upto literalBackSpec)) literalBackUptoCard

/-- THE SECOND FORM's CARD OF 'linotypelaw02.LiteralSpelled'. -/
def literalSpelledUptoCard : Claim7 := { stood := { row := literalSpelledUptoRow, standIns := [], harness := (true, "1ff05e0976b957af9cfeee35da019e43bf68f6df904c61d10a04c5837df4f7f2"), looks := false }, kinds := [], alts := [], laidByText := true, laidKinds := [.data, .data, .data, .data, .pinned, .pinned], laidTests := true, laidLooks := .later }
def LiteralSpelledUptoCardSaid : Prop := Claim7.holds Tryd.pinned (.plain (OpenSpec.upto literalSpelledSpec)) literalSpelledUptoCard

/-- THE SECOND FORM's CARD OF 'linotypelaw02.LiteralBytes'. -/
def literalBytesUptoCard : Claim7 := { stood := { row := literalBytesUptoRow, standIns := [], harness := (true, "1ff05e0976b957af9cfeee35da019e43bf68f6df904c61d10a04c5837df4f7f2"), looks := false }, kinds := [], alts := [], laidByText := true, laidKinds := [.data, .data, .data, .data, .pinned, .pinned], laidTests := true, laidLooks := .later }
def LiteralBytesUptoCardSaid : Prop := Claim7.holds Tryd.pinned (.plain (OpenSpec.upto literalBytesSpec)) literalBytesUptoCard

/-- THE SECOND FORM's CARD OF 'linotypelaw02.LiteralKnown'. -/
def literalKnownUptoCard : Claim7 := { stood := { row := literalKnownUptoRow, standIns := [], harness := (true, "1ff05e0976b957af9cfeee35da019e43bf68f6df904c61d10a04c5837df4f7f2"), looks := false }, kinds := [], alts := [], laidByText := true, laidKinds := [.data, .data, .data, .data, .pinned, .pinned], laidTests := true, laidLooks := .later }
def LiteralKnownUptoCardSaid : Prop := Claim7.holds Tryd.pinned (.plain (OpenSpec.upto literalKnownSpec)) literalKnownUptoCard
end Rows
end Go.Proofs.YtibhpfddjlnbmaaDoor
