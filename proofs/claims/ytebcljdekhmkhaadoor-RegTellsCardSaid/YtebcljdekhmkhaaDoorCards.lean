/-
  DERIVED. GIVEN WITH THE SEED: THE CARDS: each row of YtebcljdekhmkhaaDoorRows.lean that lists a variable, with what it lists TIED to the program's text (the seventh form; the later family's looks); each row that meets fmt, with fmt's text TOLD by the authors' own Lean function (tested against real Go, not proved from fmt's source: count such statements apart). THE CARD IS WHAT COUNTS. Prove the row's statement (the work); the ties are given (YtebcljdekhmkhaaDoorTie.lean); close each card by the builder's one call (the guide's Derived/Test/ToyasCard.lean, 'card_holds'). Laid BY PROGRAM, IN A SANDBOX (cutbox-door.mjs). By AI agents, Wed Nov 11 2026. No macro, syntax, notation, axiom, sorry.
-/
import Derived.Test.YtebcljdekhmkhaaDoorRows
import GoSem.ClaimSeven
namespace Go.Proofs.YtebcljdekhmkhaaDoor
namespace Rows

/-- THE TIED CARD OF 'linotypelaw03.RegTells'. -/
def regTellsCard : Claim7 := { stood := { row := regTellsRow, standIns := [], harness := (true, "107b3767e44ae49e2391f24c1301e4868cbf7191d61bab42711c45d532019f10"), looks := false }, kinds := [], alts := [], laidByText := true, laidKinds := [.data, .data, .data, .listed, .data], laidTests := true, laidLooks := .later }
def RegTellsCardSaid : Prop := Claim7.holds Tryd.pinned (.plain (OpenSpec.ofChange regTellsSpec)) regTellsCard

/-- THE TIED CARD OF 'linotypelaw03.RegKnown'. -/
def regKnownCard : Claim7 := { stood := { row := regKnownRow, standIns := [], harness := (true, "107b3767e44ae49e2391f24c1301e4868cbf7191d61bab42711c45d532019f10"), looks := false }, kinds := [], alts := [], laidByText := true, laidKinds := [.listed, .data], laidTests := true, laidLooks := .later }
def RegKnownCardSaid : Prop := Claim7.holds Tryd.pinned (.plain (OpenSpec.ofChange regKnownSpec)) regKnownCard

/-- THE TIED CARD OF 'linotypelaw03.RegBack'. -/
def regBackCard : Claim7 := { stood := { row := regBackRow, standIns := [], harness := (true, "107b3767e44ae49e2391f24c1301e4868cbf7191d61bab42711c45d532019f10"), looks := false }, kinds := [], alts := [], laidByText := true, laidKinds := [.listed, .data], laidTests := true, laidLooks := .later }
def RegBackCardSaid : Prop := Claim7.holds Tryd.pinned (.plain (OpenSpec.ofChange regBackSpec)) regBackCard

/-- THE TIED CARD OF 'linotypelaw03.RegApart'. -/
def regApartCard : Claim7 := { stood := { row := regApartRow, standIns := [], harness := (true, "107b3767e44ae49e2391f24c1301e4868cbf7191d61bab42711c45d532019f10"), looks := false }, kinds := [], alts := [], laidByText := true, laidKinds := [.listed, .data], laidTests := true, laidLooks := .later }
def RegApartCardSaid : Prop := Claim7.holds Tryd.pinned (.plain (OpenSpec.ofChange regApartSpec)) regApartCard

/-- THE SECOND FORM's CARD OF 'linotypelaw03.RegTells'. -/
def regTellsUptoCard : Claim7 := { stood := { row := regTellsUptoRow, standIns := [], harness := (true, "107b3767e44ae49e2391f24c1301e4868cbf7191d61bab42711c45d532019f10"), looks := false }, kinds := [], alts := [], laidByText := true, laidKinds := [.data, .data, .data, .listed, .data], laidTests := true, laidLooks := .later }
def RegTellsUptoCardSaid : Prop := Claim7.holds Tryd.pinned (.plain (OpenSpec.upto regTellsSpec)) regTellsUptoCard

/-- THE SECOND FORM's CARD OF 'linotypelaw03.RegKnown'. -/
def regKnownUptoCard : Claim7 := { stood := { row := regKnownUptoRow, standIns := [], harness := (true, "107b3767e44ae49e2391f24c1301e4868cbf7191d61bab42711c45d532019f10"), looks := false }, kinds := [], alts := [], laidByText := true, laidKinds := [.listed, .data], laidTests := true, laidLooks := .later }
def RegKnownUptoCardSaid : Prop := Claim7.holds Tryd.pinned (.plain (OpenSpec.upto regKnownSpec)) regKnownUptoCard

/-- THE SECOND FORM's CARD OF 'linotypelaw03.RegBack'. -/
def regBackUptoCard : Claim7 := { stood := { row := regBackUptoRow, standIns := [], harness := (true, "107b3767e44ae49e2391f24c1301e4868cbf7191d61bab42711c45d532019f10"), looks := false }, kinds := [], alts := [], laidByText := true, laidKinds := [.listed, .data], laidTests := true, laidLooks := .later }
def RegBackUptoCardSaid : Prop := Claim7.holds Tryd.pinned (.plain (OpenSpec.upto regBackSpec)) regBackUptoCard

/-- THE SECOND FORM's CARD OF 'linotypelaw03.RegApart'. -/
def regApartUptoCard : Claim7 := { stood := { row := regApartUptoRow, standIns := [], harness := (true, "107b3767e44ae49e2391f24c1301e4868cbf7191d61bab42711c45d532019f10"), looks := false }, kinds := [], alts := [], laidByText := true, laidKinds := [.listed, .data], laidTests := true, laidLooks := .later }
def RegApartUptoCardSaid : Prop := Claim7.holds Tryd.pinned (.plain (OpenSpec.upto regApartSpec)) regApartUptoCard
end Rows
end Go.Proofs.YtebcljdekhmkhaaDoor
