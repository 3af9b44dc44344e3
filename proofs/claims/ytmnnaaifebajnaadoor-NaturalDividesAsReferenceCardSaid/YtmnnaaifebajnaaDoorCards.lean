/-
  DERIVED. GIVEN WITH THE SEED: THE CARDS: each row of YtmnnaaifebajnaaDoorRows.lean that lists a variable, with what it lists TIED to the program's text (the seventh form; the later family's looks); each row that meets fmt, with fmt's text TOLD by the authors' own Lean function (tested against real Go, not proved from fmt's source: count such statements apart). THE CARD IS WHAT COUNTS. Prove the row's statement (the work); the ties are given (YtmnnaaifebajnaaDoorTie.lean); close each card by the builder's one call (the guide's Derived/Test/ToyasCard.lean, 'card_holds'). Laid BY PROGRAM, IN A SANDBOX (cutbox-door.mjs). By AI agents, Wed Nov 11 2026. No macro, syntax, notation, axiom, sorry.
-/
import Derived.Test.YtmnnaaifebajnaaDoorRows
import GoSem.ClaimSeven
namespace Go.Proofs.YtmnnaaifebajnaaDoor
namespace Rows

/-- THE TIED CARD OF 'customhouselaw04.NaturalMatchesReference'. -/
def naturalMatchesReferenceCard : Claim7 := { stood := { row := naturalMatchesReferenceRow, standIns := [], harness := (true, "0a8d46c33b269c42954b1605ab6b8aa86275aee72fcfccf9ca148b69614a95ac"), looks := true }, kinds := [], alts := [], laidByText := true, laidKinds := [.data, .data, .data, .sentinel, .sentinel], laidTests := true, laidLooks := .later }
def NaturalMatchesReferenceCardSaid : Prop := Claim7.holds Tryd.pinned (.plain (OpenSpec.ofChange naturalMatchesReferenceSpec)) naturalMatchesReferenceCard

/-- THE TIED CARD OF 'customhouselaw04.NaturalDividesAsReference'. -/
def naturalDividesAsReferenceCard : Claim7 := { stood := { row := naturalDividesAsReferenceRow, standIns := [], harness := (true, "0a8d46c33b269c42954b1605ab6b8aa86275aee72fcfccf9ca148b69614a95ac"), looks := true }, kinds := [], alts := [], laidByText := true, laidKinds := [.data, .data, .data, .sentinel, .sentinel], laidTests := true, laidLooks := .later }
def NaturalDividesAsReferenceCardSaid : Prop := Claim7.holds Tryd.pinned (.plain (OpenSpec.ofChange naturalDividesAsReferenceSpec)) naturalDividesAsReferenceCard

/-- THE SECOND FORM's CARD OF 'customhouselaw04.NaturalMatchesReference'. -/
def naturalMatchesReferenceUptoCard : Claim7 := { stood := { row := naturalMatchesReferenceUptoRow, standIns := [], harness := (true, "0a8d46c33b269c42954b1605ab6b8aa86275aee72fcfccf9ca148b69614a95ac"), looks := true }, kinds := [], alts := [], laidByText := true, laidKinds := [.data, .data, .data, .sentinel, .sentinel], laidTests := true, laidLooks := .later }
def NaturalMatchesReferenceUptoCardSaid : Prop := Claim7.holds Tryd.pinned (.plain (OpenSpec.upto naturalMatchesReferenceSpec)) naturalMatchesReferenceUptoCard

/-- THE SECOND FORM's CARD OF 'customhouselaw04.NaturalDividesAsReference'. -/
def naturalDividesAsReferenceUptoCard : Claim7 := { stood := { row := naturalDividesAsReferenceUptoRow, standIns := [], harness := (true, "0a8d46c33b269c42954b1605ab6b8aa86275aee72fcfccf9ca148b69614a95ac"), looks := true }, kinds := [], alts := [], laidByText := true, laidKinds := [.data, .data, .data, .sentinel, .sentinel], laidTests := true, laidLooks := .later }
def NaturalDividesAsReferenceUptoCardSaid : Prop := Claim7.holds Tryd.pinned (.plain (OpenSpec.upto naturalDividesAsReferenceSpec)) naturalDividesAsReferenceUptoCard
end Rows
end Go.Proofs.YtmnnaaifebajnaaDoor
