/-
  DERIVED. GIVEN WITH THE SEED: THE CARDS: each row of YtlagdgkjpnocfaaGreatDoorRows.lean that lists a variable, with what it lists TIED to the program's text (the seventh form; the later family's looks); each row that meets fmt, with fmt's text TOLD by the authors' own Lean function (tested against real Go, not proved from fmt's source: count such statements apart). THE CARD IS WHAT COUNTS. Prove the row's statement (the work); the ties are given (YtlagdgkjpnocfaaGreatDoorTie.lean); close each card by the builder's one call (the guide's Derived/Test/ToyasCard.lean, 'card_holds'). Laid BY PROGRAM, IN A SANDBOX (cutbox-door.mjs). By AI agents, Wed Nov 11 2026. No macro, syntax, notation, axiom, sorry.
-/
import Derived.Test.YtlagdgkjpnocfaaGreatDoorRows
import GoSem.ClaimSeven
namespace Go.Proofs.YtlagdgkjpnocfaaGreatDoor
namespace Rows

/-- THE TIED CARD OF 'rushlightlaw06.ListingLines'. -/
def listingLinesCard : Claim7 := { stood := { row := listingLinesRow, standIns := [], harness := (true, "24450f75a5ce8ec7502c1ea36cceba3bffe27c7b2e91f263714fb99e7859b3c2"), looks := true }, kinds := [], alts := [], laidByText := true, laidKinds := [.data, .data, .data, .data, .sentinel, .sentinel, .pinned], laidTests := true, laidLooks := .later }
def ListingLinesCardSaid : Prop := Claim7.holds Tryz.pinned (.plain (OpenSpec.ofChange listingLinesSpec)) listingLinesCard

/-- THE TIED CARD OF 'rushlightlaw06.ListingReads'. -/
def listingReadsCard : Claim7 := { stood := { row := listingReadsRow, standIns := [], harness := (true, "24450f75a5ce8ec7502c1ea36cceba3bffe27c7b2e91f263714fb99e7859b3c2"), looks := true }, kinds := [], alts := [], laidByText := true, laidKinds := [.data, .data, .data, .data, .sentinel, .sentinel, .pinned], laidTests := true, laidLooks := .later }
def ListingReadsCardSaid : Prop := Claim7.holds Tryz.pinned (.plain (OpenSpec.ofChange listingReadsSpec)) listingReadsCard

/-- THE TIED CARD OF 'rushlightlaw06.ListingTexts'. -/
def listingTextsCard : Claim7 := { stood := { row := listingTextsRow, standIns := [], harness := (true, "24450f75a5ce8ec7502c1ea36cceba3bffe27c7b2e91f263714fb99e7859b3c2"), looks := true }, kinds := [], alts := [], laidByText := true, laidKinds := [.data, .data, .data, .data, .sentinel, .sentinel, .pinned], laidTests := true, laidLooks := .later }
def ListingTextsCardSaid : Prop := Claim7.holds Tryz.pinned (.plain (OpenSpec.ofChange listingTextsSpec)) listingTextsCard

/-- THE TIED CARD OF 'rushlightlaw06.ListingWords'. -/
def listingWordsCard : Claim7 := { stood := { row := listingWordsRow, standIns := [], harness := (true, "24450f75a5ce8ec7502c1ea36cceba3bffe27c7b2e91f263714fb99e7859b3c2"), looks := true }, kinds := [], alts := [], laidByText := true, laidKinds := [.data, .data, .data, .data, .sentinel, .sentinel, .pinned], laidTests := true, laidLooks := .later }
def ListingWordsCardSaid : Prop := Claim7.holds Tryz.pinned (.plain (OpenSpec.ofChange listingWordsSpec)) listingWordsCard

/-- THE TIED CARD OF 'rushlightlaw06.ListingLong'. -/
def listingLongCard : Claim7 := { stood := { row := listingLongRow, standIns := [], harness := (true, "24450f75a5ce8ec7502c1ea36cceba3bffe27c7b2e91f263714fb99e7859b3c2"), looks := true }, kinds := [], alts := [], laidByText := true, laidKinds := [.data, .data, .data, .data, .sentinel, .sentinel, .pinned], laidTests := true, laidLooks := .later }
def ListingLongCardSaid : Prop := Claim7.holds Tryz.pinned (.plain (OpenSpec.ofChange listingLongSpec)) listingLongCard

/-- THE SECOND FORM's CARD OF 'rushlightlaw06.ListingLines'. -/
def listingLinesUptoCard : Claim7 := { stood := { row := listingLinesUptoRow, standIns := [], harness := (true, "24450f75a5ce8ec7502c1ea36cceba3bffe27c7b2e91f263714fb99e7859b3c2"), looks := true }, kinds := [], alts := [], laidByText := true, laidKinds := [.data, .data, .data, .data, .sentinel, .sentinel, .pinned], laidTests := true, laidLooks := .later }
def ListingLinesUptoCardSaid : Prop := Claim7.holds Tryz.pinned (.plain (OpenSpec.upto listingLinesSpec)) listingLinesUptoCard

/-- THE SECOND FORM's CARD OF 'rushlightlaw06.ListingReads'. -/
def listingReadsUptoCard : Claim7 := { stood := { row := listingReadsUptoRow, standIns := [], harness := (true, "24450f75a5ce8ec7502c1ea36cceba3bffe27c7b2e91f263714fb99e7859b3c2"), looks := true }, kinds := [], alts := [], laidByText := true, laidKinds := [.data, .data, .data, .data, .sentinel, .sentinel, .pinned], laidTests := true, laidLooks := .later }
def ListingReadsUptoCardSaid : Prop := Claim7.holds Tryz.pinned (.plain (OpenSpec.upto listingReadsSpec)) listingReadsUptoCard

/-- THE SECOND FORM's CARD OF 'rushlightlaw06.ListingTexts'. -/
def listingTextsUptoCard : Claim7 := { stood := { row := listingTextsUptoRow, standIns := [], harness := (true, "24450f75a5ce8ec7502c1ea36cceba3bffe27c7b2e91f263714fb99e7859b3c2"), looks := true }, kinds := [], alts := [], laidByText := true, laidKinds := [.data, .data, .data, .data, .sentinel, .sentinel, .pinned], laidTests := true, laidLooks := .later }
def ListingTextsUptoCardSaid : Prop := Claim7.holds Tryz.pinned (.plain (OpenSpec.upto listingTextsSpec)) listingTextsUptoCard

/-- THE SECOND FORM's CARD OF 'rushlightlaw06.ListingWords'. -/
def listingWordsUptoCard : Claim7 := { stood := { row := listingWordsUptoRow, standIns := [], harness := (true, "24450f75a5ce8ec7502c1ea36cceba3bffe27c7b2e91f263714fb99e7859b3c2"), looks := true }, kinds := [], alts := [], laidByText := true, laidKinds := [.data, .data, .data, .data, .sentinel, .sentinel, .pinned], laidTests := true, laidLooks := .later }
def ListingWordsUptoCardSaid : Prop := Claim7.holds Tryz.pinned (.plain (OpenSpec.upto listingWordsSpec)) listingWordsUptoCard

/-- THE SECOND FORM's CARD OF 'rushlightlaw06.ListingLong'. -/
def listingLongUptoCard : Claim7 := { stood := { row := listingLongUptoRow, standIns := [], harness := (true, "24450f75a5ce8ec7502c1ea36cceba3bffe27c7b2e91f263714fb99e7859b3c2"), looks := true }, kinds := [], alts := [], laidByText := true, laidKinds := [.data, .data, .data, .data, .sentinel, .sentinel, .pinned], laidTests := true, laidLooks := .later }
def ListingLongUptoCardSaid : Prop := Claim7.holds Tryz.pinned (.plain (OpenSpec.upto listingLongSpec)) listingLongUptoCard
end Rows
end Go.Proofs.YtlagdgkjpnocfaaGreatDoor
