/-
  DERIVED. GIVEN WITH THE SEED: THE CARDS: each row of YtbbnbkofomaefaaDoorRows.lean that lists a variable, with what it lists TIED to the program's text (the seventh form; the later family's looks); each row that meets fmt, with fmt's text TOLD by the authors' own Lean function (tested against real Go, not proved from fmt's source: count such statements apart). THE CARD IS WHAT COUNTS. Prove the row's statement (the work); the ties are given (YtbbnbkofomaefaaDoorTie.lean); close each card by the builder's one call (the guide's Derived/Test/ToyasCard.lean, 'card_holds'). Laid BY PROGRAM, IN A SANDBOX (cutbox-door.mjs). By AI agents, Wed Nov 11 2026. No macro, syntax, notation, axiom, sorry.
-/
import Derived.Test.YtbbnbkofomaefaaDoorRows
import GoSem.ClaimSeven
namespace Go.Proofs.YtbbnbkofomaefaaDoor
namespace Rows

/-- THE TIED CARD OF 'laws.FnExactRecordText'. -/
def fnExactRecordTextCard : Claim7 := { stood := { row := fnExactRecordTextRow, standIns := [], harness := (true, "c673b6d217213bdf3e1745c5da760df36a7f93f6c1e0856ef3e76231c69adf34"), looks := false }, kinds := [], alts := [], laidByText := true, laidKinds := [.data], laidTests := true, laidLooks := .later }
def FnExactRecordTextCardSaid : Prop := Claim7.holds Tryd.pinned (.plain (OpenSpec.ofChange fnExactRecordTextSpec)) fnExactRecordTextCard

/-- THE TIED CARD OF 'laws.FnExactReadRecord'. -/
def fnExactReadRecordCard : Claim7 := { stood := { row := fnExactReadRecordRow, standIns := [], harness := (true, "c673b6d217213bdf3e1745c5da760df36a7f93f6c1e0856ef3e76231c69adf34"), looks := false }, kinds := [], alts := [], laidByText := true, laidKinds := [.data], laidTests := true, laidLooks := .later }
def FnExactReadRecordCardSaid : Prop := Claim7.holds Tryd.pinned (.plain (OpenSpec.ofChange fnExactReadRecordSpec)) fnExactReadRecordCard

/-- THE TIED CARD OF 'laws.FnExactSegmentText'. -/
def fnExactSegmentTextCard : Claim7 := { stood := { row := fnExactSegmentTextRow, standIns := [], harness := (true, "c673b6d217213bdf3e1745c5da760df36a7f93f6c1e0856ef3e76231c69adf34"), looks := false }, kinds := [], alts := [], laidByText := true, laidKinds := [.data], laidTests := true, laidLooks := .later }
def FnExactSegmentTextCardSaid : Prop := Claim7.holds Tryd.pinned (.plain (OpenSpec.ofChange fnExactSegmentTextSpec)) fnExactSegmentTextCard

/-- THE TIED CARD OF 'laws.FnExactReadSegment'. -/
def fnExactReadSegmentCard : Claim7 := { stood := { row := fnExactReadSegmentRow, standIns := [], harness := (true, "c673b6d217213bdf3e1745c5da760df36a7f93f6c1e0856ef3e76231c69adf34"), looks := false }, kinds := [], alts := [], laidByText := true, laidKinds := [.data], laidTests := true, laidLooks := .later }
def FnExactReadSegmentCardSaid : Prop := Claim7.holds Tryd.pinned (.plain (OpenSpec.ofChange fnExactReadSegmentSpec)) fnExactReadSegmentCard

/-- THE TIED CARD OF 'laws.FnExactTornSegment'. -/
def fnExactTornSegmentCard : Claim7 := { stood := { row := fnExactTornSegmentRow, standIns := [], harness := (true, "c673b6d217213bdf3e1745c5da760df36a7f93f6c1e0856ef3e76231c69adf34"), looks := false }, kinds := [], alts := [], laidByText := true, laidKinds := [.data], laidTests := true, laidLooks := .later }
def FnExactTornSegmentCardSaid : Prop := Claim7.holds Tryd.pinned (.plain (OpenSpec.ofChange fnExactTornSegmentSpec)) fnExactTornSegmentCard

/-- THE SECOND FORM's CARD OF 'laws.FnExactRecordText'. -/
def fnExactRecordTextUptoCard : Claim7 := { stood := { row := fnExactRecordTextUptoRow, standIns := [], harness := (true, "c673b6d217213bdf3e1745c5da760df36a7f93f6c1e0856ef3e76231c69adf34"), looks := false }, kinds := [], alts := [], laidByText := true, laidKinds := [.data], laidTests := true, laidLooks := .later }
def FnExactRecordTextUptoCardSaid : Prop := Claim7.holds Tryd.pinned (.plain (OpenSpec.upto fnExactRecordTextSpec)) fnExactRecordTextUptoCard

/-- THE SECOND FORM's CARD OF 'laws.FnExactReadRecord'. -/
def fnExactReadRecordUptoCard : Claim7 := { stood := { row := fnExactReadRecordUptoRow, standIns := [], harness := (true, "c673b6d217213bdf3e1745c5da760df36a7f93f6c1e0856ef3e76231c69adf34"), looks := false }, kinds := [], alts := [], laidByText := true, laidKinds := [.data], laidTests := true, laidLooks := .later }
def FnExactReadRecordUptoCardSaid : Prop := Claim7.holds Tryd.pinned (.plain (OpenSpec.upto fnExactReadRecordSpec)) fnExactReadRecordUptoCard

/-- THE SECOND FORM's CARD OF 'laws.FnExactSegmentText'. -/
def fnExactSegmentTextUptoCard : Claim7 := { stood := { row := fnExactSegmentTextUptoRow, standIns := [], harness := (true, "c673b6d217213bdf3e1745c5da760df36a7f93f6c1e0856ef3e76231c69adf34"), looks := false }, kinds := [], alts := [], laidByText := true, laidKinds := [.data], laidTests := true, laidLooks := .later }
def FnExactSegmentTextUptoCardSaid : Prop := Claim7.holds Tryd.pinned (.plain (OpenSpec.upto fnExactSegmentTextSpec)) fnExactSegmentTextUptoCard

/-- THE SECOND FORM's CARD OF 'laws.FnExactReadSegment'. -/
def fnExactReadSegmentUptoCard : Claim7 := { stood := { row := fnExactReadSegmentUptoRow, standIns := [], harness := (true, "c673b6d217213bdf3e1745c5da760df36a7f93f6c1e0856ef3e76231c69adf34"), looks := false }, kinds := [], alts := [], laidByText := true, laidKinds := [.data], laidTests := true, laidLooks := .later }
def FnExactReadSegmentUptoCardSaid : Prop := Claim7.holds Tryd.pinned (.plain (OpenSpec.upto fnExactReadSegmentSpec)) fnExactReadSegmentUptoCard

/-- THE SECOND FORM's CARD OF 'laws.FnExactTornSegment'. -/
def fnExactTornSegmentUptoCard : Claim7 := { stood := { row := fnExactTornSegmentUptoRow, standIns := [], harness := (true, "c673b6d217213bdf3e1745c5da760df36a7f93f6c1e0856ef3e76231c69adf34"), looks := false }, kinds := [], alts := [], laidByText := true, laidKinds := [.data], laidTests := true, laidLooks := .later }
def FnExactTornSegmentUptoCardSaid : Prop := Claim7.holds Tryd.pinned (.plain (OpenSpec.upto fnExactTornSegmentSpec)) fnExactTornSegmentUptoCard
end Rows
end Go.Proofs.YtbbnbkofomaefaaDoor
