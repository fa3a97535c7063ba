/-
  DERIVED. GIVEN WITH THE SEED: THE CARDS: each row of YtilijmnagcgjjaqDoorRows.lean that lists a variable, with what it lists TIED to the program's text (the seventh form; the later family's looks); each row that meets fmt, with fmt's text TOLD by the authors' own Lean function (tested against real Go, not proved from fmt's source: count such statements apart). THE CARD IS WHAT COUNTS. Prove the row's statement (the work); the ties are given (YtilijmnagcgjjaqDoorTie.lean); close each card by the builder's one call (the guide's Derived/Test/ToyasCard.lean, 'card_holds'). Laid BY PROGRAM, IN A SANDBOX (cutbox-door.mjs). By AI agents, Wed Nov 11 2026. No macro, syntax, notation, axiom, sorry.
-/
import Derived.Test.YtilijmnagcgjjaqDoorRows
import GoSem.ClaimSeven
namespace Go.Proofs.YtilijmnagcgjjaqDoor
namespace Rows

/-- THE TIED CARD OF 'laws.FnExactSumOf'. -/
def fnExactSumOfCard : Claim7 := { stood := { row := fnExactSumOfRow, standIns := [], harness := (true, "16bb764f763523fc509ac376747875b812fddb1511b78feadbf844aabd28725e"), looks := false }, kinds := [], alts := [], laidByText := true, laidKinds := [.data], laidTests := true, laidLooks := .later }
def FnExactSumOfCardSaid : Prop := Claim7.holds Tryd.pinned (.plain (OpenSpec.ofChange fnExactSumOfSpec)) fnExactSumOfCard

/-- THE TIED CARD OF 'laws.FnExactSumOn'. -/
def fnExactSumOnCard : Claim7 := { stood := { row := fnExactSumOnRow, standIns := [], harness := (true, "16bb764f763523fc509ac376747875b812fddb1511b78feadbf844aabd28725e"), looks := false }, kinds := [], alts := [], laidByText := true, laidKinds := [.data], laidTests := true, laidLooks := .later }
def FnExactSumOnCardSaid : Prop := Claim7.holds Tryd.pinned (.plain (OpenSpec.ofChange fnExactSumOnSpec)) fnExactSumOnCard

/-- THE TIED CARD OF 'laws.FnExactWithSum'. -/
def fnExactWithSumCard : Claim7 := { stood := { row := fnExactWithSumRow, standIns := [], harness := (true, "16bb764f763523fc509ac376747875b812fddb1511b78feadbf844aabd28725e"), looks := false }, kinds := [], alts := [], laidByText := true, laidKinds := [.data], laidTests := true, laidLooks := .later }
def FnExactWithSumCardSaid : Prop := Claim7.holds Tryd.pinned (.plain (OpenSpec.ofChange fnExactWithSumSpec)) fnExactWithSumCard

/-- THE TIED CARD OF 'laws.FnExactCheckSum'. -/
def fnExactCheckSumCard : Claim7 := { stood := { row := fnExactCheckSumRow, standIns := [], harness := (true, "16bb764f763523fc509ac376747875b812fddb1511b78feadbf844aabd28725e"), looks := false }, kinds := [], alts := [], laidByText := true, laidKinds := [.data], laidTests := true, laidLooks := .later }
def FnExactCheckSumCardSaid : Prop := Claim7.holds Tryd.pinned (.plain (OpenSpec.ofChange fnExactCheckSumSpec)) fnExactCheckSumCard

/-- THE TIED CARD OF 'laws.FnExactSpanOf'. -/
def fnExactSpanOfCard : Claim7 := { stood := { row := fnExactSpanOfRow, standIns := [], harness := (true, "16bb764f763523fc509ac376747875b812fddb1511b78feadbf844aabd28725e"), looks := false }, kinds := [], alts := [], laidByText := true, laidKinds := [.data, .data], laidTests := true, laidLooks := .later }
def FnExactSpanOfCardSaid : Prop := Claim7.holds Tryd.pinned (.plain (OpenSpec.ofChange fnExactSpanOfSpec)) fnExactSpanOfCard

/-- THE SECOND FORM's CARD OF 'laws.FnExactSumOf'. -/
def fnExactSumOfUptoCard : Claim7 := { stood := { row := fnExactSumOfUptoRow, standIns := [], harness := (true, "16bb764f763523fc509ac376747875b812fddb1511b78feadbf844aabd28725e"), looks := false }, kinds := [], alts := [], laidByText := true, laidKinds := [.data], laidTests := true, laidLooks := .later }
def FnExactSumOfUptoCardSaid : Prop := Claim7.holds Tryd.pinned (.plain (OpenSpec.upto fnExactSumOfSpec)) fnExactSumOfUptoCard

/-- THE SECOND FORM's CARD OF 'laws.FnExactSumOn'. -/
def fnExactSumOnUptoCard : Claim7 := { stood := { row := fnExactSumOnUptoRow, standIns := [], harness := (true, "16bb764f763523fc509ac376747875b812fddb1511b78feadbf844aabd28725e"), looks := false }, kinds := [], alts := [], laidByText := true, laidKinds := [.data], laidTests := true, laidLooks := .later }
def FnExactSumOnUptoCardSaid : Prop := Claim7.holds Tryd.pinned (.plain (OpenSpec.upto fnExactSumOnSpec)) fnExactSumOnUptoCard

/-- THE SECOND FORM's CARD OF 'laws.FnExactWithSum'. -/
def fnExactWithSumUptoCard : Claim7 := { stood := { row := fnExactWithSumUptoRow, standIns := [], harness := (true, "16bb764f763523fc509ac376747875b812fddb1511b78feadbf844aabd28725e"), looks := false }, kinds := [], alts := [], laidByText := true, laidKinds := [.data], laidTests := true, laidLooks := .later }
def FnExactWithSumUptoCardSaid : Prop := Claim7.holds Tryd.pinned (.plain (OpenSpec.upto fnExactWithSumSpec)) fnExactWithSumUptoCard

/-- THE SECOND FORM's CARD OF 'laws.FnExactCheckSum'. -/
def fnExactCheckSumUptoCard : Claim7 := { stood := { row := fnExactCheckSumUptoRow, standIns := [], harness := (true, "16bb764f763523fc509ac376747875b812fddb1511b78feadbf844aabd28725e"), looks := false }, kinds := [], alts := [], laidByText := true, laidKinds := [.data], laidTests := true, laidLooks := .later }
def FnExactCheckSumUptoCardSaid : Prop := Claim7.holds Tryd.pinned (.plain (OpenSpec.upto fnExactCheckSumSpec)) fnExactCheckSumUptoCard

/-- THE SECOND FORM's CARD OF 'laws.FnExactSpanOf'. -/
def fnExactSpanOfUptoCard : Claim7 := { stood := { row := fnExactSpanOfUptoRow, standIns := [], harness := (true, "16bb764f763523fc509ac376747875b812fddb1511b78feadbf844aabd28725e"), looks := false }, kinds := [], alts := [], laidByText := true, laidKinds := [.data, .data], laidTests := true, laidLooks := .later }
def FnExactSpanOfUptoCardSaid : Prop := Claim7.holds Tryd.pinned (.plain (OpenSpec.upto fnExactSpanOfSpec)) fnExactSpanOfUptoCard
end Rows
end Go.Proofs.YtilijmnagcgjjaqDoor
