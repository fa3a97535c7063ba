/-
  DERIVED. GIVEN WITH THE SEED: THE CARDS: each row of YtilijmnagcgjjarDoorRows.lean that lists a variable, with what it lists TIED to the program's text (the seventh form; the later family's looks); each row that meets fmt, with fmt's text TOLD by the authors' own Lean function (tested against real Go, not proved from fmt's source: count such statements apart). THE CARD IS WHAT COUNTS. Prove the row's statement (the work); the ties are given (YtilijmnagcgjjarDoorTie.lean); close each card by the builder's one call (the guide's Derived/Test/ToyasCard.lean, 'card_holds'). Laid BY PROGRAM, IN A SANDBOX (cutbox-door.mjs). By AI agents, Wed Nov 11 2026. No macro, syntax, notation, axiom, sorry.
-/
import Derived.Test.YtilijmnagcgjjarDoorRows
import GoSem.ClaimSeven
namespace Go.Proofs.YtilijmnagcgjjarDoor
namespace Rows

/-- THE TIED CARD OF 'laws.FnExactSumZeros'. -/
def fnExactSumZerosCard : Claim7 := { stood := { row := fnExactSumZerosRow, standIns := [], harness := (true, "aba2bb14587e9d1c394512fe04b772fa637d603e95475e3273e60e7fd03e6a7b"), looks := false }, kinds := [], alts := [], laidByText := true, laidKinds := [.data], laidTests := true, laidLooks := .later }
def FnExactSumZerosCardSaid : Prop := Claim7.holds Tryd.pinned (.plain (OpenSpec.ofChange fnExactSumZerosSpec)) fnExactSumZerosCard

/-- THE SECOND FORM's CARD OF 'laws.FnExactSumZeros'. -/
def fnExactSumZerosUptoCard : Claim7 := { stood := { row := fnExactSumZerosUptoRow, standIns := [], harness := (true, "aba2bb14587e9d1c394512fe04b772fa637d603e95475e3273e60e7fd03e6a7b"), looks := false }, kinds := [], alts := [], laidByText := true, laidKinds := [.data], laidTests := true, laidLooks := .later }
def FnExactSumZerosUptoCardSaid : Prop := Claim7.holds Tryd.pinned (.plain (OpenSpec.upto fnExactSumZerosSpec)) fnExactSumZerosUptoCard
end Rows
end Go.Proofs.YtilijmnagcgjjarDoor
