/-
  No cell of these rows narrows 'for every input' (looked for: loops, veiled, ifaces, maps, wideKeys, modest, calm, conditions, laid).
  DERIVED. THE GIVEN ROWS OF THIS SEAT. 6 by the template 'for every input the law returns true; each argument reads behind the call as it read before'; 0 by the template 'total and deterministic' (their statements: YtgompioaknfjgaaTotals.lean).
  GIVEN WITH THE SEED: the statements are not yours to turn. If you find one false, say at which input.
  Laid BY PROGRAM, IN A SANDBOX (cutbox-rows.mjs): the forced cells as the released guide's own fill.sh prints them over the translation 45e962113b76aa56… (all of the seat's roots in one cut). By AI agents, Wed Nov 11 2026. No macro, syntax, notation, axiom, sorry.
-/
import Derived.Test.YtgompioaknfjgaaChecked
import GoSem.Claim
import GoSem.ClaimJoined
import GoSem.ClaimMapViews
import Derived.JoinedTies
import Derived.KernelRfl
namespace Go.Proofs.Ytgompioaknfjgaa
/- THE CELL 'sum', in the pinned program and in every row, IS THE sha256 OF THE DUMP (.gsa) THAT YtgompioaknfjgaaProg.lean LOADS. Nothing in Lean hashes anything: it is a label: what it is worth is what the hold of that sum in a sandbox is worth. -/
noncomputable def Try.pinned : Pinned := { name := "ytgompioaknfjgaa", sum := "45e962113b76aa56522aa20606a168c355500b5729a89bcf2bd356a875509213", checked := Try.checked }
namespace Rows
def none {H : Type} : Left H := { results := [], args := [] }

/-- 'laws.FnExactNewWorks': WHATEVER THE INPUT: true; the input reads as it did. -/
def fnExactNewWorksSpec : ChangeSpec := { name := "fnExactNewWorks", fn := fun _ => fun
  | [] => { results := [.lit (.bool true)], args := [] }
  | _ => none }
def fnExactNewWorksRow : OpenClaim := { program := "ytgompioaknfjgaa", sum := "45e962113b76aa56522aa20606a168c355500b5729a89bcf2bd356a875509213", func := "loop.example/g00541/laws.FnExactNewWorks", spec := "fnExactNewWorks", apart := false }
def FnExactNewWorksSaid : Prop := fnExactNewWorksRow.holds Try.pinned (OpenSpec.ofChange fnExactNewWorksSpec)

/-- ITS FALSE NEIGHBOUR: 'it returns false'. Refute it at one input. -/
def fnExactNewWorksWrong : ChangeSpec := { name := "fnExactNewWorks", fn := fun _ => fun
  | [] => { results := [.lit (.bool false)], args := [] }
  | _ => none }
def FnExactNewWorksWrongFalsely : Prop := fnExactNewWorksRow.holds Try.pinned (OpenSpec.ofChange fnExactNewWorksWrong)

/-- 'laws.FnExactGoodWorks': WHATEVER THE INPUT: true; the input reads as it did. -/
def fnExactGoodWorksSpec : ChangeSpec := { name := "fnExactGoodWorks", fn := fun _ => fun
  | [d] => { results := [.lit (.bool true)], args := [d] }
  | _ => none }
def fnExactGoodWorksRow : OpenClaim := { program := "ytgompioaknfjgaa", sum := "45e962113b76aa56522aa20606a168c355500b5729a89bcf2bd356a875509213", func := "loop.example/g00541/laws.FnExactGoodWorks", spec := "fnExactGoodWorks", unfollowed := true, recurses := true, apart := false }
def FnExactGoodWorksSaid : Prop := fnExactGoodWorksRow.holds Try.pinned (OpenSpec.ofChange fnExactGoodWorksSpec)

/-- ITS FALSE NEIGHBOUR: 'it returns false'. Refute it at one input. -/
def fnExactGoodWorksWrong : ChangeSpec := { name := "fnExactGoodWorks", fn := fun _ => fun
  | [d] => { results := [.lit (.bool false)], args := [d] }
  | _ => none }
def FnExactGoodWorksWrongFalsely : Prop := fnExactGoodWorksRow.holds Try.pinned (OpenSpec.ofChange fnExactGoodWorksWrong)

/-- 'laws.FnExactStepWorks': WHATEVER THE INPUT: true; the input reads as it did. -/
def fnExactStepWorksSpec : ChangeSpec := { name := "fnExactStepWorks", fn := fun _ => fun
  | [d1, d2] => { results := [.lit (.bool true)], args := [d1, d2] }
  | _ => none }
def fnExactStepWorksRow : OpenClaim := { program := "ytgompioaknfjgaa", sum := "45e962113b76aa56522aa20606a168c355500b5729a89bcf2bd356a875509213", func := "loop.example/g00541/laws.FnExactStepWorks", spec := "fnExactStepWorks", unfollowed := true, recurses := true, apart := false }
def FnExactStepWorksSaid : Prop := fnExactStepWorksRow.holds Try.pinned (OpenSpec.ofChange fnExactStepWorksSpec)

/-- ITS FALSE NEIGHBOUR: 'it returns false'. Refute it at one input. -/
def fnExactStepWorksWrong : ChangeSpec := { name := "fnExactStepWorks", fn := fun _ => fun
  | [d1, d2] => { results := [.lit (.bool false)], args := [d1, d2] }
  | _ => none }
def FnExactStepWorksWrongFalsely : Prop := fnExactStepWorksRow.holds Try.pinned (OpenSpec.ofChange fnExactStepWorksWrong)

/-- 'laws.FnExactPlayWorks': WHATEVER THE INPUT: true; the input reads as it did. -/
def fnExactPlayWorksSpec : ChangeSpec := { name := "fnExactPlayWorks", fn := fun _ => fun
  | [d] => { results := [.lit (.bool true)], args := [d] }
  | _ => none }
def fnExactPlayWorksRow : OpenClaim := { program := "ytgompioaknfjgaa", sum := "45e962113b76aa56522aa20606a168c355500b5729a89bcf2bd356a875509213", func := "loop.example/g00541/laws.FnExactPlayWorks", spec := "fnExactPlayWorks", unfollowed := true, recurses := true, apart := false }
def FnExactPlayWorksSaid : Prop := fnExactPlayWorksRow.holds Try.pinned (OpenSpec.ofChange fnExactPlayWorksSpec)

/-- ITS FALSE NEIGHBOUR: 'it returns false'. Refute it at one input. -/
def fnExactPlayWorksWrong : ChangeSpec := { name := "fnExactPlayWorks", fn := fun _ => fun
  | [d] => { results := [.lit (.bool false)], args := [d] }
  | _ => none }
def FnExactPlayWorksWrongFalsely : Prop := fnExactPlayWorksRow.holds Try.pinned (OpenSpec.ofChange fnExactPlayWorksWrong)

/-- 'laws.FnExactRecoverWorks': WHATEVER THE INPUT: true; the input reads as it did. -/
def fnExactRecoverWorksSpec : ChangeSpec := { name := "fnExactRecoverWorks", fn := fun _ => fun
  | [d] => { results := [.lit (.bool true)], args := [d] }
  | _ => none }
def fnExactRecoverWorksRow : OpenClaim := { program := "ytgompioaknfjgaa", sum := "45e962113b76aa56522aa20606a168c355500b5729a89bcf2bd356a875509213", func := "loop.example/g00541/laws.FnExactRecoverWorks", spec := "fnExactRecoverWorks", unfollowed := true, recurses := true, apart := false }
def FnExactRecoverWorksSaid : Prop := fnExactRecoverWorksRow.holds Try.pinned (OpenSpec.ofChange fnExactRecoverWorksSpec)

/-- ITS FALSE NEIGHBOUR: 'it returns false'. Refute it at one input. -/
def fnExactRecoverWorksWrong : ChangeSpec := { name := "fnExactRecoverWorks", fn := fun _ => fun
  | [d] => { results := [.lit (.bool false)], args := [d] }
  | _ => none }
def FnExactRecoverWorksWrongFalsely : Prop := fnExactRecoverWorksRow.holds Try.pinned (OpenSpec.ofChange fnExactRecoverWorksWrong)

/-- 'laws.FnExactDoneBy': WHATEVER THE INPUT: true; the input reads as it did. -/
def fnExactDoneBySpec : ChangeSpec := { name := "fnExactDoneBy", fn := fun _ => fun
  | [d] => { results := [.lit (.bool true)], args := [d] }
  | _ => none }
def fnExactDoneByRow : OpenClaim := { program := "ytgompioaknfjgaa", sum := "45e962113b76aa56522aa20606a168c355500b5729a89bcf2bd356a875509213", func := "loop.example/g00541/laws.FnExactDoneBy", spec := "fnExactDoneBy", recurses := true, apart := false }
def FnExactDoneBySaid : Prop := fnExactDoneByRow.holds Try.pinned (OpenSpec.ofChange fnExactDoneBySpec)

/-- ITS FALSE NEIGHBOUR: 'it returns false'. Refute it at one input. -/
def fnExactDoneByWrong : ChangeSpec := { name := "fnExactDoneBy", fn := fun _ => fun
  | [d] => { results := [.lit (.bool false)], args := [d] }
  | _ => none }
def FnExactDoneByWrongFalsely : Prop := fnExactDoneByRow.holds Try.pinned (OpenSpec.ofChange fnExactDoneByWrong)

/- THE SECOND FORM. 'bulk': how many values and letters a reading holds, each counted each time it is reached (what is shared counts as often as it is met; a slice's spare places count too). A statement '..UptoSaid' is the law's where the arguments, and the package variables that the reading takes, are together of bulk at most 1048576: NARROWER than '..Said'. Prove '..Said' where nothing that the law and all that it calls make is longer than what came in: it says more and counts as full. Else prove '..UptoSaid'. A law counts once. -/
mutual
def uptoBulk {H : Type} : DataW H → Nat
  | .lit (.string bytes) => bytes.length + 1
  | .lit _ => 1
  | .nil => 1
  | .ptr d => uptoBulk d + 1
  | .slice elems spare => uptoBulkAll elems + uptoBulkAll spare + 1
  | .agg parts => uptoBulkAll parts + 1
  | .iface _ d => uptoBulk d + 1
  | .map entries => uptoBulkEntries entries + 1
  | .held _ => 1
def uptoBulkAll {H : Type} : List (DataW H) → Nat
  | [] => 0
  | d :: r => uptoBulk d + uptoBulkAll r
def uptoBulkEntries {H : Type} : List (Lit × DataW H) → Nat
  | [] => 0
  | x :: r => uptoBulkEntry x + uptoBulkEntries r
def uptoBulkEntry {H : Type} : Lit × DataW H → Nat
  | (.string bytes, d) => bytes.length + uptoBulk d + 1
  | (_, d) => uptoBulk d + 1
 end
def uptoSmall : (H : Type) → List (DataW H) → Bool := fun _ ds => decide (uptoBulkAll ds ≤ 1048576)
def OpenSpec.upto (s : _root_.Go.ChangeSpec) : _root_.Go.OpenSpec := { _root_.Go.OpenSpec.ofChange s with cond := some uptoSmall }

/-- 'laws.FnExactNewWorks', WHERE WHAT IT READS IS OF BULK AT MOST 1048576: true; the input reads as it did. -/
def fnExactNewWorksUptoRow : OpenClaim := { program := "ytgompioaknfjgaa", sum := "45e962113b76aa56522aa20606a168c355500b5729a89bcf2bd356a875509213", func := "loop.example/g00541/laws.FnExactNewWorks", spec := "fnExactNewWorks", apart := false, narrowed := true }
def FnExactNewWorksUptoSaid : Prop := fnExactNewWorksUptoRow.holds Try.pinned (OpenSpec.upto fnExactNewWorksSpec)

/-- 'laws.FnExactGoodWorks', WHERE WHAT IT READS IS OF BULK AT MOST 1048576: true; the input reads as it did. -/
def fnExactGoodWorksUptoRow : OpenClaim := { program := "ytgompioaknfjgaa", sum := "45e962113b76aa56522aa20606a168c355500b5729a89bcf2bd356a875509213", func := "loop.example/g00541/laws.FnExactGoodWorks", spec := "fnExactGoodWorks", unfollowed := true, recurses := true, apart := false, narrowed := true }
def FnExactGoodWorksUptoSaid : Prop := fnExactGoodWorksUptoRow.holds Try.pinned (OpenSpec.upto fnExactGoodWorksSpec)

/-- 'laws.FnExactStepWorks', WHERE WHAT IT READS IS OF BULK AT MOST 1048576: true; the input reads as it did. -/
def fnExactStepWorksUptoRow : OpenClaim := { program := "ytgompioaknfjgaa", sum := "45e962113b76aa56522aa20606a168c355500b5729a89bcf2bd356a875509213", func := "loop.example/g00541/laws.FnExactStepWorks", spec := "fnExactStepWorks", unfollowed := true, recurses := true, apart := false, narrowed := true }
def FnExactStepWorksUptoSaid : Prop := fnExactStepWorksUptoRow.holds Try.pinned (OpenSpec.upto fnExactStepWorksSpec)

/-- 'laws.FnExactPlayWorks', WHERE WHAT IT READS IS OF BULK AT MOST 1048576: true; the input reads as it did. -/
def fnExactPlayWorksUptoRow : OpenClaim := { program := "ytgompioaknfjgaa", sum := "45e962113b76aa56522aa20606a168c355500b5729a89bcf2bd356a875509213", func := "loop.example/g00541/laws.FnExactPlayWorks", spec := "fnExactPlayWorks", unfollowed := true, recurses := true, apart := false, narrowed := true }
def FnExactPlayWorksUptoSaid : Prop := fnExactPlayWorksUptoRow.holds Try.pinned (OpenSpec.upto fnExactPlayWorksSpec)

/-- 'laws.FnExactRecoverWorks', WHERE WHAT IT READS IS OF BULK AT MOST 1048576: true; the input reads as it did. -/
def fnExactRecoverWorksUptoRow : OpenClaim := { program := "ytgompioaknfjgaa", sum := "45e962113b76aa56522aa20606a168c355500b5729a89bcf2bd356a875509213", func := "loop.example/g00541/laws.FnExactRecoverWorks", spec := "fnExactRecoverWorks", unfollowed := true, recurses := true, apart := false, narrowed := true }
def FnExactRecoverWorksUptoSaid : Prop := fnExactRecoverWorksUptoRow.holds Try.pinned (OpenSpec.upto fnExactRecoverWorksSpec)

/-- 'laws.FnExactDoneBy', WHERE WHAT IT READS IS OF BULK AT MOST 1048576: true; the input reads as it did. -/
def fnExactDoneByUptoRow : OpenClaim := { program := "ytgompioaknfjgaa", sum := "45e962113b76aa56522aa20606a168c355500b5729a89bcf2bd356a875509213", func := "loop.example/g00541/laws.FnExactDoneBy", spec := "fnExactDoneBy", recurses := true, apart := false, narrowed := true }
def FnExactDoneByUptoSaid : Prop := fnExactDoneByUptoRow.holds Try.pinned (OpenSpec.upto fnExactDoneBySpec)

end Rows
end Go.Proofs.Ytgompioaknfjgaa
