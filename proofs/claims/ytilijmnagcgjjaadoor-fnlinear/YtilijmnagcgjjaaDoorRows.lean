/-
  NARROWER THAN 'FOR EVERY INPUT', by the rows' own cells (each row's printed sentence says how): FnLinear: laid.
  DERIVED. THE GIVEN ROWS OF THIS SEAT. 1 by the template 'for every input the law returns true; each argument reads behind the call as it read before'; 0 by the template 'total and deterministic' (their statements: YtilijmnagcgjjaaDoorTotals.lean).
  GIVEN WITH THE SEED: the statements are not yours to turn. If you find one false, say at which input.
  Laid BY PROGRAM, IN A SANDBOX (cutbox-rows.mjs): the forced cells as the released guide's own fill.sh prints them over the translation 1396f6b50ab4e85c… (all of the seat's roots in one cut). By AI agents, Wed Nov 11 2026. No macro, syntax, notation, axiom, sorry.
-/
import Derived.Test.YtilijmnagcgjjaaDoorChecked
import GoSem.Claim
import GoSem.ClaimJoined
import GoSem.ClaimMapViews
import Derived.JoinedTies
import Derived.KernelRfl
namespace Go.Proofs.YtilijmnagcgjjaaDoor
/- THE CELL 'sum', in the pinned program and in every row, IS THE sha256 OF THE DUMP (.gsa) THAT YtilijmnagcgjjaaDoorProg.lean LOADS. Nothing in Lean hashes anything: it is a label: what it is worth is what the hold of that sum in a sandbox is worth. -/
noncomputable def Tryd.pinned : Pinned := { name := "ytilijmnagcgjjaadoor", sum := "1396f6b50ab4e85c55063ec1b5c8c51d58dee026a5ae7bba90b7564709417ea9", checked := Tryd.checked }
namespace Rows
def none {H : Type} : Left H := { results := [], args := [] }

/- WHAT THE LISTED PACKAGE-LEVEL VARIABLES READ AS WHEN THE CALL BEGINS. Each datum BY PROGRAM (the guide's laid-datum.mjs) off the statement by which the dump's own 'gosem.cut.vars' lays the variable. In a bare row this is a premise. The card (YtilijmnagcgjjaaDoorCards.lean) ties it to the program's text. -/
def laid_loop_example_g00541_impl_outTable {H : Type} : DataW H := .agg [.lit (.int .i64 0), .lit (.int .i64 4129), .lit (.int .i64 8258), .lit (.int .i64 12387), .lit (.int .i64 16516), .lit (.int .i64 20645), .lit (.int .i64 24774), .lit (.int .i64 28903), .lit (.int .i64 33032), .lit (.int .i64 37161), .lit (.int .i64 41290), .lit (.int .i64 45419), .lit (.int .i64 49548), .lit (.int .i64 53677), .lit (.int .i64 57806), .lit (.int .i64 61935)]

/-- 'laws.FnLinear': WHATEVER THE INPUT: true; the input reads as it did. -/
def fnLinearSpec : ChangeSpec := { name := "fnLinear", vars := ["loop.example/g00541/impl.outTable"], fn := fun _ => fun
  | [d1, d2, g1] => { results := [.lit (.bool true)], args := [d1, d2], vars := [g1] }
  | _ => none }
def fnLinearRow : OpenClaim := { program := "ytilijmnagcgjjaadoor", sum := "1396f6b50ab4e85c55063ec1b5c8c51d58dee026a5ae7bba90b7564709417ea9", func := "loop.example/g00541/laws.FnLinear", spec := "fnLinear", inPlace := ["internal/abi.NoEscape", "internal/bytealg.MakeNoZero"], named := ["loop.example/g00541/impl.outTable"], apart := false, laid := [("loop.example/g00541/impl.outTable", laid_loop_example_g00541_impl_outTable)] }
def FnLinearSaid : Prop := fnLinearRow.holds Tryd.pinned (OpenSpec.ofChange fnLinearSpec)

/-- ITS FALSE NEIGHBOUR: 'it returns false'. Refute it at one input. -/
def fnLinearWrong : ChangeSpec := { name := "fnLinear", vars := ["loop.example/g00541/impl.outTable"], fn := fun _ => fun
  | [d1, d2, g1] => { results := [.lit (.bool false)], args := [d1, d2], vars := [g1] }
  | _ => none }
def FnLinearWrongFalsely : Prop := fnLinearRow.holds Tryd.pinned (OpenSpec.ofChange fnLinearWrong)

/- THE SECOND FORM. 'bulk': how many values and letters a reading holds, each counted each time it is reached (what is shared counts as often as it is met; a slice's spare places count too). A statement '..UptoSaid' is the law's where the arguments, and the package variables that the reading takes, are together of bulk at most 1048576: NARROWER than '..Said'. Prove '..Said' where nothing that the law and all that it calls make is longer than what came in: it says more and counts as full. Else prove '..UptoSaid'. A law counts once. -/
mutual
def uptoBulk {H : Type} : DataW H → Nat
  | .lit (.string bytes) => bytes.length + 1
  | .lit _ => 1
  | .nil => 1
  | .ptr d => uptoBulk d + 1
  | .slice elems spare => uptoBulkAll elems + uptoBulkAll spare + 1
  | .agg parts => uptoBulkAll parts + 1
  | .iface _ d => uptoBulk d + 1
  | .map entries => uptoBulkEntries entries + 1
  | .held _ => 1
def uptoBulkAll {H : Type} : List (DataW H) → Nat
  | [] => 0
  | d :: r => uptoBulk d + uptoBulkAll r
def uptoBulkEntries {H : Type} : List (Lit × DataW H) → Nat
  | [] => 0
  | x :: r => uptoBulkEntry x + uptoBulkEntries r
def uptoBulkEntry {H : Type} : Lit × DataW H → Nat
  | (.string bytes, d) => bytes.length + uptoBulk d + 1
  | (_, d) => uptoBulk d + 1
 end
def uptoSmall : (H : Type) → List (DataW H) → Bool := fun _ ds => decide (uptoBulkAll ds ≤ 1048576)
def OpenSpec.upto (s : _root_.Go.ChangeSpec) : _root_.Go.OpenSpec := { _root_.Go.OpenSpec.ofChange s with cond := some uptoSmall }

/-- 'laws.FnLinear', WHERE WHAT IT READS IS OF BULK AT MOST 1048576: true; the input reads as it did. -/
def fnLinearUptoRow : OpenClaim := { program := "ytilijmnagcgjjaadoor", sum := "1396f6b50ab4e85c55063ec1b5c8c51d58dee026a5ae7bba90b7564709417ea9", func := "loop.example/g00541/laws.FnLinear", spec := "fnLinear", inPlace := ["internal/abi.NoEscape", "internal/bytealg.MakeNoZero"], named := ["loop.example/g00541/impl.outTable"], apart := false, laid := [("loop.example/g00541/impl.outTable", laid_loop_example_g00541_impl_outTable)], narrowed := true }
def FnLinearUptoSaid : Prop := fnLinearUptoRow.holds Tryd.pinned (OpenSpec.upto fnLinearSpec)

end Rows
end Go.Proofs.YtilijmnagcgjjaaDoor
