/-
  NARROWER THAN 'FOR EVERY INPUT', by the rows' own cells (each row's printed sentence says how): FnExactSumOf: laid · FnExactSumOn: laid · FnExactWithSum: laid · FnExactCheckSum: laid · FnExactSpanOf: laid.
  DERIVED. THE GIVEN ROWS OF THIS SEAT. 5 by the template 'for every input the law returns true; each argument reads behind the call as it read before'; 0 by the template 'total and deterministic' (their statements: YtilijmnagcgjjaqDoorTotals.lean).
  GIVEN WITH THE SEED: the statements are not yours to turn. If you find one false, say at which input.
  Laid BY PROGRAM, IN A SANDBOX (cutbox-rows.mjs): the forced cells as the released guide's own fill.sh prints them over the translation 06a76011df3f988b… (all of the seat's roots in one cut). By AI agents, Wed Nov 11 2026. No macro, syntax, notation, axiom, sorry.
-/
import Derived.Test.YtilijmnagcgjjaqDoorChecked
import GoSem.Claim
import GoSem.ClaimJoined
import GoSem.ClaimMapViews
import Derived.JoinedTies
import Derived.KernelRfl
namespace Go.Proofs.YtilijmnagcgjjaqDoor
/- THE CELL 'sum', in the pinned program and in every row, IS THE sha256 OF THE DUMP (.gsa) THAT YtilijmnagcgjjaqDoorProg.lean LOADS. Nothing in Lean hashes anything: it is a label: what it is worth is what the hold of that sum in a sandbox is worth. -/
noncomputable def Tryd.pinned : Pinned := { name := "ytilijmnagcgjjaqdoor", sum := "06a76011df3f988bf2c0175a2c5437bd40987630ba3c1639aacd6eca4a6434b1", checked := Tryd.checked }
namespace Rows
def none {H : Type} : Left H := { results := [], args := [] }

/- WHAT THE LISTED PACKAGE-LEVEL VARIABLES READ AS WHEN THE CALL BEGINS. Each datum BY PROGRAM (the guide's laid-datum.mjs) off the statement by which the dump's own 'gosem.cut.vars' lays the variable. In a bare row this is a premise. The card (YtilijmnagcgjjaqDoorCards.lean) ties it to the program's text. -/
def laid_loop_example_g00541_impl_outTable {H : Type} : DataW H := .agg [.lit (.int .i64 0), .lit (.int .i64 4129), .lit (.int .i64 8258), .lit (.int .i64 12387), .lit (.int .i64 16516), .lit (.int .i64 20645), .lit (.int .i64 24774), .lit (.int .i64 28903), .lit (.int .i64 33032), .lit (.int .i64 37161), .lit (.int .i64 41290), .lit (.int .i64 45419), .lit (.int .i64 49548), .lit (.int .i64 53677), .lit (.int .i64 57806), .lit (.int .i64 61935)]
def laid_math_bits_deBruijn32tab {H : Type} : DataW H := .agg [.lit (.int .u8 0), .lit (.int .u8 1), .lit (.int .u8 28), .lit (.int .u8 2), .lit (.int .u8 29), .lit (.int .u8 14), .lit (.int .u8 24), .lit (.int .u8 3), .lit (.int .u8 30), .lit (.int .u8 22), .lit (.int .u8 20), .lit (.int .u8 15), .lit (.int .u8 25), .lit (.int .u8 17), .lit (.int .u8 4), .lit (.int .u8 8), .lit (.int .u8 31), .lit (.int .u8 27), .lit (.int .u8 13), .lit (.int .u8 23), .lit (.int .u8 21), .lit (.int .u8 19), .lit (.int .u8 16), .lit (.int .u8 7), .lit (.int .u8 26), .lit (.int .u8 12), .lit (.int .u8 18), .lit (.int .u8 6), .lit (.int .u8 11), .lit (.int .u8 5), .lit (.int .u8 10), .lit (.int .u8 9)]
def laid_math_bits_deBruijn64tab {H : Type} : DataW H := .agg [.lit (.int .u8 0), .lit (.int .u8 1), .lit (.int .u8 56), .lit (.int .u8 2), .lit (.int .u8 57), .lit (.int .u8 49), .lit (.int .u8 28), .lit (.int .u8 3), .lit (.int .u8 61), .lit (.int .u8 58), .lit (.int .u8 42), .lit (.int .u8 50), .lit (.int .u8 38), .lit (.int .u8 29), .lit (.int .u8 17), .lit (.int .u8 4), .lit (.int .u8 62), .lit (.int .u8 47), .lit (.int .u8 59), .lit (.int .u8 36), .lit (.int .u8 45), .lit (.int .u8 43), .lit (.int .u8 51), .lit (.int .u8 22), .lit (.int .u8 53), .lit (.int .u8 39), .lit (.int .u8 33), .lit (.int .u8 30), .lit (.int .u8 24), .lit (.int .u8 18), .lit (.int .u8 12), .lit (.int .u8 5), .lit (.int .u8 63), .lit (.int .u8 55), .lit (.int .u8 48), .lit (.int .u8 27), .lit (.int .u8 60), .lit (.int .u8 41), .lit (.int .u8 37), .lit (.int .u8 16), .lit (.int .u8 46), .lit (.int .u8 35), .lit (.int .u8 44), .lit (.int .u8 21), .lit (.int .u8 52), .lit (.int .u8 32), .lit (.int .u8 23), .lit (.int .u8 11), .lit (.int .u8 54), .lit (.int .u8 26), .lit (.int .u8 40), .lit (.int .u8 15), .lit (.int .u8 34), .lit (.int .u8 20), .lit (.int .u8 31), .lit (.int .u8 10), .lit (.int .u8 25), .lit (.int .u8 14), .lit (.int .u8 19), .lit (.int .u8 9), .lit (.int .u8 13), .lit (.int .u8 8), .lit (.int .u8 7), .lit (.int .u8 6)]

/-- 'laws.FnExactSumOf': WHATEVER THE INPUT: true; the input reads as it did. -/
def fnExactSumOfSpec : ChangeSpec := { name := "fnExactSumOf", vars := ["loop.example/g00541/impl.outTable"], fn := fun _ => fun
  | [d, g1] => { results := [.lit (.bool true)], args := [d], vars := [g1] }
  | _ => none }
def fnExactSumOfRow : OpenClaim := { program := "ytilijmnagcgjjaqdoor", sum := "06a76011df3f988bf2c0175a2c5437bd40987630ba3c1639aacd6eca4a6434b1", func := "loop.example/g00541/laws.FnExactSumOf", spec := "fnExactSumOf", named := ["loop.example/g00541/impl.outTable"], apart := false, laid := [("loop.example/g00541/impl.outTable", laid_loop_example_g00541_impl_outTable)] }
def FnExactSumOfSaid : Prop := fnExactSumOfRow.holds Tryd.pinned (OpenSpec.ofChange fnExactSumOfSpec)

/-- ITS FALSE NEIGHBOUR: 'it returns false'. Refute it at one input. -/
def fnExactSumOfWrong : ChangeSpec := { name := "fnExactSumOf", vars := ["loop.example/g00541/impl.outTable"], fn := fun _ => fun
  | [d, g1] => { results := [.lit (.bool false)], args := [d], vars := [g1] }
  | _ => none }
def FnExactSumOfWrongFalsely : Prop := fnExactSumOfRow.holds Tryd.pinned (OpenSpec.ofChange fnExactSumOfWrong)

/-- 'laws.FnExactSumOn': WHATEVER THE INPUT: true; the input reads as it did. -/
def fnExactSumOnSpec : ChangeSpec := { name := "fnExactSumOn", vars := ["loop.example/g00541/impl.outTable"], fn := fun _ => fun
  | [d1, d2, g1] => { results := [.lit (.bool true)], args := [d1, d2], vars := [g1] }
  | _ => none }
def fnExactSumOnRow : OpenClaim := { program := "ytilijmnagcgjjaqdoor", sum := "06a76011df3f988bf2c0175a2c5437bd40987630ba3c1639aacd6eca4a6434b1", func := "loop.example/g00541/laws.FnExactSumOn", spec := "fnExactSumOn", named := ["loop.example/g00541/impl.outTable"], apart := false, laid := [("loop.example/g00541/impl.outTable", laid_loop_example_g00541_impl_outTable)] }
def FnExactSumOnSaid : Prop := fnExactSumOnRow.holds Tryd.pinned (OpenSpec.ofChange fnExactSumOnSpec)

/-- ITS FALSE NEIGHBOUR: 'it returns false'. Refute it at one input. -/
def fnExactSumOnWrong : ChangeSpec := { name := "fnExactSumOn", vars := ["loop.example/g00541/impl.outTable"], fn := fun _ => fun
  | [d1, d2, g1] => { results := [.lit (.bool false)], args := [d1, d2], vars := [g1] }
  | _ => none }
def FnExactSumOnWrongFalsely : Prop := fnExactSumOnRow.holds Tryd.pinned (OpenSpec.ofChange fnExactSumOnWrong)

/-- 'laws.FnExactWithSum': WHATEVER THE INPUT: true; the input reads as it did. -/
def fnExactWithSumSpec : ChangeSpec := { name := "fnExactWithSum", vars := ["loop.example/g00541/impl.outTable"], fn := fun _ => fun
  | [d, g1] => { results := [.lit (.bool true)], args := [d], vars := [g1] }
  | _ => none }
def fnExactWithSumRow : OpenClaim := { program := "ytilijmnagcgjjaqdoor", sum := "06a76011df3f988bf2c0175a2c5437bd40987630ba3c1639aacd6eca4a6434b1", func := "loop.example/g00541/laws.FnExactWithSum", spec := "fnExactWithSum", named := ["loop.example/g00541/impl.outTable"], apart := false, laid := [("loop.example/g00541/impl.outTable", laid_loop_example_g00541_impl_outTable)] }
def FnExactWithSumSaid : Prop := fnExactWithSumRow.holds Tryd.pinned (OpenSpec.ofChange fnExactWithSumSpec)

/-- ITS FALSE NEIGHBOUR: 'it returns false'. Refute it at one input. -/
def fnExactWithSumWrong : ChangeSpec := { name := "fnExactWithSum", vars := ["loop.example/g00541/impl.outTable"], fn := fun _ => fun
  | [d, g1] => { results := [.lit (.bool false)], args := [d], vars := [g1] }
  | _ => none }
def FnExactWithSumWrongFalsely : Prop := fnExactWithSumRow.holds Tryd.pinned (OpenSpec.ofChange fnExactWithSumWrong)

/-- 'laws.FnExactCheckSum': WHATEVER THE INPUT: true; the input reads as it did. -/
def fnExactCheckSumSpec : ChangeSpec := { name := "fnExactCheckSum", vars := ["loop.example/g00541/impl.outTable"], fn := fun _ => fun
  | [d, g1] => { results := [.lit (.bool true)], args := [d], vars := [g1] }
  | _ => none }
def fnExactCheckSumRow : OpenClaim := { program := "ytilijmnagcgjjaqdoor", sum := "06a76011df3f988bf2c0175a2c5437bd40987630ba3c1639aacd6eca4a6434b1", func := "loop.example/g00541/laws.FnExactCheckSum", spec := "fnExactCheckSum", named := ["loop.example/g00541/impl.outTable"], apart := false, laid := [("loop.example/g00541/impl.outTable", laid_loop_example_g00541_impl_outTable)] }
def FnExactCheckSumSaid : Prop := fnExactCheckSumRow.holds Tryd.pinned (OpenSpec.ofChange fnExactCheckSumSpec)

/-- ITS FALSE NEIGHBOUR: 'it returns false'. Refute it at one input. -/
def fnExactCheckSumWrong : ChangeSpec := { name := "fnExactCheckSum", vars := ["loop.example/g00541/impl.outTable"], fn := fun _ => fun
  | [d, g1] => { results := [.lit (.bool false)], args := [d], vars := [g1] }
  | _ => none }
def FnExactCheckSumWrongFalsely : Prop := fnExactCheckSumRow.holds Tryd.pinned (OpenSpec.ofChange fnExactCheckSumWrong)

/-- 'laws.FnExactSpanOf': WHATEVER THE INPUT: true; the input reads as it did. -/
def fnExactSpanOfSpec : ChangeSpec := { name := "fnExactSpanOf", fn := fun _ => fun
  | [d] => { results := [.lit (.bool true)], args := [d] }
  | _ => none }
def fnExactSpanOfRow : OpenClaim := { program := "ytilijmnagcgjjaqdoor", sum := "06a76011df3f988bf2c0175a2c5437bd40987630ba3c1639aacd6eca4a6434b1", func := "loop.example/g00541/laws.FnExactSpanOf", spec := "fnExactSpanOf", named := ["math/bits.deBruijn32tab", "math/bits.deBruijn64tab"], apart := false, laid := [("math/bits.deBruijn32tab", laid_math_bits_deBruijn32tab), ("math/bits.deBruijn64tab", laid_math_bits_deBruijn64tab)] }
def FnExactSpanOfSaid : Prop := fnExactSpanOfRow.holds Tryd.pinned (OpenSpec.ofChange fnExactSpanOfSpec)

/-- ITS FALSE NEIGHBOUR: 'it returns false'. Refute it at one input. -/
def fnExactSpanOfWrong : ChangeSpec := { name := "fnExactSpanOf", fn := fun _ => fun
  | [d] => { results := [.lit (.bool false)], args := [d] }
  | _ => none }
def FnExactSpanOfWrongFalsely : Prop := fnExactSpanOfRow.holds Tryd.pinned (OpenSpec.ofChange fnExactSpanOfWrong)

/- THE SECOND FORM. 'bulk': how many values and letters a reading holds, each counted each time it is reached (what is shared counts as often as it is met; a slice's spare places count too). A statement '..UptoSaid' is the law's where the arguments, and the package variables that the reading takes, are together of bulk at most 1048576: NARROWER than '..Said'. Prove '..Said' where nothing that the law and all that it calls make is longer than what came in: it says more and counts as full. Else prove '..UptoSaid'. A law counts once. -/
mutual
def uptoBulk {H : Type} : DataW H → Nat
  | .lit (.string bytes) => bytes.length + 1
  | .lit _ => 1
  | .nil => 1
  | .ptr d => uptoBulk d + 1
  | .slice elems spare => uptoBulkAll elems + uptoBulkAll spare + 1
  | .agg parts => uptoBulkAll parts + 1
  | .iface _ d => uptoBulk d + 1
  | .map entries => uptoBulkEntries entries + 1
  | .held _ => 1
def uptoBulkAll {H : Type} : List (DataW H) → Nat
  | [] => 0
  | d :: r => uptoBulk d + uptoBulkAll r
def uptoBulkEntries {H : Type} : List (Lit × DataW H) → Nat
  | [] => 0
  | x :: r => uptoBulkEntry x + uptoBulkEntries r
def uptoBulkEntry {H : Type} : Lit × DataW H → Nat
  | (.string bytes, d) => bytes.length + uptoBulk d + 1
  | (_, d) => uptoBulk d + 1
 end
def uptoSmall : (H : Type) → List (DataW H) → Bool := fun _ ds => decide (uptoBulkAll ds ≤ 1048576)
def OpenSpec.upto (s : _root_.Go.ChangeSpec) : _root_.Go.OpenSpec := { _root_.Go.OpenSpec.ofChange s with cond := some uptoSmall }

/-- 'laws.FnExactSumOf', WHERE WHAT IT READS IS OF BULK AT MOST 1048576: true; the input reads as it did. -/
def fnExactSumOfUptoRow : OpenClaim := { program := "ytilijmnagcgjjaqdoor", sum := "06a76011df3f988bf2c0175a2c5437bd40987630ba3c1639aacd6eca4a6434b1", func := "loop.example/g00541/laws.FnExactSumOf", spec := "fnExactSumOf", named := ["loop.example/g00541/impl.outTable"], apart := false, laid := [("loop.example/g00541/impl.outTable", laid_loop_example_g00541_impl_outTable)], narrowed := true }
def FnExactSumOfUptoSaid : Prop := fnExactSumOfUptoRow.holds Tryd.pinned (OpenSpec.upto fnExactSumOfSpec)

/-- 'laws.FnExactSumOn', WHERE WHAT IT READS IS OF BULK AT MOST 1048576: true; the input reads as it did. -/
def fnExactSumOnUptoRow : OpenClaim := { program := "ytilijmnagcgjjaqdoor", sum := "06a76011df3f988bf2c0175a2c5437bd40987630ba3c1639aacd6eca4a6434b1", func := "loop.example/g00541/laws.FnExactSumOn", spec := "fnExactSumOn", named := ["loop.example/g00541/impl.outTable"], apart := false, laid := [("loop.example/g00541/impl.outTable", laid_loop_example_g00541_impl_outTable)], narrowed := true }
def FnExactSumOnUptoSaid : Prop := fnExactSumOnUptoRow.holds Tryd.pinned (OpenSpec.upto fnExactSumOnSpec)

/-- 'laws.FnExactWithSum', WHERE WHAT IT READS IS OF BULK AT MOST 1048576: true; the input reads as it did. -/
def fnExactWithSumUptoRow : OpenClaim := { program := "ytilijmnagcgjjaqdoor", sum := "06a76011df3f988bf2c0175a2c5437bd40987630ba3c1639aacd6eca4a6434b1", func := "loop.example/g00541/laws.FnExactWithSum", spec := "fnExactWithSum", named := ["loop.example/g00541/impl.outTable"], apart := false, laid := [("loop.example/g00541/impl.outTable", laid_loop_example_g00541_impl_outTable)], narrowed := true }
def FnExactWithSumUptoSaid : Prop := fnExactWithSumUptoRow.holds Tryd.pinned (OpenSpec.upto fnExactWithSumSpec)

/-- 'laws.FnExactCheckSum', WHERE WHAT IT READS IS OF BULK AT MOST 1048576: true; the input reads as it did. -/
def fnExactCheckSumUptoRow : OpenClaim := { program := "ytilijmnagcgjjaqdoor", sum := "06a76011df3f988bf2c0175a2c5437bd40987630ba3c1639aacd6eca4a6434b1", func := "loop.example/g00541/laws.FnExactCheckSum", spec := "fnExactCheckSum", named := ["loop.example/g00541/impl.outTable"], apart := false, laid := [("loop.example/g00541/impl.outTable", laid_loop_example_g00541_impl_outTable)], narrowed := true }
def FnExactCheckSumUptoSaid : Prop := fnExactCheckSumUptoRow.holds Tryd.pinned (OpenSpec.upto fnExactCheckSumSpec)

/-- 'laws.FnExactSpanOf', WHERE WHAT IT READS IS OF BULK AT MOST 1048576: true; the input reads as it did. -/
def fnExactSpanOfUptoRow : OpenClaim := { program := "ytilijmnagcgjjaqdoor", sum := "06a76011df3f988bf2c0175a2c5437bd40987630ba3c1639aacd6eca4a6434b1", func := "loop.example/g00541/laws.FnExactSpanOf", spec := "fnExactSpanOf", named := ["math/bits.deBruijn32tab", "math/bits.deBruijn64tab"], apart := false, laid := [("math/bits.deBruijn32tab", laid_math_bits_deBruijn32tab), ("math/bits.deBruijn64tab", laid_math_bits_deBruijn64tab)], narrowed := true }
def FnExactSpanOfUptoSaid : Prop := fnExactSpanOfUptoRow.holds Tryd.pinned (OpenSpec.upto fnExactSpanOfSpec)

end Rows
end Go.Proofs.YtilijmnagcgjjaqDoor
