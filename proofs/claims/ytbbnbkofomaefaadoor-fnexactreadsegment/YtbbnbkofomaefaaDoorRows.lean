/-
  NARROWER THAN 'FOR EVERY INPUT', by the rows' own cells (each row's printed sentence says how): FnExactRecordText: laid · FnExactReadRecord: laid · FnExactSegmentText: laid · FnExactReadSegment: laid · FnExactTornSegment: laid.
  DERIVED. THE GIVEN ROWS OF THIS SEAT. 5 by the template 'for every input the law returns true; each argument reads behind the call as it read before'; 0 by the template 'total and deterministic' (their statements: YtbbnbkofomaefaaDoorTotals.lean).
  GIVEN WITH THE SEED: the statements are not yours to turn. If you find one false, say at which input.
  Laid BY PROGRAM, IN A SANDBOX (cutbox-rows.mjs): the forced cells as the released guide's own fill.sh prints them over the translation 6fca861d215f0008… (all of the seat's roots in one cut). By AI agents, Wed Nov 11 2026. No macro, syntax, notation, axiom, sorry.
-/
import Derived.Test.YtbbnbkofomaefaaDoorChecked
import GoSem.Claim
import GoSem.ClaimJoined
import GoSem.ClaimMapViews
import Derived.JoinedTies
import Derived.KernelRfl
namespace Go.Proofs.YtbbnbkofomaefaaDoor
/- THE CELL 'sum', in the pinned program and in every row, IS THE sha256 OF THE DUMP (.gsa) THAT YtbbnbkofomaefaaDoorProg.lean LOADS. Nothing in Lean hashes anything: it is a label: what it is worth is what the hold of that sum in a sandbox is worth. -/
noncomputable def Tryd.pinned : Pinned := { name := "ytbbnbkofomaefaadoor", sum := "6fca861d215f00083b091d5984895b065de7afceb4ec3da2161c2c8340150f4a", checked := Tryd.checked }
namespace Rows
def none {H : Type} : Left H := { results := [], args := [] }

/- WHAT THE LISTED PACKAGE-LEVEL VARIABLES READ AS WHEN THE CALL BEGINS. Each datum BY PROGRAM (the guide's laid-datum.mjs) off the statement by which the dump's own 'gosem.cut.vars' lays the variable. In a bare row this is a premise. The card (YtbbnbkofomaefaaDoorCards.lean) ties it to the program's text. -/
def laid_loop_example_g00541_impl_outTable {H : Type} : DataW H := .agg [.lit (.int .i64 0), .lit (.int .i64 4129), .lit (.int .i64 8258), .lit (.int .i64 12387), .lit (.int .i64 16516), .lit (.int .i64 20645), .lit (.int .i64 24774), .lit (.int .i64 28903), .lit (.int .i64 33032), .lit (.int .i64 37161), .lit (.int .i64 41290), .lit (.int .i64 45419), .lit (.int .i64 49548), .lit (.int .i64 53677), .lit (.int .i64 57806), .lit (.int .i64 61935)]

/-- 'laws.FnExactRecordText': WHATEVER THE INPUT: true; the input reads as it did. -/
def fnExactRecordTextSpec : ChangeSpec := { name := "fnExactRecordText", vars := ["loop.example/g00541/impl.outTable"], fn := fun _ => fun
  | [d, g1] => { results := [.lit (.bool true)], args := [d], vars := [g1] }
  | _ => none }
def fnExactRecordTextRow : OpenClaim := { program := "ytbbnbkofomaefaadoor", sum := "6fca861d215f00083b091d5984895b065de7afceb4ec3da2161c2c8340150f4a", func := "loop.example/g00541/laws.FnExactRecordText", spec := "fnExactRecordText", unfollowed := true, recurses := true, named := ["loop.example/g00541/impl.outTable"], apart := false, laid := [("loop.example/g00541/impl.outTable", laid_loop_example_g00541_impl_outTable)] }
def FnExactRecordTextSaid : Prop := fnExactRecordTextRow.holds Tryd.pinned (OpenSpec.ofChange fnExactRecordTextSpec)

/-- ITS FALSE NEIGHBOUR: 'it returns false'. Refute it at one input. -/
def fnExactRecordTextWrong : ChangeSpec := { name := "fnExactRecordText", vars := ["loop.example/g00541/impl.outTable"], fn := fun _ => fun
  | [d, g1] => { results := [.lit (.bool false)], args := [d], vars := [g1] }
  | _ => none }
def FnExactRecordTextWrongFalsely : Prop := fnExactRecordTextRow.holds Tryd.pinned (OpenSpec.ofChange fnExactRecordTextWrong)

/-- 'laws.FnExactReadRecord': WHATEVER THE INPUT: true; the input reads as it did. -/
def fnExactReadRecordSpec : ChangeSpec := { name := "fnExactReadRecord", vars := ["loop.example/g00541/impl.outTable"], fn := fun _ => fun
  | [d1, d2, g1] => { results := [.lit (.bool true)], args := [d1, d2], vars := [g1] }
  | _ => none }
def fnExactReadRecordRow : OpenClaim := { program := "ytbbnbkofomaefaadoor", sum := "6fca861d215f00083b091d5984895b065de7afceb4ec3da2161c2c8340150f4a", func := "loop.example/g00541/laws.FnExactReadRecord", spec := "fnExactReadRecord", unfollowed := true, recurses := true, named := ["loop.example/g00541/impl.outTable"], apart := false, laid := [("loop.example/g00541/impl.outTable", laid_loop_example_g00541_impl_outTable)] }
def FnExactReadRecordSaid : Prop := fnExactReadRecordRow.holds Tryd.pinned (OpenSpec.ofChange fnExactReadRecordSpec)

/-- ITS FALSE NEIGHBOUR: 'it returns false'. Refute it at one input. -/
def fnExactReadRecordWrong : ChangeSpec := { name := "fnExactReadRecord", vars := ["loop.example/g00541/impl.outTable"], fn := fun _ => fun
  | [d1, d2, g1] => { results := [.lit (.bool false)], args := [d1, d2], vars := [g1] }
  | _ => none }
def FnExactReadRecordWrongFalsely : Prop := fnExactReadRecordRow.holds Tryd.pinned (OpenSpec.ofChange fnExactReadRecordWrong)

/-- 'laws.FnExactSegmentText': WHATEVER THE INPUT: true; the input reads as it did. -/
def fnExactSegmentTextSpec : ChangeSpec := { name := "fnExactSegmentText", vars := ["loop.example/g00541/impl.outTable"], fn := fun _ => fun
  | [d, g1] => { results := [.lit (.bool true)], args := [d], vars := [g1] }
  | _ => none }
def fnExactSegmentTextRow : OpenClaim := { program := "ytbbnbkofomaefaadoor", sum := "6fca861d215f00083b091d5984895b065de7afceb4ec3da2161c2c8340150f4a", func := "loop.example/g00541/laws.FnExactSegmentText", spec := "fnExactSegmentText", unfollowed := true, recurses := true, named := ["loop.example/g00541/impl.outTable"], apart := false, laid := [("loop.example/g00541/impl.outTable", laid_loop_example_g00541_impl_outTable)] }
def FnExactSegmentTextSaid : Prop := fnExactSegmentTextRow.holds Tryd.pinned (OpenSpec.ofChange fnExactSegmentTextSpec)

/-- ITS FALSE NEIGHBOUR: 'it returns false'. Refute it at one input. -/
def fnExactSegmentTextWrong : ChangeSpec := { name := "fnExactSegmentText", vars := ["loop.example/g00541/impl.outTable"], fn := fun _ => fun
  | [d, g1] => { results := [.lit (.bool false)], args := [d], vars := [g1] }
  | _ => none }
def FnExactSegmentTextWrongFalsely : Prop := fnExactSegmentTextRow.holds Tryd.pinned (OpenSpec.ofChange fnExactSegmentTextWrong)

/-- 'laws.FnExactReadSegment': WHATEVER THE INPUT: true; the input reads as it did. -/
def fnExactReadSegmentSpec : ChangeSpec := { name := "fnExactReadSegment", vars := ["loop.example/g00541/impl.outTable"], fn := fun _ => fun
  | [d, g1] => { results := [.lit (.bool true)], args := [d], vars := [g1] }
  | _ => none }
def fnExactReadSegmentRow : OpenClaim := { program := "ytbbnbkofomaefaadoor", sum := "6fca861d215f00083b091d5984895b065de7afceb4ec3da2161c2c8340150f4a", func := "loop.example/g00541/laws.FnExactReadSegment", spec := "fnExactReadSegment", unfollowed := true, recurses := true, named := ["loop.example/g00541/impl.outTable"], apart := false, laid := [("loop.example/g00541/impl.outTable", laid_loop_example_g00541_impl_outTable)] }
def FnExactReadSegmentSaid : Prop := fnExactReadSegmentRow.holds Tryd.pinned (OpenSpec.ofChange fnExactReadSegmentSpec)

/-- ITS FALSE NEIGHBOUR: 'it returns false'. Refute it at one input. -/
def fnExactReadSegmentWrong : ChangeSpec := { name := "fnExactReadSegment", vars := ["loop.example/g00541/impl.outTable"], fn := fun _ => fun
  | [d, g1] => { results := [.lit (.bool false)], args := [d], vars := [g1] }
  | _ => none }
def FnExactReadSegmentWrongFalsely : Prop := fnExactReadSegmentRow.holds Tryd.pinned (OpenSpec.ofChange fnExactReadSegmentWrong)

/-- 'laws.FnExactTornSegment': WHATEVER THE INPUT: true; the input reads as it did. -/
def fnExactTornSegmentSpec : ChangeSpec := { name := "fnExactTornSegment", vars := ["loop.example/g00541/impl.outTable"], fn := fun _ => fun
  | [d1, d2, g1] => { results := [.lit (.bool true)], args := [d1, d2], vars := [g1] }
  | _ => none }
def fnExactTornSegmentRow : OpenClaim := { program := "ytbbnbkofomaefaadoor", sum := "6fca861d215f00083b091d5984895b065de7afceb4ec3da2161c2c8340150f4a", func := "loop.example/g00541/laws.FnExactTornSegment", spec := "fnExactTornSegment", unfollowed := true, recurses := true, named := ["loop.example/g00541/impl.outTable"], apart := false, laid := [("loop.example/g00541/impl.outTable", laid_loop_example_g00541_impl_outTable)] }
def FnExactTornSegmentSaid : Prop := fnExactTornSegmentRow.holds Tryd.pinned (OpenSpec.ofChange fnExactTornSegmentSpec)

/-- ITS FALSE NEIGHBOUR: 'it returns false'. Refute it at one input. -/
def fnExactTornSegmentWrong : ChangeSpec := { name := "fnExactTornSegment", vars := ["loop.example/g00541/impl.outTable"], fn := fun _ => fun
  | [d1, d2, g1] => { results := [.lit (.bool false)], args := [d1, d2], vars := [g1] }
  | _ => none }
def FnExactTornSegmentWrongFalsely : Prop := fnExactTornSegmentRow.holds Tryd.pinned (OpenSpec.ofChange fnExactTornSegmentWrong)

/- THE SECOND FORM. 'bulk': how many values and letters a reading holds, each counted each time it is reached (what is shared counts as often as it is met; a slice's spare places count too). A statement '..UptoSaid' is the law's where the arguments, and the package variables that the reading takes, are together of bulk at most 1048576: NARROWER than '..Said'. Prove '..Said' where nothing that the law and all that it calls make is longer than what came in: it says more and counts as full. Else prove '..UptoSaid'. A law counts once. -/
mutual
def uptoBulk {H : Type} : DataW H → Nat
  | .lit (.string bytes) => bytes.length + 1
  | .lit _ => 1
  | .nil => 1
  | .ptr d => uptoBulk d + 1
  | .slice elems spare => uptoBulkAll elems + uptoBulkAll spare + 1
  | .agg parts => uptoBulkAll parts + 1
  | .iface _ d => uptoBulk d + 1
  | .map entries => uptoBulkEntries entries + 1
  | .held _ => 1
def uptoBulkAll {H : Type} : List (DataW H) → Nat
  | [] => 0
  | d :: r => uptoBulk d + uptoBulkAll r
def uptoBulkEntries {H : Type} : List (Lit × DataW H) → Nat
  | [] => 0
  | x :: r => uptoBulkEntry x + uptoBulkEntries r
def uptoBulkEntry {H : Type} : Lit × DataW H → Nat
  | (.string bytes, d) => bytes.length + uptoBulk d + 1
  | (_, d) => uptoBulk d + 1
 end
def uptoSmall : (H : Type) → List (DataW H) → Bool := fun _ ds => decide (uptoBulkAll ds ≤ 1048576)
def OpenSpec.upto (s : _root_.Go.ChangeSpec) : _root_.Go.OpenSpec := { _root_.Go.OpenSpec.ofChange s with cond := some uptoSmall }

/-- 'laws.FnExactRecordText', WHERE WHAT IT READS IS OF BULK AT MOST 1048576: true; the input reads as it did. -/
def fnExactRecordTextUptoRow : OpenClaim := { program := "ytbbnbkofomaefaadoor", sum := "6fca861d215f00083b091d5984895b065de7afceb4ec3da2161c2c8340150f4a", func := "loop.example/g00541/laws.FnExactRecordText", spec := "fnExactRecordText", unfollowed := true, recurses := true, named := ["loop.example/g00541/impl.outTable"], apart := false, laid := [("loop.example/g00541/impl.outTable", laid_loop_example_g00541_impl_outTable)], narrowed := true }
def FnExactRecordTextUptoSaid : Prop := fnExactRecordTextUptoRow.holds Tryd.pinned (OpenSpec.upto fnExactRecordTextSpec)

/-- 'laws.FnExactReadRecord', WHERE WHAT IT READS IS OF BULK AT MOST 1048576: true; the input reads as it did. -/
def fnExactReadRecordUptoRow : OpenClaim := { program := "ytbbnbkofomaefaadoor", sum := "6fca861d215f00083b091d5984895b065de7afceb4ec3da2161c2c8340150f4a", func := "loop.example/g00541/laws.FnExactReadRecord", spec := "fnExactReadRecord", unfollowed := true, recurses := true, named := ["loop.example/g00541/impl.outTable"], apart := false, laid := [("loop.example/g00541/impl.outTable", laid_loop_example_g00541_impl_outTable)], narrowed := true }
def FnExactReadRecordUptoSaid : Prop := fnExactReadRecordUptoRow.holds Tryd.pinned (OpenSpec.upto fnExactReadRecordSpec)

/-- 'laws.FnExactSegmentText', WHERE WHAT IT READS IS OF BULK AT MOST 1048576: true; the input reads as it did. -/
def fnExactSegmentTextUptoRow : OpenClaim := { program := "ytbbnbkofomaefaadoor", sum := "6fca861d215f00083b091d5984895b065de7afceb4ec3da2161c2c8340150f4a", func := "loop.example/g00541/laws.FnExactSegmentText", spec := "fnExactSegmentText", unfollowed := true, recurses := true, named := ["loop.example/g00541/impl.outTable"], apart := false, laid := [("loop.example/g00541/impl.outTable", laid_loop_example_g00541_impl_outTable)], narrowed := true }
def FnExactSegmentTextUptoSaid : Prop := fnExactSegmentTextUptoRow.holds Tryd.pinned (OpenSpec.upto fnExactSegmentTextSpec)

/-- 'laws.FnExactReadSegment', WHERE WHAT IT READS IS OF BULK AT MOST 1048576: true; the input reads as it did. -/
def fnExactReadSegmentUptoRow : OpenClaim := { program := "ytbbnbkofomaefaadoor", sum := "6fca861d215f00083b091d5984895b065de7afceb4ec3da2161c2c8340150f4a", func := "loop.example/g00541/laws.FnExactReadSegment", spec := "fnExactReadSegment", unfollowed := true, recurses := true, named := ["loop.example/g00541/impl.outTable"], apart := false, laid := [("loop.example/g00541/impl.outTable", laid_loop_example_g00541_impl_outTable)], narrowed := true }
def FnExactReadSegmentUptoSaid : Prop := fnExactReadSegmentUptoRow.holds Tryd.pinned (OpenSpec.upto fnExactReadSegmentSpec)

/-- 'laws.FnExactTornSegment', WHERE WHAT IT READS IS OF BULK AT MOST 1048576: true; the input reads as it did. -/
def fnExactTornSegmentUptoRow : OpenClaim := { program := "ytbbnbkofomaefaadoor", sum := "6fca861d215f00083b091d5984895b065de7afceb4ec3da2161c2c8340150f4a", func := "loop.example/g00541/laws.FnExactTornSegment", spec := "fnExactTornSegment", unfollowed := true, recurses := true, named := ["loop.example/g00541/impl.outTable"], apart := false, laid := [("loop.example/g00541/impl.outTable", laid_loop_example_g00541_impl_outTable)], narrowed := true }
def FnExactTornSegmentUptoSaid : Prop := fnExactTornSegmentUptoRow.holds Tryd.pinned (OpenSpec.upto fnExactTornSegmentSpec)

end Rows
end Go.Proofs.YtbbnbkofomaefaaDoor
