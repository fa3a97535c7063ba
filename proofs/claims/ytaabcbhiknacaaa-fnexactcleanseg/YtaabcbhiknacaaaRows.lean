/-
  No cell of these rows narrows 'for every input' (looked for: loops, veiled, ifaces, maps, wideKeys, modest, calm, conditions, laid).
  DERIVED. THE GIVEN ROWS OF THIS SEAT. 6 by the template 'for every input the law returns true; each argument reads behind the call as it read before'; 0 by the template 'total and deterministic' (their statements: YtaabcbhiknacaaaTotals.lean).
  GIVEN WITH THE SEED: the statements are not yours to turn. If you find one false, say at which input.
  Laid BY PROGRAM, IN A SANDBOX (cutbox-rows.mjs): the forced cells as the released guide's own fill.sh prints them over the translation e2e01b3f0d3b8dd9… (all of the seat's roots in one cut). By AI agents, Wed Nov 11 2026. No macro, syntax, notation, axiom, sorry.
-/
import Derived.Test.YtaabcbhiknacaaaChecked
import GoSem.Claim
import GoSem.ClaimJoined
import GoSem.ClaimMapViews
import Derived.JoinedTies
import Derived.KernelRfl
namespace Go.Proofs.Ytaabcbhiknacaaa
/- THE CELL 'sum', in the pinned program and in every row, IS THE sha256 OF THE DUMP (.gsa) THAT YtaabcbhiknacaaaProg.lean LOADS. Nothing in Lean hashes anything: it is a label: what it is worth is what the hold of that sum in a sandbox is worth. -/
noncomputable def Try.pinned : Pinned := { name := "ytaabcbhiknacaaa", sum := "e2e01b3f0d3b8dd934a5e8ef9cae84d17cc9262962fb3147f86385d8b579b5f8", checked := Try.checked }
namespace Rows
def none {H : Type} : Left H := { results := [], args := [] }

/-- 'laws.FnExactGoodHeap': WHATEVER THE INPUT: true; the input reads as it did. -/
def fnExactGoodHeapSpec : ChangeSpec := { name := "fnExactGoodHeap", fn := fun _ => fun
  | [d] => { results := [.lit (.bool true)], args := [d] }
  | _ => none }
def fnExactGoodHeapRow : OpenClaim := { program := "ytaabcbhiknacaaa", sum := "e2e01b3f0d3b8dd934a5e8ef9cae84d17cc9262962fb3147f86385d8b579b5f8", func := "loop.example/g00541/laws.FnExactGoodHeap", spec := "fnExactGoodHeap", apart := false }
def FnExactGoodHeapSaid : Prop := fnExactGoodHeapRow.holds Try.pinned (OpenSpec.ofChange fnExactGoodHeapSpec)

/-- ITS FALSE NEIGHBOUR: 'it returns false'. Refute it at one input. -/
def fnExactGoodHeapWrong : ChangeSpec := { name := "fnExactGoodHeap", fn := fun _ => fun
  | [d] => { results := [.lit (.bool false)], args := [d] }
  | _ => none }
def FnExactGoodHeapWrongFalsely : Prop := fnExactGoodHeapRow.holds Try.pinned (OpenSpec.ofChange fnExactGoodHeapWrong)

/-- 'laws.FnExactWriteBlock': WHATEVER THE INPUT: true; the input reads as it did. -/
def fnExactWriteBlockSpec : ChangeSpec := { name := "fnExactWriteBlock", fn := fun _ => fun
  | [d1, d2] => { results := [.lit (.bool true)], args := [d1, d2] }
  | _ => none }
def fnExactWriteBlockRow : OpenClaim := { program := "ytaabcbhiknacaaa", sum := "e2e01b3f0d3b8dd934a5e8ef9cae84d17cc9262962fb3147f86385d8b579b5f8", func := "loop.example/g00541/laws.FnExactWriteBlock", spec := "fnExactWriteBlock", unfollowed := true, recurses := true, apart := false }
def FnExactWriteBlockSaid : Prop := fnExactWriteBlockRow.holds Try.pinned (OpenSpec.ofChange fnExactWriteBlockSpec)

/-- ITS FALSE NEIGHBOUR: 'it returns false'. Refute it at one input. -/
def fnExactWriteBlockWrong : ChangeSpec := { name := "fnExactWriteBlock", fn := fun _ => fun
  | [d1, d2] => { results := [.lit (.bool false)], args := [d1, d2] }
  | _ => none }
def FnExactWriteBlockWrongFalsely : Prop := fnExactWriteBlockRow.holds Try.pinned (OpenSpec.ofChange fnExactWriteBlockWrong)

/-- 'laws.FnExactLiveIn': WHATEVER THE INPUT: true; the input reads as it did. -/
def fnExactLiveInSpec : ChangeSpec := { name := "fnExactLiveIn", fn := fun _ => fun
  | [d1, d2] => { results := [.lit (.bool true)], args := [d1, d2] }
  | _ => none }
def fnExactLiveInRow : OpenClaim := { program := "ytaabcbhiknacaaa", sum := "e2e01b3f0d3b8dd934a5e8ef9cae84d17cc9262962fb3147f86385d8b579b5f8", func := "loop.example/g00541/laws.FnExactLiveIn", spec := "fnExactLiveIn", apart := false }
def FnExactLiveInSaid : Prop := fnExactLiveInRow.holds Try.pinned (OpenSpec.ofChange fnExactLiveInSpec)

/-- ITS FALSE NEIGHBOUR: 'it returns false'. Refute it at one input. -/
def fnExactLiveInWrong : ChangeSpec := { name := "fnExactLiveIn", fn := fun _ => fun
  | [d1, d2] => { results := [.lit (.bool false)], args := [d1, d2] }
  | _ => none }
def FnExactLiveInWrongFalsely : Prop := fnExactLiveInRow.holds Try.pinned (OpenSpec.ofChange fnExactLiveInWrong)

/-- 'laws.FnExactFreeSegs': WHATEVER THE INPUT: true; the input reads as it did. -/
def fnExactFreeSegsSpec : ChangeSpec := { name := "fnExactFreeSegs", fn := fun _ => fun
  | [d] => { results := [.lit (.bool true)], args := [d] }
  | _ => none }
def fnExactFreeSegsRow : OpenClaim := { program := "ytaabcbhiknacaaa", sum := "e2e01b3f0d3b8dd934a5e8ef9cae84d17cc9262962fb3147f86385d8b579b5f8", func := "loop.example/g00541/laws.FnExactFreeSegs", spec := "fnExactFreeSegs", apart := false }
def FnExactFreeSegsSaid : Prop := fnExactFreeSegsRow.holds Try.pinned (OpenSpec.ofChange fnExactFreeSegsSpec)

/-- ITS FALSE NEIGHBOUR: 'it returns false'. Refute it at one input. -/
def fnExactFreeSegsWrong : ChangeSpec := { name := "fnExactFreeSegs", fn := fun _ => fun
  | [d] => { results := [.lit (.bool false)], args := [d] }
  | _ => none }
def FnExactFreeSegsWrongFalsely : Prop := fnExactFreeSegsRow.holds Try.pinned (OpenSpec.ofChange fnExactFreeSegsWrong)

/-- 'laws.FnExactPickSeg': WHATEVER THE INPUT: true; the input reads as it did. -/
def fnExactPickSegSpec : ChangeSpec := { name := "fnExactPickSeg", fn := fun _ => fun
  | [d1, d2] => { results := [.lit (.bool true)], args := [d1, d2] }
  | _ => none }
def fnExactPickSegRow : OpenClaim := { program := "ytaabcbhiknacaaa", sum := "e2e01b3f0d3b8dd934a5e8ef9cae84d17cc9262962fb3147f86385d8b579b5f8", func := "loop.example/g00541/laws.FnExactPickSeg", spec := "fnExactPickSeg", unfollowed := true, recurses := true, apart := false }
def FnExactPickSegSaid : Prop := fnExactPickSegRow.holds Try.pinned (OpenSpec.ofChange fnExactPickSegSpec)

/-- ITS FALSE NEIGHBOUR: 'it returns false'. Refute it at one input. -/
def fnExactPickSegWrong : ChangeSpec := { name := "fnExactPickSeg", fn := fun _ => fun
  | [d1, d2] => { results := [.lit (.bool false)], args := [d1, d2] }
  | _ => none }
def FnExactPickSegWrongFalsely : Prop := fnExactPickSegRow.holds Try.pinned (OpenSpec.ofChange fnExactPickSegWrong)

/-- 'laws.FnExactCleanSeg': WHATEVER THE INPUT: true; the input reads as it did. -/
def fnExactCleanSegSpec : ChangeSpec := { name := "fnExactCleanSeg", fn := fun _ => fun
  | [d1, d2] => { results := [.lit (.bool true)], args := [d1, d2] }
  | _ => none }
def fnExactCleanSegRow : OpenClaim := { program := "ytaabcbhiknacaaa", sum := "e2e01b3f0d3b8dd934a5e8ef9cae84d17cc9262962fb3147f86385d8b579b5f8", func := "loop.example/g00541/laws.FnExactCleanSeg", spec := "fnExactCleanSeg", unfollowed := true, recurses := true, apart := false }
def FnExactCleanSegSaid : Prop := fnExactCleanSegRow.holds Try.pinned (OpenSpec.ofChange fnExactCleanSegSpec)

/-- ITS FALSE NEIGHBOUR: 'it returns false'. Refute it at one input. -/
def fnExactCleanSegWrong : ChangeSpec := { name := "fnExactCleanSeg", fn := fun _ => fun
  | [d1, d2] => { results := [.lit (.bool false)], args := [d1, d2] }
  | _ => none }
def FnExactCleanSegWrongFalsely : Prop := fnExactCleanSegRow.holds Try.pinned (OpenSpec.ofChange fnExactCleanSegWrong)

/- THE SECOND FORM. 'bulk': how many values and letters a reading holds, each counted each time it is reached (what is shared counts as often as it is met; a slice's spare places count too). A statement '..UptoSaid' is the law's where the arguments, and the package variables that the reading takes, are together of bulk at most 1048576: NARROWER than '..Said'. Prove '..Said' where nothing that the law and all that it calls make is longer than what came in: it says more and counts as full. Else prove '..UptoSaid'. A law counts once. -/
mutual
def uptoBulk {H : Type} : DataW H → Nat
  | .lit (.string bytes) => bytes.length + 1
  | .lit _ => 1
  | .nil => 1
  | .ptr d => uptoBulk d + 1
  | .slice elems spare => uptoBulkAll elems + uptoBulkAll spare + 1
  | .agg parts => uptoBulkAll parts + 1
  | .iface _ d => uptoBulk d + 1
  | .map entries => uptoBulkEntries entries + 1
  | .held _ => 1
def uptoBulkAll {H : Type} : List (DataW H) → Nat
  | [] => 0
  | d :: r => uptoBulk d + uptoBulkAll r
def uptoBulkEntries {H : Type} : List (Lit × DataW H) → Nat
  | [] => 0
  | x :: r => uptoBulkEntry x + uptoBulkEntries r
def uptoBulkEntry {H : Type} : Lit × DataW H → Nat
  | (.string bytes, d) => bytes.length + uptoBulk d + 1
  | (_, d) => uptoBulk d + 1
 end
def uptoSmall : (H : Type) → List (DataW H) → Bool := fun _ ds => decide (uptoBulkAll ds ≤ 1048576)
def OpenSpec.upto (s : _root_.Go.ChangeSpec) : _root_.Go.OpenSpec := { _root_.Go.OpenSpec.ofChange s with cond := some uptoSmall }

/-- 'laws.FnExactGoodHeap', WHERE WHAT IT READS IS OF BULK AT MOST 1048576: true; the input reads as it did. -/
def fnExactGoodHeapUptoRow : OpenClaim := { program := "ytaabcbhiknacaaa", sum := "e2e01b3f0d3b8dd934a5e8ef9cae84d17cc9262962fb3147f86385d8b579b5f8", func := "loop.example/g00541/laws.FnExactGoodHeap", spec := "fnExactGoodHeap", apart := false, narrowed := true }
def FnExactGoodHeapUptoSaid : Prop := fnExactGoodHeapUptoRow.holds Try.pinned (OpenSpec.upto fnExactGoodHeapSpec)

/-- 'laws.FnExactWriteBlock', WHERE WHAT IT READS IS OF BULK AT MOST 1048576: true; the input reads as it did. -/
def fnExactWriteBlockUptoRow : OpenClaim := { program := "ytaabcbhiknacaaa", sum := "e2e01b3f0d3b8dd934a5e8ef9cae84d17cc9262962fb3147f86385d8b579b5f8", func := "loop.example/g00541/laws.FnExactWriteBlock", spec := "fnExactWriteBlock", unfollowed := true, recurses := true, apart := false, narrowed := true }
def FnExactWriteBlockUptoSaid : Prop := fnExactWriteBlockUptoRow.holds Try.pinned (OpenSpec.upto fnExactWriteBlockSpec)

/-- 'laws.FnExactLiveIn', WHERE WHAT IT READS IS OF BULK AT MOST 1048576: true; the input reads as it did. -/
def fnExactLiveInUptoRow : OpenClaim := { program := "ytaabcbhiknacaaa", sum := "e2e01b3f0d3b8dd934a5e8ef9cae84d17cc9262962fb3147f86385d8b579b5f8", func := "loop.example/g00541/laws.FnExactLiveIn", spec := "fnExactLiveIn", apart := false, narrowed := true }
def FnExactLiveInUptoSaid : Prop := fnExactLiveInUptoRow.holds Try.pinned (OpenSpec.upto fnExactLiveInSpec)

/-- 'laws.FnExactFreeSegs', WHERE WHAT IT READS IS OF BULK AT MOST 1048576: true; the input reads as it did. -/
def fnExactFreeSegsUptoRow : OpenClaim := { program := "ytaabcbhiknacaaa", sum := "e2e01b3f0d3b8dd934a5e8ef9cae84d17cc9262962fb3147f86385d8b579b5f8", func := "loop.example/g00541/laws.FnExactFreeSegs", spec := "fnExactFreeSegs", apart := false, narrowed := true }
def FnExactFreeSegsUptoSaid : Prop := fnExactFreeSegsUptoRow.holds Try.pinned (OpenSpec.upto fnExactFreeSegsSpec)

/-- 'laws.FnExactPickSeg', WHERE WHAT IT READS IS OF BULK AT MOST 1048576: true; the input reads as it did. -/
def fnExactPickSegUptoRow : OpenClaim := { program := "ytaabcbhiknacaaa", sum := "e2e01b3f0d3b8dd934a5e8ef9cae84d17cc9262962fb3147f86385d8b579b5f8", func := "loop.example/g00541/laws.FnExactPickSeg", spec := "fnExactPickSeg", unfollowed := true, recurses := true, apart := false, narrowed := true }
def FnExactPickSegUptoSaid : Prop := fnExactPickSegUptoRow.holds Try.pinned (OpenSpec.upto fnExactPickSegSpec)

/-- 'laws.FnExactCleanSeg', WHERE WHAT IT READS IS OF BULK AT MOST 1048576: true; the input reads as it did. -/
def fnExactCleanSegUptoRow : OpenClaim := { program := "ytaabcbhiknacaaa", sum := "e2e01b3f0d3b8dd934a5e8ef9cae84d17cc9262962fb3147f86385d8b579b5f8", func := "loop.example/g00541/laws.FnExactCleanSeg", spec := "fnExactCleanSeg", unfollowed := true, recurses := true, apart := false, narrowed := true }
def FnExactCleanSegUptoSaid : Prop := fnExactCleanSegUptoRow.holds Try.pinned (OpenSpec.upto fnExactCleanSegSpec)

end Rows
end Go.Proofs.Ytaabcbhiknacaaa
