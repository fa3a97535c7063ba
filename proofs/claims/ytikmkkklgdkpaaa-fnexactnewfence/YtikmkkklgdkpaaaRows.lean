/-
  No cell of these rows narrows 'for every input' (looked for: loops, veiled, ifaces, maps, wideKeys, modest, calm, conditions, laid).
  DERIVED. THE GIVEN ROWS OF THIS SEAT. 6 by the template 'for every input the law returns true; each argument reads behind the call as it read before'; 0 by the template 'total and deterministic' (their statements: YtikmkkklgdkpaaaTotals.lean).
  GIVEN WITH THE SEED: the statements are not yours to turn. If you find one false, say at which input.
  Laid BY PROGRAM, IN A SANDBOX (cutbox-rows.mjs): the forced cells as the released guide's own fill.sh prints them over the translation 7d54b358eab03f63… (all of the seat's roots in one cut). By AI agents, Wed Nov 11 2026. No macro, syntax, notation, axiom, sorry.
-/
import Derived.Test.YtikmkkklgdkpaaaChecked
import GoSem.Claim
import GoSem.ClaimJoined
import GoSem.ClaimMapViews
import Derived.JoinedTies
import Derived.KernelRfl
namespace Go.Proofs.Ytikmkkklgdkpaaa
/- THE CELL 'sum', in the pinned program and in every row, IS THE sha256 OF THE DUMP (.gsa) THAT YtikmkkklgdkpaaaProg.lean LOADS. Nothing in Lean hashes anything: it is a label: what it is worth is what the hold of that sum in a sandbox is worth. -/
noncomputable def Try.pinned : Pinned := { name := "ytikmkkklgdkpaaa", sum := "7d54b358eab03f635684adde9248dd27be87c4c80faed122092a0af684d0664c", checked := Try.checked }
namespace Rows
def none {H : Type} : Left H := { results := [], args := [] }

/-- 'laws.FnExactNewFence': WHATEVER THE INPUT: true; the input reads as it did. -/
def fnExactNewFenceSpec : ChangeSpec := { name := "fnExactNewFence", fn := fun _ => fun
  | [d] => { results := [.lit (.bool true)], args := [d] }
  | _ => none }
def fnExactNewFenceRow : OpenClaim := { program := "ytikmkkklgdkpaaa", sum := "7d54b358eab03f635684adde9248dd27be87c4c80faed122092a0af684d0664c", func := "loop.example/g00541/laws.FnExactNewFence", spec := "fnExactNewFence", apart := false }
def FnExactNewFenceSaid : Prop := fnExactNewFenceRow.holds Try.pinned (OpenSpec.ofChange fnExactNewFenceSpec)

/-- ITS FALSE NEIGHBOUR: 'it returns false'. Refute it at one input. -/
def fnExactNewFenceWrong : ChangeSpec := { name := "fnExactNewFence", fn := fun _ => fun
  | [d] => { results := [.lit (.bool false)], args := [d] }
  | _ => none }
def FnExactNewFenceWrongFalsely : Prop := fnExactNewFenceRow.holds Try.pinned (OpenSpec.ofChange fnExactNewFenceWrong)

/-- 'laws.FnExactGoodFence': WHATEVER THE INPUT: true; the input reads as it did. -/
def fnExactGoodFenceSpec : ChangeSpec := { name := "fnExactGoodFence", fn := fun _ => fun
  | [d] => { results := [.lit (.bool true)], args := [d] }
  | _ => none }
def fnExactGoodFenceRow : OpenClaim := { program := "ytikmkkklgdkpaaa", sum := "7d54b358eab03f635684adde9248dd27be87c4c80faed122092a0af684d0664c", func := "loop.example/g00541/laws.FnExactGoodFence", spec := "fnExactGoodFence", unfollowed := true, recurses := true, apart := false }
def FnExactGoodFenceSaid : Prop := fnExactGoodFenceRow.holds Try.pinned (OpenSpec.ofChange fnExactGoodFenceSpec)

/-- ITS FALSE NEIGHBOUR: 'it returns false'. Refute it at one input. -/
def fnExactGoodFenceWrong : ChangeSpec := { name := "fnExactGoodFence", fn := fun _ => fun
  | [d] => { results := [.lit (.bool false)], args := [d] }
  | _ => none }
def FnExactGoodFenceWrongFalsely : Prop := fnExactGoodFenceRow.holds Try.pinned (OpenSpec.ofChange fnExactGoodFenceWrong)

/-- 'laws.FnExactStepFence': WHATEVER THE INPUT: true; the input reads as it did. -/
def fnExactStepFenceSpec : ChangeSpec := { name := "fnExactStepFence", fn := fun _ => fun
  | [d1, d2] => { results := [.lit (.bool true)], args := [d1, d2] }
  | _ => none }
def fnExactStepFenceRow : OpenClaim := { program := "ytikmkkklgdkpaaa", sum := "7d54b358eab03f635684adde9248dd27be87c4c80faed122092a0af684d0664c", func := "loop.example/g00541/laws.FnExactStepFence", spec := "fnExactStepFence", inPlace := ["slices.overlaps[int]"], unfollowed := true, recurses := true, apart := false }
def FnExactStepFenceSaid : Prop := fnExactStepFenceRow.holds Try.pinned (OpenSpec.ofChange fnExactStepFenceSpec)

/-- ITS FALSE NEIGHBOUR: 'it returns false'. Refute it at one input. -/
def fnExactStepFenceWrong : ChangeSpec := { name := "fnExactStepFence", fn := fun _ => fun
  | [d1, d2] => { results := [.lit (.bool false)], args := [d1, d2] }
  | _ => none }
def FnExactStepFenceWrongFalsely : Prop := fnExactStepFenceRow.holds Try.pinned (OpenSpec.ofChange fnExactStepFenceWrong)

/-- 'laws.FnExactPlayFence': WHATEVER THE INPUT: true; the input reads as it did. -/
def fnExactPlayFenceSpec : ChangeSpec := { name := "fnExactPlayFence", fn := fun _ => fun
  | [d1, d2] => { results := [.lit (.bool true)], args := [d1, d2] }
  | _ => none }
def fnExactPlayFenceRow : OpenClaim := { program := "ytikmkkklgdkpaaa", sum := "7d54b358eab03f635684adde9248dd27be87c4c80faed122092a0af684d0664c", func := "loop.example/g00541/laws.FnExactPlayFence", spec := "fnExactPlayFence", inPlace := ["slices.overlaps[int]"], unfollowed := true, recurses := true, apart := false }
def FnExactPlayFenceSaid : Prop := fnExactPlayFenceRow.holds Try.pinned (OpenSpec.ofChange fnExactPlayFenceSpec)

/-- ITS FALSE NEIGHBOUR: 'it returns false'. Refute it at one input. -/
def fnExactPlayFenceWrong : ChangeSpec := { name := "fnExactPlayFence", fn := fun _ => fun
  | [d1, d2] => { results := [.lit (.bool false)], args := [d1, d2] }
  | _ => none }
def FnExactPlayFenceWrongFalsely : Prop := fnExactPlayFenceRow.holds Try.pinned (OpenSpec.ofChange fnExactPlayFenceWrong)

/-- 'laws.FnExactWinnerOf': WHATEVER THE INPUT: true; the input reads as it did. -/
def fnExactWinnerOfSpec : ChangeSpec := { name := "fnExactWinnerOf", fn := fun _ => fun
  | [d1, d2] => { results := [.lit (.bool true)], args := [d1, d2] }
  | _ => none }
def fnExactWinnerOfRow : OpenClaim := { program := "ytikmkkklgdkpaaa", sum := "7d54b358eab03f635684adde9248dd27be87c4c80faed122092a0af684d0664c", func := "loop.example/g00541/laws.FnExactWinnerOf", spec := "fnExactWinnerOf", unfollowed := true, recurses := true, apart := false }
def FnExactWinnerOfSaid : Prop := fnExactWinnerOfRow.holds Try.pinned (OpenSpec.ofChange fnExactWinnerOfSpec)

/-- ITS FALSE NEIGHBOUR: 'it returns false'. Refute it at one input. -/
def fnExactWinnerOfWrong : ChangeSpec := { name := "fnExactWinnerOf", fn := fun _ => fun
  | [d1, d2] => { results := [.lit (.bool false)], args := [d1, d2] }
  | _ => none }
def FnExactWinnerOfWrongFalsely : Prop := fnExactWinnerOfRow.holds Try.pinned (OpenSpec.ofChange fnExactWinnerOfWrong)

/-- 'laws.FnExactMayStore': WHATEVER THE INPUT: true; the input reads as it did. -/
def fnExactMayStoreSpec : ChangeSpec := { name := "fnExactMayStore", fn := fun _ => fun
  | [d1, d2] => { results := [.lit (.bool true)], args := [d1, d2] }
  | _ => none }
def fnExactMayStoreRow : OpenClaim := { program := "ytikmkkklgdkpaaa", sum := "7d54b358eab03f635684adde9248dd27be87c4c80faed122092a0af684d0664c", func := "loop.example/g00541/laws.FnExactMayStore", spec := "fnExactMayStore", unfollowed := true, recurses := true, apart := false }
def FnExactMayStoreSaid : Prop := fnExactMayStoreRow.holds Try.pinned (OpenSpec.ofChange fnExactMayStoreSpec)

/-- ITS FALSE NEIGHBOUR: 'it returns false'. Refute it at one input. -/
def fnExactMayStoreWrong : ChangeSpec := { name := "fnExactMayStore", fn := fun _ => fun
  | [d1, d2] => { results := [.lit (.bool false)], args := [d1, d2] }
  | _ => none }
def FnExactMayStoreWrongFalsely : Prop := fnExactMayStoreRow.holds Try.pinned (OpenSpec.ofChange fnExactMayStoreWrong)

/- THE SECOND FORM. 'bulk': how many values and letters a reading holds, each counted each time it is reached (what is shared counts as often as it is met; a slice's spare places count too). A statement '..UptoSaid' is the law's where the arguments, and the package variables that the reading takes, are together of bulk at most 1048576: NARROWER than '..Said'. Prove '..Said' where nothing that the law and all that it calls make is longer than what came in: it says more and counts as full. Else prove '..UptoSaid'. A law counts once. -/
mutual
def uptoBulk {H : Type} : DataW H → Nat
  | .lit (.string bytes) => bytes.length + 1
  | .lit _ => 1
  | .nil => 1
  | .ptr d => uptoBulk d + 1
  | .slice elems spare => uptoBulkAll elems + uptoBulkAll spare + 1
  | .agg parts => uptoBulkAll parts + 1
  | .iface _ d => uptoBulk d + 1
  | .map entries => uptoBulkEntries entries + 1
  | .held _ => 1
def uptoBulkAll {H : Type} : List (DataW H) → Nat
  | [] => 0
  | d :: r => uptoBulk d + uptoBulkAll r
def uptoBulkEntries {H : Type} : List (Lit × DataW H) → Nat
  | [] => 0
  | x :: r => uptoBulkEntry x + uptoBulkEntries r
def uptoBulkEntry {H : Type} : Lit × DataW H → Nat
  | (.string bytes, d) => bytes.length + uptoBulk d + 1
  | (_, d) => uptoBulk d + 1
 end
def uptoSmall : (H : Type) → List (DataW H) → Bool := fun _ ds => decide (uptoBulkAll ds ≤ 1048576)
def OpenSpec.upto (s : _root_.Go.ChangeSpec) : _root_.Go.OpenSpec := { _root_.Go.OpenSpec.ofChange s with cond := some uptoSmall }

/-- 'laws.FnExactNewFence', WHERE WHAT IT READS IS OF BULK AT MOST 1048576: true; the input reads as it did. -/
def fnExactNewFenceUptoRow : OpenClaim := { program := "ytikmkkklgdkpaaa", sum := "7d54b358eab03f635684adde9248dd27be87c4c80faed122092a0af684d0664c", func := "loop.example/g00541/laws.FnExactNewFence", spec := "fnExactNewFence", apart := false, narrowed := true }
def FnExactNewFenceUptoSaid : Prop := fnExactNewFenceUptoRow.holds Try.pinned (OpenSpec.upto fnExactNewFenceSpec)

/-- 'laws.FnExactGoodFence', WHERE WHAT IT READS IS OF BULK AT MOST 1048576: true; the input reads as it did. -/
def fnExactGoodFenceUptoRow : OpenClaim := { program := "ytikmkkklgdkpaaa", sum := "7d54b358eab03f635684adde9248dd27be87c4c80faed122092a0af684d0664c", func := "loop.example/g00541/laws.FnExactGoodFence", spec := "fnExactGoodFence", unfollowed := true, recurses := true, apart := false, narrowed := true }
def FnExactGoodFenceUptoSaid : Prop := fnExactGoodFenceUptoRow.holds Try.pinned (OpenSpec.upto fnExactGoodFenceSpec)

/-- 'laws.FnExactStepFence', WHERE WHAT IT READS IS OF BULK AT MOST 1048576: true; the input reads as it did. -/
def fnExactStepFenceUptoRow : OpenClaim := { program := "ytikmkkklgdkpaaa", sum := "7d54b358eab03f635684adde9248dd27be87c4c80faed122092a0af684d0664c", func := "loop.example/g00541/laws.FnExactStepFence", spec := "fnExactStepFence", inPlace := ["slices.overlaps[int]"], unfollowed := true, recurses := true, apart := false, narrowed := true }
def FnExactStepFenceUptoSaid : Prop := fnExactStepFenceUptoRow.holds Try.pinned (OpenSpec.upto fnExactStepFenceSpec)

/-- 'laws.FnExactPlayFence', WHERE WHAT IT READS IS OF BULK AT MOST 1048576: true; the input reads as it did. -/
def fnExactPlayFenceUptoRow : OpenClaim := { program := "ytikmkkklgdkpaaa", sum := "7d54b358eab03f635684adde9248dd27be87c4c80faed122092a0af684d0664c", func := "loop.example/g00541/laws.FnExactPlayFence", spec := "fnExactPlayFence", inPlace := ["slices.overlaps[int]"], unfollowed := true, recurses := true, apart := false, narrowed := true }
def FnExactPlayFenceUptoSaid : Prop := fnExactPlayFenceUptoRow.holds Try.pinned (OpenSpec.upto fnExactPlayFenceSpec)

/-- 'laws.FnExactWinnerOf', WHERE WHAT IT READS IS OF BULK AT MOST 1048576: true; the input reads as it did. -/
def fnExactWinnerOfUptoRow : OpenClaim := { program := "ytikmkkklgdkpaaa", sum := "7d54b358eab03f635684adde9248dd27be87c4c80faed122092a0af684d0664c", func := "loop.example/g00541/laws.FnExactWinnerOf", spec := "fnExactWinnerOf", unfollowed := true, recurses := true, apart := false, narrowed := true }
def FnExactWinnerOfUptoSaid : Prop := fnExactWinnerOfUptoRow.holds Try.pinned (OpenSpec.upto fnExactWinnerOfSpec)

/-- 'laws.FnExactMayStore', WHERE WHAT IT READS IS OF BULK AT MOST 1048576: true; the input reads as it did. -/
def fnExactMayStoreUptoRow : OpenClaim := { program := "ytikmkkklgdkpaaa", sum := "7d54b358eab03f635684adde9248dd27be87c4c80faed122092a0af684d0664c", func := "loop.example/g00541/laws.FnExactMayStore", spec := "fnExactMayStore", unfollowed := true, recurses := true, apart := false, narrowed := true }
def FnExactMayStoreUptoSaid : Prop := fnExactMayStoreUptoRow.holds Try.pinned (OpenSpec.upto fnExactMayStoreSpec)

end Rows
end Go.Proofs.Ytikmkkklgdkpaaa
