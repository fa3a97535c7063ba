/-
  No cell of these rows narrows 'for every input' (looked for: loops, veiled, ifaces, maps, wideKeys, modest, calm, conditions, laid).
  DERIVED. THE GIVEN ROWS OF THIS SEAT. 4 by the template 'for every input the law returns true; each argument reads behind the call as it read before'; 0 by the template 'total and deterministic' (their statements: YtfdkhoelcmmfcaaTotals.lean).
  GIVEN WITH THE SEED: the statements are not yours to turn. If you find one false, say at which input.
  Laid BY PROGRAM, IN A SANDBOX (cutbox-rows.mjs): the forced cells as the released guide's own fill.sh prints them over the translation dc8d5bf8e16788b6… (all of the seat's roots in one cut). By AI agents, Wed Nov 11 2026. No macro, syntax, notation, axiom, sorry.
-/
import Derived.Test.YtfdkhoelcmmfcaaChecked
import GoSem.Claim
import GoSem.ClaimJoined
import GoSem.ClaimMapViews
import Derived.JoinedTies
import Derived.KernelRfl
namespace Go.Proofs.Ytfdkhoelcmmfcaa
/- THE CELL 'sum', in the pinned program and in every row, IS THE sha256 OF THE DUMP (.gsa) THAT YtfdkhoelcmmfcaaProg.lean LOADS. Nothing in Lean hashes anything: it is a label: what it is worth is what the hold of that sum in a sandbox is worth. -/
noncomputable def Try.pinned : Pinned := { name := "ytfdkhoelcmmfcaa", sum := "dc8d5bf8e16788b6b870022affa426c1d849d369d508ce5fe928595136080a8a", checked := Try.checked }
namespace Rows
def none {H : Type} : Left H := { results := [], args := [] }

/-- 'laws.FnExactNewMirror': WHATEVER THE INPUT: true; the input reads as it did. -/
def fnExactNewMirrorSpec : ChangeSpec := { name := "fnExactNewMirror", fn := fun _ => fun
  | [] => { results := [.lit (.bool true)], args := [] }
  | _ => none }
def fnExactNewMirrorRow : OpenClaim := { program := "ytfdkhoelcmmfcaa", sum := "dc8d5bf8e16788b6b870022affa426c1d849d369d508ce5fe928595136080a8a", func := "loop.example/g00541/laws.FnExactNewMirror", spec := "fnExactNewMirror", unfollowed := true, recurses := true, apart := false }
def FnExactNewMirrorSaid : Prop := fnExactNewMirrorRow.holds Try.pinned (OpenSpec.ofChange fnExactNewMirrorSpec)

/-- ITS FALSE NEIGHBOUR: 'it returns false'. Refute it at one input. -/
def fnExactNewMirrorWrong : ChangeSpec := { name := "fnExactNewMirror", fn := fun _ => fun
  | [] => { results := [.lit (.bool false)], args := [] }
  | _ => none }
def FnExactNewMirrorWrongFalsely : Prop := fnExactNewMirrorRow.holds Try.pinned (OpenSpec.ofChange fnExactNewMirrorWrong)

/-- 'laws.FnExactGoodMirror': WHATEVER THE INPUT: true; the input reads as it did. -/
def fnExactGoodMirrorSpec : ChangeSpec := { name := "fnExactGoodMirror", fn := fun _ => fun
  | [d] => { results := [.lit (.bool true)], args := [d] }
  | _ => none }
def fnExactGoodMirrorRow : OpenClaim := { program := "ytfdkhoelcmmfcaa", sum := "dc8d5bf8e16788b6b870022affa426c1d849d369d508ce5fe928595136080a8a", func := "loop.example/g00541/laws.FnExactGoodMirror", spec := "fnExactGoodMirror", unfollowed := true, recurses := true, apart := false }
def FnExactGoodMirrorSaid : Prop := fnExactGoodMirrorRow.holds Try.pinned (OpenSpec.ofChange fnExactGoodMirrorSpec)

/-- ITS FALSE NEIGHBOUR: 'it returns false'. Refute it at one input. -/
def fnExactGoodMirrorWrong : ChangeSpec := { name := "fnExactGoodMirror", fn := fun _ => fun
  | [d] => { results := [.lit (.bool false)], args := [d] }
  | _ => none }
def FnExactGoodMirrorWrongFalsely : Prop := fnExactGoodMirrorRow.holds Try.pinned (OpenSpec.ofChange fnExactGoodMirrorWrong)

/-- 'laws.FnExactRemoteMark': WHATEVER THE INPUT: true; the input reads as it did. -/
def fnExactRemoteMarkSpec : ChangeSpec := { name := "fnExactRemoteMark", fn := fun _ => fun
  | [d] => { results := [.lit (.bool true)], args := [d] }
  | _ => none }
def fnExactRemoteMarkRow : OpenClaim := { program := "ytfdkhoelcmmfcaa", sum := "dc8d5bf8e16788b6b870022affa426c1d849d369d508ce5fe928595136080a8a", func := "loop.example/g00541/laws.FnExactRemoteMark", spec := "fnExactRemoteMark", unfollowed := true, recurses := true, apart := false }
def FnExactRemoteMarkSaid : Prop := fnExactRemoteMarkRow.holds Try.pinned (OpenSpec.ofChange fnExactRemoteMarkSpec)

/-- ITS FALSE NEIGHBOUR: 'it returns false'. Refute it at one input. -/
def fnExactRemoteMarkWrong : ChangeSpec := { name := "fnExactRemoteMark", fn := fun _ => fun
  | [d] => { results := [.lit (.bool false)], args := [d] }
  | _ => none }
def FnExactRemoteMarkWrongFalsely : Prop := fnExactRemoteMarkRow.holds Try.pinned (OpenSpec.ofChange fnExactRemoteMarkWrong)

/-- 'laws.FnExactLagOf': WHATEVER THE INPUT: true; the input reads as it did. -/
def fnExactLagOfSpec : ChangeSpec := { name := "fnExactLagOf", fn := fun _ => fun
  | [d] => { results := [.lit (.bool true)], args := [d] }
  | _ => none }
def fnExactLagOfRow : OpenClaim := { program := "ytfdkhoelcmmfcaa", sum := "dc8d5bf8e16788b6b870022affa426c1d849d369d508ce5fe928595136080a8a", func := "loop.example/g00541/laws.FnExactLagOf", spec := "fnExactLagOf", unfollowed := true, recurses := true, apart := false }
def FnExactLagOfSaid : Prop := fnExactLagOfRow.holds Try.pinned (OpenSpec.ofChange fnExactLagOfSpec)

/-- ITS FALSE NEIGHBOUR: 'it returns false'. Refute it at one input. -/
def fnExactLagOfWrong : ChangeSpec := { name := "fnExactLagOf", fn := fun _ => fun
  | [d] => { results := [.lit (.bool false)], args := [d] }
  | _ => none }
def FnExactLagOfWrongFalsely : Prop := fnExactLagOfRow.holds Try.pinned (OpenSpec.ofChange fnExactLagOfWrong)

/- THE SECOND FORM. 'bulk': how many values and letters a reading holds, each counted each time it is reached (what is shared counts as often as it is met; a slice's spare places count too). A statement '..UptoSaid' is the law's where the arguments, and the package variables that the reading takes, are together of bulk at most 1048576: NARROWER than '..Said'. Prove '..Said' where nothing that the law and all that it calls make is longer than what came in: it says more and counts as full. Else prove '..UptoSaid'. A law counts once. -/
mutual
def uptoBulk {H : Type} : DataW H → Nat
  | .lit (.string bytes) => bytes.length + 1
  | .lit _ => 1
  | .nil => 1
  | .ptr d => uptoBulk d + 1
  | .slice elems spare => uptoBulkAll elems + uptoBulkAll spare + 1
  | .agg parts => uptoBulkAll parts + 1
  | .iface _ d => uptoBulk d + 1
  | .map entries => uptoBulkEntries entries + 1
  | .held _ => 1
def uptoBulkAll {H : Type} : List (DataW H) → Nat
  | [] => 0
  | d :: r => uptoBulk d + uptoBulkAll r
def uptoBulkEntries {H : Type} : List (Lit × DataW H) → Nat
  | [] => 0
  | x :: r => uptoBulkEntry x + uptoBulkEntries r
def uptoBulkEntry {H : Type} : Lit × DataW H → Nat
  | (.string bytes, d) => bytes.length + uptoBulk d + 1
  | (_, d) => uptoBulk d + 1
 end
def uptoSmall : (H : Type) → List (DataW H) → Bool := fun _ ds => decide (uptoBulkAll ds ≤ 1048576)
def OpenSpec.upto (s : _root_.Go.ChangeSpec) : _root_.Go.OpenSpec := { _root_.Go.OpenSpec.ofChange s with cond := some uptoSmall }

/-- 'laws.FnExactNewMirror', WHERE WHAT IT READS IS OF BULK AT MOST 1048576: true; the input reads as it did. -/
def fnExactNewMirrorUptoRow : OpenClaim := { program := "ytfdkhoelcmmfcaa", sum := "dc8d5bf8e16788b6b870022affa426c1d849d369d508ce5fe928595136080a8a", func := "loop.example/g00541/laws.FnExactNewMirror", spec := "fnExactNewMirror", unfollowed := true, recurses := true, apart := false, narrowed := true }
def FnExactNewMirrorUptoSaid : Prop := fnExactNewMirrorUptoRow.holds Try.pinned (OpenSpec.upto fnExactNewMirrorSpec)

/-- 'laws.FnExactGoodMirror', WHERE WHAT IT READS IS OF BULK AT MOST 1048576: true; the input reads as it did. -/
def fnExactGoodMirrorUptoRow : OpenClaim := { program := "ytfdkhoelcmmfcaa", sum := "dc8d5bf8e16788b6b870022affa426c1d849d369d508ce5fe928595136080a8a", func := "loop.example/g00541/laws.FnExactGoodMirror", spec := "fnExactGoodMirror", unfollowed := true, recurses := true, apart := false, narrowed := true }
def FnExactGoodMirrorUptoSaid : Prop := fnExactGoodMirrorUptoRow.holds Try.pinned (OpenSpec.upto fnExactGoodMirrorSpec)

/-- 'laws.FnExactRemoteMark', WHERE WHAT IT READS IS OF BULK AT MOST 1048576: true; the input reads as it did. -/
def fnExactRemoteMarkUptoRow : OpenClaim := { program := "ytfdkhoelcmmfcaa", sum := "dc8d5bf8e16788b6b870022affa426c1d849d369d508ce5fe928595136080a8a", func := "loop.example/g00541/laws.FnExactRemoteMark", spec := "fnExactRemoteMark", unfollowed := true, recurses := true, apart := false, narrowed := true }
def FnExactRemoteMarkUptoSaid : Prop := fnExactRemoteMarkUptoRow.holds Try.pinned (OpenSpec.upto fnExactRemoteMarkSpec)

/-- 'laws.FnExactLagOf', WHERE WHAT IT READS IS OF BULK AT MOST 1048576: true; the input reads as it did. -/
def fnExactLagOfUptoRow : OpenClaim := { program := "ytfdkhoelcmmfcaa", sum := "dc8d5bf8e16788b6b870022affa426c1d849d369d508ce5fe928595136080a8a", func := "loop.example/g00541/laws.FnExactLagOf", spec := "fnExactLagOf", unfollowed := true, recurses := true, apart := false, narrowed := true }
def FnExactLagOfUptoSaid : Prop := fnExactLagOfUptoRow.holds Try.pinned (OpenSpec.upto fnExactLagOfSpec)

end Rows
end Go.Proofs.Ytfdkhoelcmmfcaa
