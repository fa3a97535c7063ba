/-
  No cell of these rows narrows 'for every input' (looked for: loops, veiled, ifaces, maps, wideKeys, modest, calm, conditions, laid).
  DERIVED. THE GIVEN ROWS OF THIS SEAT. 6 by the template 'for every input the law returns true; each argument reads behind the call as it read before'; 0 by the template 'total and deterministic' (their statements: YtghhjjblmmhcgaaTotals.lean).
  GIVEN WITH THE SEED: the statements are not yours to turn. If you find one false, say at which input.
  Laid BY PROGRAM, IN A SANDBOX (cutbox-rows.mjs): the forced cells as the released guide's own fill.sh prints them over the translation 41c08203e67c10d8… (all of the seat's roots in one cut). By AI agents, Wed Nov 11 2026. No macro, syntax, notation, axiom, sorry.
-/
import Derived.Test.YtghhjjblmmhcgaaChecked
import GoSem.Claim
import GoSem.ClaimJoined
import GoSem.ClaimMapViews
import Derived.JoinedTies
import Derived.KernelRfl
namespace Go.Proofs.Ytghhjjblmmhcgaa
/- THE CELL 'sum', in the pinned program and in every row, IS THE sha256 OF THE DUMP (.gsa) THAT YtghhjjblmmhcgaaProg.lean LOADS. Nothing in Lean hashes anything: it is a label: what it is worth is what the hold of that sum in a sandbox is worth. -/
noncomputable def Try.pinned : Pinned := { name := "ytghhjjblmmhcgaa", sum := "41c08203e67c10d89b0299a31042a1e649c9e04c6060e45e5f42652d95f1498f", checked := Try.checked }
namespace Rows
def none {H : Type} : Left H := { results := [], args := [] }

/-- 'laws.FnExactGoodSet': WHATEVER THE INPUT: true; the input reads as it did. -/
def fnExactGoodSetSpec : ChangeSpec := { name := "fnExactGoodSet", fn := fun _ => fun
  | [d] => { results := [.lit (.bool true)], args := [d] }
  | _ => none }
def fnExactGoodSetRow : OpenClaim := { program := "ytghhjjblmmhcgaa", sum := "41c08203e67c10d89b0299a31042a1e649c9e04c6060e45e5f42652d95f1498f", func := "loop.example/g00541/laws.FnExactGoodSet", spec := "fnExactGoodSet", apart := false }
def FnExactGoodSetSaid : Prop := fnExactGoodSetRow.holds Try.pinned (OpenSpec.ofChange fnExactGoodSetSpec)

/-- ITS FALSE NEIGHBOUR: 'it returns false'. Refute it at one input. -/
def fnExactGoodSetWrong : ChangeSpec := { name := "fnExactGoodSet", fn := fun _ => fun
  | [d] => { results := [.lit (.bool false)], args := [d] }
  | _ => none }
def FnExactGoodSetWrongFalsely : Prop := fnExactGoodSetRow.holds Try.pinned (OpenSpec.ofChange fnExactGoodSetWrong)

/-- 'laws.FnExactPowerSums': WHATEVER THE INPUT: true; the input reads as it did. -/
def fnExactPowerSumsSpec : ChangeSpec := { name := "fnExactPowerSums", fn := fun _ => fun
  | [d1, d2] => { results := [.lit (.bool true)], args := [d1, d2] }
  | _ => none }
def fnExactPowerSumsRow : OpenClaim := { program := "ytghhjjblmmhcgaa", sum := "41c08203e67c10d89b0299a31042a1e649c9e04c6060e45e5f42652d95f1498f", func := "loop.example/g00541/laws.FnExactPowerSums", spec := "fnExactPowerSums", apart := false }
def FnExactPowerSumsSaid : Prop := fnExactPowerSumsRow.holds Try.pinned (OpenSpec.ofChange fnExactPowerSumsSpec)

/-- ITS FALSE NEIGHBOUR: 'it returns false'. Refute it at one input. -/
def fnExactPowerSumsWrong : ChangeSpec := { name := "fnExactPowerSums", fn := fun _ => fun
  | [d1, d2] => { results := [.lit (.bool false)], args := [d1, d2] }
  | _ => none }
def FnExactPowerSumsWrongFalsely : Prop := fnExactPowerSumsRow.holds Try.pinned (OpenSpec.ofChange fnExactPowerSumsWrong)

/-- 'laws.FnExactElementaryOf': WHATEVER THE INPUT: true; the input reads as it did. -/
def fnExactElementaryOfSpec : ChangeSpec := { name := "fnExactElementaryOf", fn := fun _ => fun
  | [d] => { results := [.lit (.bool true)], args := [d] }
  | _ => none }
def fnExactElementaryOfRow : OpenClaim := { program := "ytghhjjblmmhcgaa", sum := "41c08203e67c10d89b0299a31042a1e649c9e04c6060e45e5f42652d95f1498f", func := "loop.example/g00541/laws.FnExactElementaryOf", spec := "fnExactElementaryOf", apart := false }
def FnExactElementaryOfSaid : Prop := fnExactElementaryOfRow.holds Try.pinned (OpenSpec.ofChange fnExactElementaryOfSpec)

/-- ITS FALSE NEIGHBOUR: 'it returns false'. Refute it at one input. -/
def fnExactElementaryOfWrong : ChangeSpec := { name := "fnExactElementaryOf", fn := fun _ => fun
  | [d] => { results := [.lit (.bool false)], args := [d] }
  | _ => none }
def FnExactElementaryOfWrongFalsely : Prop := fnExactElementaryOfRow.holds Try.pinned (OpenSpec.ofChange fnExactElementaryOfWrong)

/-- 'laws.FnExactSumsOf': WHATEVER THE INPUT: true; the input reads as it did. -/
def fnExactSumsOfSpec : ChangeSpec := { name := "fnExactSumsOf", fn := fun _ => fun
  | [d1, d2] => { results := [.lit (.bool true)], args := [d1, d2] }
  | _ => none }
def fnExactSumsOfRow : OpenClaim := { program := "ytghhjjblmmhcgaa", sum := "41c08203e67c10d89b0299a31042a1e649c9e04c6060e45e5f42652d95f1498f", func := "loop.example/g00541/laws.FnExactSumsOf", spec := "fnExactSumsOf", apart := false }
def FnExactSumsOfSaid : Prop := fnExactSumsOfRow.holds Try.pinned (OpenSpec.ofChange fnExactSumsOfSpec)

/-- ITS FALSE NEIGHBOUR: 'it returns false'. Refute it at one input. -/
def fnExactSumsOfWrong : ChangeSpec := { name := "fnExactSumsOf", fn := fun _ => fun
  | [d1, d2] => { results := [.lit (.bool false)], args := [d1, d2] }
  | _ => none }
def FnExactSumsOfWrongFalsely : Prop := fnExactSumsOfRow.holds Try.pinned (OpenSpec.ofChange fnExactSumsOfWrong)

/-- 'laws.FnExactRootsOf': WHATEVER THE INPUT: true; the input reads as it did. -/
def fnExactRootsOfSpec : ChangeSpec := { name := "fnExactRootsOf", fn := fun _ => fun
  | [d] => { results := [.lit (.bool true)], args := [d] }
  | _ => none }
def fnExactRootsOfRow : OpenClaim := { program := "ytghhjjblmmhcgaa", sum := "41c08203e67c10d89b0299a31042a1e649c9e04c6060e45e5f42652d95f1498f", func := "loop.example/g00541/laws.FnExactRootsOf", spec := "fnExactRootsOf", unfollowed := true, recurses := true, apart := false }
def FnExactRootsOfSaid : Prop := fnExactRootsOfRow.holds Try.pinned (OpenSpec.ofChange fnExactRootsOfSpec)

/-- ITS FALSE NEIGHBOUR: 'it returns false'. Refute it at one input. -/
def fnExactRootsOfWrong : ChangeSpec := { name := "fnExactRootsOf", fn := fun _ => fun
  | [d] => { results := [.lit (.bool false)], args := [d] }
  | _ => none }
def FnExactRootsOfWrongFalsely : Prop := fnExactRootsOfRow.holds Try.pinned (OpenSpec.ofChange fnExactRootsOfWrong)

/-- 'laws.FnExactLackedBy': WHATEVER THE INPUT: true; the input reads as it did. -/
def fnExactLackedBySpec : ChangeSpec := { name := "fnExactLackedBy", fn := fun _ => fun
  | [d1, d2] => { results := [.lit (.bool true)], args := [d1, d2] }
  | _ => none }
def fnExactLackedByRow : OpenClaim := { program := "ytghhjjblmmhcgaa", sum := "41c08203e67c10d89b0299a31042a1e649c9e04c6060e45e5f42652d95f1498f", func := "loop.example/g00541/laws.FnExactLackedBy", spec := "fnExactLackedBy", unfollowed := true, recurses := true, apart := false }
def FnExactLackedBySaid : Prop := fnExactLackedByRow.holds Try.pinned (OpenSpec.ofChange fnExactLackedBySpec)

/-- ITS FALSE NEIGHBOUR: 'it returns false'. Refute it at one input. -/
def fnExactLackedByWrong : ChangeSpec := { name := "fnExactLackedBy", fn := fun _ => fun
  | [d1, d2] => { results := [.lit (.bool false)], args := [d1, d2] }
  | _ => none }
def FnExactLackedByWrongFalsely : Prop := fnExactLackedByRow.holds Try.pinned (OpenSpec.ofChange fnExactLackedByWrong)

/- THE SECOND FORM. 'bulk': how many values and letters a reading holds, each counted each time it is reached (what is shared counts as often as it is met; a slice's spare places count too). A statement '..UptoSaid' is the law's where the arguments, and the package variables that the reading takes, are together of bulk at most 1048576: NARROWER than '..Said'. Prove '..Said' where nothing that the law and all that it calls make is longer than what came in: it says more and counts as full. Else prove '..UptoSaid'. A law counts once. -/
mutual
def uptoBulk {H : Type} : DataW H → Nat
  | .lit (.string bytes) => bytes.length + 1
  | .lit _ => 1
  | .nil => 1
  | .ptr d => uptoBulk d + 1
  | .slice elems spare => uptoBulkAll elems + uptoBulkAll spare + 1
  | .agg parts => uptoBulkAll parts + 1
  | .iface _ d => uptoBulk d + 1
  | .map entries => uptoBulkEntries entries + 1
  | .held _ => 1
def uptoBulkAll {H : Type} : List (DataW H) → Nat
  | [] => 0
  | d :: r => uptoBulk d + uptoBulkAll r
def uptoBulkEntries {H : Type} : List (Lit × DataW H) → Nat
  | [] => 0
  | x :: r => uptoBulkEntry x + uptoBulkEntries r
def uptoBulkEntry {H : Type} : Lit × DataW H → Nat
  | (.string bytes, d) => bytes.length + uptoBulk d + 1
  | (_, d) => uptoBulk d + 1
 end
def uptoSmall : (H : Type) → List (DataW H) → Bool := fun _ ds => decide (uptoBulkAll ds ≤ 1048576)
def OpenSpec.upto (s : _root_.Go.ChangeSpec) : _root_.Go.OpenSpec := { _root_.Go.OpenSpec.ofChange s with cond := some uptoSmall }

/-- 'laws.FnExactGoodSet', WHERE WHAT IT READS IS OF BULK AT MOST 1048576: true; the input reads as it did. -/
def fnExactGoodSetUptoRow : OpenClaim := { program := "ytghhjjblmmhcgaa", sum := "41c08203e67c10d89b0299a31042a1e649c9e04c6060e45e5f42652d95f1498f", func := "loop.example/g00541/laws.FnExactGoodSet", spec := "fnExactGoodSet", apart := false, narrowed := true }
def FnExactGoodSetUptoSaid : Prop := fnExactGoodSetUptoRow.holds Try.pinned (OpenSpec.upto fnExactGoodSetSpec)

/-- 'laws.FnExactPowerSums', WHERE WHAT IT READS IS OF BULK AT MOST 1048576: true; the input reads as it did. -/
def fnExactPowerSumsUptoRow : OpenClaim := { program := "ytghhjjblmmhcgaa", sum := "41c08203e67c10d89b0299a31042a1e649c9e04c6060e45e5f42652d95f1498f", func := "loop.example/g00541/laws.FnExactPowerSums", spec := "fnExactPowerSums", apart := false, narrowed := true }
def FnExactPowerSumsUptoSaid : Prop := fnExactPowerSumsUptoRow.holds Try.pinned (OpenSpec.upto fnExactPowerSumsSpec)

/-- 'laws.FnExactElementaryOf', WHERE WHAT IT READS IS OF BULK AT MOST 1048576: true; the input reads as it did. -/
def fnExactElementaryOfUptoRow : OpenClaim := { program := "ytghhjjblmmhcgaa", sum := "41c08203e67c10d89b0299a31042a1e649c9e04c6060e45e5f42652d95f1498f", func := "loop.example/g00541/laws.FnExactElementaryOf", spec := "fnExactElementaryOf", apart := false, narrowed := true }
def FnExactElementaryOfUptoSaid : Prop := fnExactElementaryOfUptoRow.holds Try.pinned (OpenSpec.upto fnExactElementaryOfSpec)

/-- 'laws.FnExactSumsOf', WHERE WHAT IT READS IS OF BULK AT MOST 1048576: true; the input reads as it did. -/
def fnExactSumsOfUptoRow : OpenClaim := { program := "ytghhjjblmmhcgaa", sum := "41c08203e67c10d89b0299a31042a1e649c9e04c6060e45e5f42652d95f1498f", func := "loop.example/g00541/laws.FnExactSumsOf", spec := "fnExactSumsOf", apart := false, narrowed := true }
def FnExactSumsOfUptoSaid : Prop := fnExactSumsOfUptoRow.holds Try.pinned (OpenSpec.upto fnExactSumsOfSpec)

/-- 'laws.FnExactRootsOf', WHERE WHAT IT READS IS OF BULK AT MOST 1048576: true; the input reads as it did. -/
def fnExactRootsOfUptoRow : OpenClaim := { program := "ytghhjjblmmhcgaa", sum := "41c08203e67c10d89b0299a31042a1e649c9e04c6060e45e5f42652d95f1498f", func := "loop.example/g00541/laws.FnExactRootsOf", spec := "fnExactRootsOf", unfollowed := true, recurses := true, apart := false, narrowed := true }
def FnExactRootsOfUptoSaid : Prop := fnExactRootsOfUptoRow.holds Try.pinned (OpenSpec.upto fnExactRootsOfSpec)

/-- 'laws.FnExactLackedBy', WHERE WHAT IT READS IS OF BULK AT MOST 1048576: true; the input reads as it did. -/
def fnExactLackedByUptoRow : OpenClaim := { program := "ytghhjjblmmhcgaa", sum := "41c08203e67c10d89b0299a31042a1e649c9e04c6060e45e5f42652d95f1498f", func := "loop.example/g00541/laws.FnExactLackedBy", spec := "fnExactLackedBy", unfollowed := true, recurses := true, apart := false, narrowed := true }
def FnExactLackedByUptoSaid : Prop := fnExactLackedByUptoRow.holds Try.pinned (OpenSpec.upto fnExactLackedBySpec)

end Rows
end Go.Proofs.Ytghhjjblmmhcgaa
