/-
  No cell of these rows narrows 'for every input' (looked for: loops, veiled, ifaces, maps, wideKeys, modest, calm, conditions, laid).
  DERIVED. THE GIVEN ROWS OF THIS SEAT. 6 by the template 'for every input the law returns true; each argument reads behind the call as it read before'; 0 by the template 'total and deterministic' (their statements: YtbipbihjaeobkaaTotals.lean).
  GIVEN WITH THE SEED: the statements are not yours to turn. If you find one false, say at which input.
  Laid BY PROGRAM, IN A SANDBOX (cutbox-rows.mjs): the forced cells as the released guide's own fill.sh prints them over the translation bb1645a8ba156bd1… (all of the seat's roots in one cut). By AI agents, Wed Nov 11 2026. No macro, syntax, notation, axiom, sorry.
-/
import Derived.Test.YtbipbihjaeobkaaChecked
import GoSem.Claim
import GoSem.ClaimJoined
import GoSem.ClaimMapViews
import Derived.JoinedTies
import Derived.KernelRfl
namespace Go.Proofs.Ytbipbihjaeobkaa
/- THE CELL 'sum', in the pinned program and in every row, IS THE sha256 OF THE DUMP (.gsa) THAT YtbipbihjaeobkaaProg.lean LOADS. Nothing in Lean hashes anything: it is a label: what it is worth is what the hold of that sum in a sandbox is worth. -/
noncomputable def Try.pinned : Pinned := { name := "ytbipbihjaeobkaa", sum := "bb1645a8ba156bd11fdfb6e779f0deacac7a7546edb3c684df0886613efc7c1d", checked := Try.checked }
namespace Rows
def none {H : Type} : Left H := { results := [], args := [] }

/-- 'laws.FnExactNewVolume': WHATEVER THE INPUT: true; the input reads as it did. -/
def fnExactNewVolumeSpec : ChangeSpec := { name := "fnExactNewVolume", fn := fun _ => fun
  | [] => { results := [.lit (.bool true)], args := [] }
  | _ => none }
def fnExactNewVolumeRow : OpenClaim := { program := "ytbipbihjaeobkaa", sum := "bb1645a8ba156bd11fdfb6e779f0deacac7a7546edb3c684df0886613efc7c1d", func := "loop.example/g00541/laws.FnExactNewVolume", spec := "fnExactNewVolume", apart := false }
def FnExactNewVolumeSaid : Prop := fnExactNewVolumeRow.holds Try.pinned (OpenSpec.ofChange fnExactNewVolumeSpec)

/-- ITS FALSE NEIGHBOUR: 'it returns false'. Refute it at one input. -/
def fnExactNewVolumeWrong : ChangeSpec := { name := "fnExactNewVolume", fn := fun _ => fun
  | [] => { results := [.lit (.bool false)], args := [] }
  | _ => none }
def FnExactNewVolumeWrongFalsely : Prop := fnExactNewVolumeRow.holds Try.pinned (OpenSpec.ofChange fnExactNewVolumeWrong)

/-- 'laws.FnExactGoodVolume': WHATEVER THE INPUT: true; the input reads as it did. -/
def fnExactGoodVolumeSpec : ChangeSpec := { name := "fnExactGoodVolume", fn := fun _ => fun
  | [d] => { results := [.lit (.bool true)], args := [d] }
  | _ => none }
def fnExactGoodVolumeRow : OpenClaim := { program := "ytbipbihjaeobkaa", sum := "bb1645a8ba156bd11fdfb6e779f0deacac7a7546edb3c684df0886613efc7c1d", func := "loop.example/g00541/laws.FnExactGoodVolume", spec := "fnExactGoodVolume", unfollowed := true, recurses := true, apart := false }
def FnExactGoodVolumeSaid : Prop := fnExactGoodVolumeRow.holds Try.pinned (OpenSpec.ofChange fnExactGoodVolumeSpec)

/-- ITS FALSE NEIGHBOUR: 'it returns false'. Refute it at one input. -/
def fnExactGoodVolumeWrong : ChangeSpec := { name := "fnExactGoodVolume", fn := fun _ => fun
  | [d] => { results := [.lit (.bool false)], args := [d] }
  | _ => none }
def FnExactGoodVolumeWrongFalsely : Prop := fnExactGoodVolumeRow.holds Try.pinned (OpenSpec.ofChange fnExactGoodVolumeWrong)

/-- 'laws.FnExactDoVolume': WHATEVER THE INPUT: true; the input reads as it did. -/
def fnExactDoVolumeSpec : ChangeSpec := { name := "fnExactDoVolume", fn := fun _ => fun
  | [d1, d2] => { results := [.lit (.bool true)], args := [d1, d2] }
  | _ => none }
def fnExactDoVolumeRow : OpenClaim := { program := "ytbipbihjaeobkaa", sum := "bb1645a8ba156bd11fdfb6e779f0deacac7a7546edb3c684df0886613efc7c1d", func := "loop.example/g00541/laws.FnExactDoVolume", spec := "fnExactDoVolume", unfollowed := true, recurses := true, apart := false }
def FnExactDoVolumeSaid : Prop := fnExactDoVolumeRow.holds Try.pinned (OpenSpec.ofChange fnExactDoVolumeSpec)

/-- ITS FALSE NEIGHBOUR: 'it returns false'. Refute it at one input. -/
def fnExactDoVolumeWrong : ChangeSpec := { name := "fnExactDoVolume", fn := fun _ => fun
  | [d1, d2] => { results := [.lit (.bool false)], args := [d1, d2] }
  | _ => none }
def FnExactDoVolumeWrongFalsely : Prop := fnExactDoVolumeRow.holds Try.pinned (OpenSpec.ofChange fnExactDoVolumeWrong)

/-- 'laws.FnExactPlayVolume': WHATEVER THE INPUT: true; the input reads as it did. -/
def fnExactPlayVolumeSpec : ChangeSpec := { name := "fnExactPlayVolume", fn := fun _ => fun
  | [d] => { results := [.lit (.bool true)], args := [d] }
  | _ => none }
def fnExactPlayVolumeRow : OpenClaim := { program := "ytbipbihjaeobkaa", sum := "bb1645a8ba156bd11fdfb6e779f0deacac7a7546edb3c684df0886613efc7c1d", func := "loop.example/g00541/laws.FnExactPlayVolume", spec := "fnExactPlayVolume", unfollowed := true, recurses := true, apart := false }
def FnExactPlayVolumeSaid : Prop := fnExactPlayVolumeRow.holds Try.pinned (OpenSpec.ofChange fnExactPlayVolumeSpec)

/-- ITS FALSE NEIGHBOUR: 'it returns false'. Refute it at one input. -/
def fnExactPlayVolumeWrong : ChangeSpec := { name := "fnExactPlayVolume", fn := fun _ => fun
  | [d] => { results := [.lit (.bool false)], args := [d] }
  | _ => none }
def FnExactPlayVolumeWrongFalsely : Prop := fnExactPlayVolumeRow.holds Try.pinned (OpenSpec.ofChange fnExactPlayVolumeWrong)

/-- 'laws.FnExactReadBlocks': WHATEVER THE INPUT: true; the input reads as it did. -/
def fnExactReadBlocksSpec : ChangeSpec := { name := "fnExactReadBlocks", fn := fun _ => fun
  | [d1, d2, d3] => { results := [.lit (.bool true)], args := [d1, d2, d3] }
  | _ => none }
def fnExactReadBlocksRow : OpenClaim := { program := "ytbipbihjaeobkaa", sum := "bb1645a8ba156bd11fdfb6e779f0deacac7a7546edb3c684df0886613efc7c1d", func := "loop.example/g00541/laws.FnExactReadBlocks", spec := "fnExactReadBlocks", inPlace := ["internal/abi.NoEscape", "internal/bytealg.MakeNoZero"], unfollowed := true, recurses := true, apart := false }
def FnExactReadBlocksSaid : Prop := fnExactReadBlocksRow.holds Try.pinned (OpenSpec.ofChange fnExactReadBlocksSpec)

/-- ITS FALSE NEIGHBOUR: 'it returns false'. Refute it at one input. -/
def fnExactReadBlocksWrong : ChangeSpec := { name := "fnExactReadBlocks", fn := fun _ => fun
  | [d1, d2, d3] => { results := [.lit (.bool false)], args := [d1, d2, d3] }
  | _ => none }
def FnExactReadBlocksWrongFalsely : Prop := fnExactReadBlocksRow.holds Try.pinned (OpenSpec.ofChange fnExactReadBlocksWrong)

/-- 'laws.FnExactBlocksIn': WHATEVER THE INPUT: true; the input reads as it did. -/
def fnExactBlocksInSpec : ChangeSpec := { name := "fnExactBlocksIn", fn := fun _ => fun
  | [d] => { results := [.lit (.bool true)], args := [d] }
  | _ => none }
def fnExactBlocksInRow : OpenClaim := { program := "ytbipbihjaeobkaa", sum := "bb1645a8ba156bd11fdfb6e779f0deacac7a7546edb3c684df0886613efc7c1d", func := "loop.example/g00541/laws.FnExactBlocksIn", spec := "fnExactBlocksIn", unfollowed := true, recurses := true, apart := false }
def FnExactBlocksInSaid : Prop := fnExactBlocksInRow.holds Try.pinned (OpenSpec.ofChange fnExactBlocksInSpec)

/-- ITS FALSE NEIGHBOUR: 'it returns false'. Refute it at one input. -/
def fnExactBlocksInWrong : ChangeSpec := { name := "fnExactBlocksIn", fn := fun _ => fun
  | [d] => { results := [.lit (.bool false)], args := [d] }
  | _ => none }
def FnExactBlocksInWrongFalsely : Prop := fnExactBlocksInRow.holds Try.pinned (OpenSpec.ofChange fnExactBlocksInWrong)

/- THE SECOND FORM. 'bulk': how many values and letters a reading holds, each counted each time it is reached (what is shared counts as often as it is met; a slice's spare places count too). A statement '..UptoSaid' is the law's where the arguments, and the package variables that the reading takes, are together of bulk at most 1048576: NARROWER than '..Said'. Prove '..Said' where nothing that the law and all that it calls make is longer than what came in: it says more and counts as full. Else prove '..UptoSaid'. A law counts once. -/
mutual
def uptoBulk {H : Type} : DataW H → Nat
  | .lit (.string bytes) => bytes.length + 1
  | .lit _ => 1
  | .nil => 1
  | .ptr d => uptoBulk d + 1
  | .slice elems spare => uptoBulkAll elems + uptoBulkAll spare + 1
  | .agg parts => uptoBulkAll parts + 1
  | .iface _ d => uptoBulk d + 1
  | .map entries => uptoBulkEntries entries + 1
  | .held _ => 1
def uptoBulkAll {H : Type} : List (DataW H) → Nat
  | [] => 0
  | d :: r => uptoBulk d + uptoBulkAll r
def uptoBulkEntries {H : Type} : List (Lit × DataW H) → Nat
  | [] => 0
  | x :: r => uptoBulkEntry x + uptoBulkEntries r
def uptoBulkEntry {H : Type} : Lit × DataW H → Nat
  | (.string bytes, d) => bytes.length + uptoBulk d + 1
  | (_, d) => uptoBulk d + 1
 end
def uptoSmall : (H : Type) → List (DataW H) → Bool := fun _ ds => decide (uptoBulkAll ds ≤ 1048576)
def OpenSpec.upto (s : _root_.Go.ChangeSpec) : _root_.Go.OpenSpec := { _root_.Go.OpenSpec.ofChange s with cond := some uptoSmall }

/-- 'laws.FnExactNewVolume', WHERE WHAT IT READS IS OF BULK AT MOST 1048576: true; the input reads as it did. -/
def fnExactNewVolumeUptoRow : OpenClaim := { program := "ytbipbihjaeobkaa", sum := "bb1645a8ba156bd11fdfb6e779f0deacac7a7546edb3c684df0886613efc7c1d", func := "loop.example/g00541/laws.FnExactNewVolume", spec := "fnExactNewVolume", apart := false, narrowed := true }
def FnExactNewVolumeUptoSaid : Prop := fnExactNewVolumeUptoRow.holds Try.pinned (OpenSpec.upto fnExactNewVolumeSpec)

/-- 'laws.FnExactGoodVolume', WHERE WHAT IT READS IS OF BULK AT MOST 1048576: true; the input reads as it did. -/
def fnExactGoodVolumeUptoRow : OpenClaim := { program := "ytbipbihjaeobkaa", sum := "bb1645a8ba156bd11fdfb6e779f0deacac7a7546edb3c684df0886613efc7c1d", func := "loop.example/g00541/laws.FnExactGoodVolume", spec := "fnExactGoodVolume", unfollowed := true, recurses := true, apart := false, narrowed := true }
def FnExactGoodVolumeUptoSaid : Prop := fnExactGoodVolumeUptoRow.holds Try.pinned (OpenSpec.upto fnExactGoodVolumeSpec)

/-- 'laws.FnExactDoVolume', WHERE WHAT IT READS IS OF BULK AT MOST 1048576: true; the input reads as it did. -/
def fnExactDoVolumeUptoRow : OpenClaim := { program := "ytbipbihjaeobkaa", sum := "bb1645a8ba156bd11fdfb6e779f0deacac7a7546edb3c684df0886613efc7c1d", func := "loop.example/g00541/laws.FnExactDoVolume", spec := "fnExactDoVolume", unfollowed := true, recurses := true, apart := false, narrowed := true }
def FnExactDoVolumeUptoSaid : Prop := fnExactDoVolumeUptoRow.holds Try.pinned (OpenSpec.upto fnExactDoVolumeSpec)

/-- 'laws.FnExactPlayVolume', WHERE WHAT IT READS IS OF BULK AT MOST 1048576: true; the input reads as it did. -/
def fnExactPlayVolumeUptoRow : OpenClaim := { program := "ytbipbihjaeobkaa", sum := "bb1645a8ba156bd11fdfb6e779f0deacac7a7546edb3c684df0886613efc7c1d", func := "loop.example/g00541/laws.FnExactPlayVolume", spec := "fnExactPlayVolume", unfollowed := true, recurses := true, apart := false, narrowed := true }
def FnExactPlayVolumeUptoSaid : Prop := fnExactPlayVolumeUptoRow.holds Try.pinned (OpenSpec.upto fnExactPlayVolumeSpec)

/-- 'laws.FnExactReadBlocks', WHERE WHAT IT READS IS OF BULK AT MOST 1048576: true; the input reads as it did. -/
def fnExactReadBlocksUptoRow : OpenClaim := { program := "ytbipbihjaeobkaa", sum := "bb1645a8ba156bd11fdfb6e779f0deacac7a7546edb3c684df0886613efc7c1d", func := "loop.example/g00541/laws.FnExactReadBlocks", spec := "fnExactReadBlocks", inPlace := ["internal/abi.NoEscape", "internal/bytealg.MakeNoZero"], unfollowed := true, recurses := true, apart := false, narrowed := true }
def FnExactReadBlocksUptoSaid : Prop := fnExactReadBlocksUptoRow.holds Try.pinned (OpenSpec.upto fnExactReadBlocksSpec)

/-- 'laws.FnExactBlocksIn', WHERE WHAT IT READS IS OF BULK AT MOST 1048576: true; the input reads as it did. -/
def fnExactBlocksInUptoRow : OpenClaim := { program := "ytbipbihjaeobkaa", sum := "bb1645a8ba156bd11fdfb6e779f0deacac7a7546edb3c684df0886613efc7c1d", func := "loop.example/g00541/laws.FnExactBlocksIn", spec := "fnExactBlocksIn", unfollowed := true, recurses := true, apart := false, narrowed := true }
def FnExactBlocksInUptoSaid : Prop := fnExactBlocksInUptoRow.holds Try.pinned (OpenSpec.upto fnExactBlocksInSpec)

end Rows
end Go.Proofs.Ytbipbihjaeobkaa
