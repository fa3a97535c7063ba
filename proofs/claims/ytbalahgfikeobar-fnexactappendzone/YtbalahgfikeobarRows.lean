/-
  No cell of these rows narrows 'for every input' (looked for: loops, veiled, ifaces, maps, wideKeys, modest, calm, conditions, laid).
  DERIVED. THE GIVEN ROWS OF THIS SEAT. 5 by the template 'for every input the law returns true; each argument reads behind the call as it read before'; 0 by the template 'total and deterministic' (their statements: YtbalahgfikeobarTotals.lean).
  GIVEN WITH THE SEED: the statements are not yours to turn. If you find one false, say at which input.
  Laid BY PROGRAM, IN A SANDBOX (cutbox-rows.mjs): the forced cells as the released guide's own fill.sh prints them over the translation f2e2bd1f08024e7b… (all of the seat's roots in one cut). By AI agents, Wed Nov 11 2026. No macro, syntax, notation, axiom, sorry.
-/
import Derived.Test.YtbalahgfikeobarChecked
import GoSem.Claim
import GoSem.ClaimJoined
import GoSem.ClaimMapViews
import Derived.JoinedTies
import Derived.KernelRfl
namespace Go.Proofs.Ytbalahgfikeobar
/- THE CELL 'sum', in the pinned program and in every row, IS THE sha256 OF THE DUMP (.gsa) THAT YtbalahgfikeobarProg.lean LOADS. Nothing in Lean hashes anything: it is a label: what it is worth is what the hold of that sum in a sandbox is worth. -/
noncomputable def Try.pinned : Pinned := { name := "ytbalahgfikeobar", sum := "f2e2bd1f08024e7b70c5fca93e1726124fdd4768df00ee483a09dcccc3b473aa", checked := Try.checked }
namespace Rows
def none {H : Type} : Left H := { results := [], args := [] }

/-- 'laws.FnExactUnlikeBits': WHATEVER THE INPUT: true; the input reads as it did. -/
def fnExactUnlikeBitsSpec : ChangeSpec := { name := "fnExactUnlikeBits", fn := fun _ => fun
  | [d1, d2] => { results := [.lit (.bool true)], args := [d1, d2] }
  | _ => none }
def fnExactUnlikeBitsRow : OpenClaim := { program := "ytbalahgfikeobar", sum := "f2e2bd1f08024e7b70c5fca93e1726124fdd4768df00ee483a09dcccc3b473aa", func := "loop.example/g00541/laws.FnExactUnlikeBits", spec := "fnExactUnlikeBits", apart := false }
def FnExactUnlikeBitsSaid : Prop := fnExactUnlikeBitsRow.holds Try.pinned (OpenSpec.ofChange fnExactUnlikeBitsSpec)

/-- ITS FALSE NEIGHBOUR: 'it returns false'. Refute it at one input. -/
def fnExactUnlikeBitsWrong : ChangeSpec := { name := "fnExactUnlikeBits", fn := fun _ => fun
  | [d1, d2] => { results := [.lit (.bool false)], args := [d1, d2] }
  | _ => none }
def FnExactUnlikeBitsWrongFalsely : Prop := fnExactUnlikeBitsRow.holds Try.pinned (OpenSpec.ofChange fnExactUnlikeBitsWrong)

/-- 'laws.FnExactNewDevice': WHATEVER THE INPUT: true; the input reads as it did. -/
def fnExactNewDeviceSpec : ChangeSpec := { name := "fnExactNewDevice", fn := fun _ => fun
  | [d] => { results := [.lit (.bool true)], args := [d] }
  | _ => none }
def fnExactNewDeviceRow : OpenClaim := { program := "ytbalahgfikeobar", sum := "f2e2bd1f08024e7b70c5fca93e1726124fdd4768df00ee483a09dcccc3b473aa", func := "loop.example/g00541/laws.FnExactNewDevice", spec := "fnExactNewDevice", apart := false }
def FnExactNewDeviceSaid : Prop := fnExactNewDeviceRow.holds Try.pinned (OpenSpec.ofChange fnExactNewDeviceSpec)

/-- ITS FALSE NEIGHBOUR: 'it returns false'. Refute it at one input. -/
def fnExactNewDeviceWrong : ChangeSpec := { name := "fnExactNewDevice", fn := fun _ => fun
  | [d] => { results := [.lit (.bool false)], args := [d] }
  | _ => none }
def FnExactNewDeviceWrongFalsely : Prop := fnExactNewDeviceRow.holds Try.pinned (OpenSpec.ofChange fnExactNewDeviceWrong)

/-- 'laws.FnExactGoodDevice': WHATEVER THE INPUT: true; the input reads as it did. -/
def fnExactGoodDeviceSpec : ChangeSpec := { name := "fnExactGoodDevice", fn := fun _ => fun
  | [d] => { results := [.lit (.bool true)], args := [d] }
  | _ => none }
def fnExactGoodDeviceRow : OpenClaim := { program := "ytbalahgfikeobar", sum := "f2e2bd1f08024e7b70c5fca93e1726124fdd4768df00ee483a09dcccc3b473aa", func := "loop.example/g00541/laws.FnExactGoodDevice", spec := "fnExactGoodDevice", apart := false }
def FnExactGoodDeviceSaid : Prop := fnExactGoodDeviceRow.holds Try.pinned (OpenSpec.ofChange fnExactGoodDeviceSpec)

/-- ITS FALSE NEIGHBOUR: 'it returns false'. Refute it at one input. -/
def fnExactGoodDeviceWrong : ChangeSpec := { name := "fnExactGoodDevice", fn := fun _ => fun
  | [d] => { results := [.lit (.bool false)], args := [d] }
  | _ => none }
def FnExactGoodDeviceWrongFalsely : Prop := fnExactGoodDeviceRow.holds Try.pinned (OpenSpec.ofChange fnExactGoodDeviceWrong)

/-- 'laws.FnExactAppendZone': WHATEVER THE INPUT: true; the input reads as it did. -/
def fnExactAppendZoneSpec : ChangeSpec := { name := "fnExactAppendZone", fn := fun _ => fun
  | [d1, d2, d3] => { results := [.lit (.bool true)], args := [d1, d2, d3] }
  | _ => none }
def fnExactAppendZoneRow : OpenClaim := { program := "ytbalahgfikeobar", sum := "f2e2bd1f08024e7b70c5fca93e1726124fdd4768df00ee483a09dcccc3b473aa", func := "loop.example/g00541/laws.FnExactAppendZone", spec := "fnExactAppendZone", apart := false }
def FnExactAppendZoneSaid : Prop := fnExactAppendZoneRow.holds Try.pinned (OpenSpec.ofChange fnExactAppendZoneSpec)

/-- ITS FALSE NEIGHBOUR: 'it returns false'. Refute it at one input. -/
def fnExactAppendZoneWrong : ChangeSpec := { name := "fnExactAppendZone", fn := fun _ => fun
  | [d1, d2, d3] => { results := [.lit (.bool false)], args := [d1, d2, d3] }
  | _ => none }
def FnExactAppendZoneWrongFalsely : Prop := fnExactAppendZoneRow.holds Try.pinned (OpenSpec.ofChange fnExactAppendZoneWrong)

/-- 'laws.FnExactResetZone': WHATEVER THE INPUT: true; the input reads as it did. -/
def fnExactResetZoneSpec : ChangeSpec := { name := "fnExactResetZone", fn := fun _ => fun
  | [d1, d2] => { results := [.lit (.bool true)], args := [d1, d2] }
  | _ => none }
def fnExactResetZoneRow : OpenClaim := { program := "ytbalahgfikeobar", sum := "f2e2bd1f08024e7b70c5fca93e1726124fdd4768df00ee483a09dcccc3b473aa", func := "loop.example/g00541/laws.FnExactResetZone", spec := "fnExactResetZone", apart := false }
def FnExactResetZoneSaid : Prop := fnExactResetZoneRow.holds Try.pinned (OpenSpec.ofChange fnExactResetZoneSpec)

/-- ITS FALSE NEIGHBOUR: 'it returns false'. Refute it at one input. -/
def fnExactResetZoneWrong : ChangeSpec := { name := "fnExactResetZone", fn := fun _ => fun
  | [d1, d2] => { results := [.lit (.bool false)], args := [d1, d2] }
  | _ => none }
def FnExactResetZoneWrongFalsely : Prop := fnExactResetZoneRow.holds Try.pinned (OpenSpec.ofChange fnExactResetZoneWrong)

/- THE SECOND FORM. 'bulk': how many values and letters a reading holds, each counted each time it is reached (what is shared counts as often as it is met; a slice's spare places count too). A statement '..UptoSaid' is the law's where the arguments, and the package variables that the reading takes, are together of bulk at most 1048576: NARROWER than '..Said'. Prove '..Said' where nothing that the law and all that it calls make is longer than what came in: it says more and counts as full. Else prove '..UptoSaid'. A law counts once. -/
mutual
def uptoBulk {H : Type} : DataW H → Nat
  | .lit (.string bytes) => bytes.length + 1
  | .lit _ => 1
  | .nil => 1
  | .ptr d => uptoBulk d + 1
  | .slice elems spare => uptoBulkAll elems + uptoBulkAll spare + 1
  | .agg parts => uptoBulkAll parts + 1
  | .iface _ d => uptoBulk d + 1
  | .map entries => uptoBulkEntries entries + 1
  | .held _ => 1
def uptoBulkAll {H : Type} : List (DataW H) → Nat
  | [] => 0
  | d :: r => uptoBulk d + uptoBulkAll r
def uptoBulkEntries {H : Type} : List (Lit × DataW H) → Nat
  | [] => 0
  | x :: r => uptoBulkEntry x + uptoBulkEntries r
def uptoBulkEntry {H : Type} : Lit × DataW H → Nat
  | (.string bytes, d) => bytes.length + uptoBulk d + 1
  | (_, d) => uptoBulk d + 1
 end
def uptoSmall : (H : Type) → List (DataW H) → Bool := fun _ ds => decide (uptoBulkAll ds ≤ 1048576)
def OpenSpec.upto (s : _root_.Go.ChangeSpec) : _root_.Go.OpenSpec := { _root_.Go.OpenSpec.ofChange s with cond := some uptoSmall }

/-- 'laws.FnExactUnlikeBits', WHERE WHAT IT READS IS OF BULK AT MOST 1048576: true; the input reads as it did. -/
def fnExactUnlikeBitsUptoRow : OpenClaim := { program := "ytbalahgfikeobar", sum := "f2e2bd1f08024e7b70c5fca93e1726124fdd4768df00ee483a09dcccc3b473aa", func := "loop.example/g00541/laws.FnExactUnlikeBits", spec := "fnExactUnlikeBits", apart := false, narrowed := true }
def FnExactUnlikeBitsUptoSaid : Prop := fnExactUnlikeBitsUptoRow.holds Try.pinned (OpenSpec.upto fnExactUnlikeBitsSpec)

/-- 'laws.FnExactNewDevice', WHERE WHAT IT READS IS OF BULK AT MOST 1048576: true; the input reads as it did. -/
def fnExactNewDeviceUptoRow : OpenClaim := { program := "ytbalahgfikeobar", sum := "f2e2bd1f08024e7b70c5fca93e1726124fdd4768df00ee483a09dcccc3b473aa", func := "loop.example/g00541/laws.FnExactNewDevice", spec := "fnExactNewDevice", apart := false, narrowed := true }
def FnExactNewDeviceUptoSaid : Prop := fnExactNewDeviceUptoRow.holds Try.pinned (OpenSpec.upto fnExactNewDeviceSpec)

/-- 'laws.FnExactGoodDevice', WHERE WHAT IT READS IS OF BULK AT MOST 1048576: true; the input reads as it did. -/
def fnExactGoodDeviceUptoRow : OpenClaim := { program := "ytbalahgfikeobar", sum := "f2e2bd1f08024e7b70c5fca93e1726124fdd4768df00ee483a09dcccc3b473aa", func := "loop.example/g00541/laws.FnExactGoodDevice", spec := "fnExactGoodDevice", apart := false, narrowed := true }
def FnExactGoodDeviceUptoSaid : Prop := fnExactGoodDeviceUptoRow.holds Try.pinned (OpenSpec.upto fnExactGoodDeviceSpec)

/-- 'laws.FnExactAppendZone', WHERE WHAT IT READS IS OF BULK AT MOST 1048576: true; the input reads as it did. -/
def fnExactAppendZoneUptoRow : OpenClaim := { program := "ytbalahgfikeobar", sum := "f2e2bd1f08024e7b70c5fca93e1726124fdd4768df00ee483a09dcccc3b473aa", func := "loop.example/g00541/laws.FnExactAppendZone", spec := "fnExactAppendZone", apart := false, narrowed := true }
def FnExactAppendZoneUptoSaid : Prop := fnExactAppendZoneUptoRow.holds Try.pinned (OpenSpec.upto fnExactAppendZoneSpec)

/-- 'laws.FnExactResetZone', WHERE WHAT IT READS IS OF BULK AT MOST 1048576: true; the input reads as it did. -/
def fnExactResetZoneUptoRow : OpenClaim := { program := "ytbalahgfikeobar", sum := "f2e2bd1f08024e7b70c5fca93e1726124fdd4768df00ee483a09dcccc3b473aa", func := "loop.example/g00541/laws.FnExactResetZone", spec := "fnExactResetZone", apart := false, narrowed := true }
def FnExactResetZoneUptoSaid : Prop := fnExactResetZoneUptoRow.holds Try.pinned (OpenSpec.upto fnExactResetZoneSpec)

end Rows
end Go.Proofs.Ytbalahgfikeobar
