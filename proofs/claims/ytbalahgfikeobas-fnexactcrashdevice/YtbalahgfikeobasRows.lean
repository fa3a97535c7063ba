/-
  No cell of these rows narrows 'for every input' (looked for: loops, veiled, ifaces, maps, wideKeys, modest, calm, conditions, laid).
  DERIVED. THE GIVEN ROWS OF THIS SEAT. 5 by the template 'for every input the law returns true; each argument reads behind the call as it read before'; 0 by the template 'total and deterministic' (their statements: YtbalahgfikeobasTotals.lean).
  GIVEN WITH THE SEED: the statements are not yours to turn. If you find one false, say at which input.
  Laid BY PROGRAM, IN A SANDBOX (cutbox-rows.mjs): the forced cells as the released guide's own fill.sh prints them over the translation 9e89fba3e37a2fc7… (all of the seat's roots in one cut). By AI agents, Wed Nov 11 2026. No macro, syntax, notation, axiom, sorry.
-/
import Derived.Test.YtbalahgfikeobasChecked
import GoSem.Claim
import GoSem.ClaimJoined
import GoSem.ClaimMapViews
import Derived.JoinedTies
import Derived.KernelRfl
namespace Go.Proofs.Ytbalahgfikeobas
/- THE CELL 'sum', in the pinned program and in every row, IS THE sha256 OF THE DUMP (.gsa) THAT YtbalahgfikeobasProg.lean LOADS. Nothing in Lean hashes anything: it is a label: what it is worth is what the hold of that sum in a sandbox is worth. -/
noncomputable def Try.pinned : Pinned := { name := "ytbalahgfikeobas", sum := "9e89fba3e37a2fc7de6fa0e7441dce7a6b744bca0fd184b80e524217638f96ed", checked := Try.checked }
namespace Rows
def none {H : Type} : Left H := { results := [], args := [] }

/-- 'laws.FnExactFinishZone': WHATEVER THE INPUT: true; the input reads as it did. -/
def fnExactFinishZoneSpec : ChangeSpec := { name := "fnExactFinishZone", fn := fun _ => fun
  | [d1, d2] => { results := [.lit (.bool true)], args := [d1, d2] }
  | _ => none }
def fnExactFinishZoneRow : OpenClaim := { program := "ytbalahgfikeobas", sum := "9e89fba3e37a2fc7de6fa0e7441dce7a6b744bca0fd184b80e524217638f96ed", func := "loop.example/g00541/laws.FnExactFinishZone", spec := "fnExactFinishZone", apart := false }
def FnExactFinishZoneSaid : Prop := fnExactFinishZoneRow.holds Try.pinned (OpenSpec.ofChange fnExactFinishZoneSpec)

/-- ITS FALSE NEIGHBOUR: 'it returns false'. Refute it at one input. -/
def fnExactFinishZoneWrong : ChangeSpec := { name := "fnExactFinishZone", fn := fun _ => fun
  | [d1, d2] => { results := [.lit (.bool false)], args := [d1, d2] }
  | _ => none }
def FnExactFinishZoneWrongFalsely : Prop := fnExactFinishZoneRow.holds Try.pinned (OpenSpec.ofChange fnExactFinishZoneWrong)

/-- 'laws.FnExactFlushDevice': WHATEVER THE INPUT: true; the input reads as it did. -/
def fnExactFlushDeviceSpec : ChangeSpec := { name := "fnExactFlushDevice", fn := fun _ => fun
  | [d] => { results := [.lit (.bool true)], args := [d] }
  | _ => none }
def fnExactFlushDeviceRow : OpenClaim := { program := "ytbalahgfikeobas", sum := "9e89fba3e37a2fc7de6fa0e7441dce7a6b744bca0fd184b80e524217638f96ed", func := "loop.example/g00541/laws.FnExactFlushDevice", spec := "fnExactFlushDevice", apart := false }
def FnExactFlushDeviceSaid : Prop := fnExactFlushDeviceRow.holds Try.pinned (OpenSpec.ofChange fnExactFlushDeviceSpec)

/-- ITS FALSE NEIGHBOUR: 'it returns false'. Refute it at one input. -/
def fnExactFlushDeviceWrong : ChangeSpec := { name := "fnExactFlushDevice", fn := fun _ => fun
  | [d] => { results := [.lit (.bool false)], args := [d] }
  | _ => none }
def FnExactFlushDeviceWrongFalsely : Prop := fnExactFlushDeviceRow.holds Try.pinned (OpenSpec.ofChange fnExactFlushDeviceWrong)

/-- 'laws.FnExactCrashDevice': WHATEVER THE INPUT: true; the input reads as it did. -/
def fnExactCrashDeviceSpec : ChangeSpec := { name := "fnExactCrashDevice", fn := fun _ => fun
  | [d1, d2] => { results := [.lit (.bool true)], args := [d1, d2] }
  | _ => none }
def fnExactCrashDeviceRow : OpenClaim := { program := "ytbalahgfikeobas", sum := "9e89fba3e37a2fc7de6fa0e7441dce7a6b744bca0fd184b80e524217638f96ed", func := "loop.example/g00541/laws.FnExactCrashDevice", spec := "fnExactCrashDevice", apart := false }
def FnExactCrashDeviceSaid : Prop := fnExactCrashDeviceRow.holds Try.pinned (OpenSpec.ofChange fnExactCrashDeviceSpec)

/-- ITS FALSE NEIGHBOUR: 'it returns false'. Refute it at one input. -/
def fnExactCrashDeviceWrong : ChangeSpec := { name := "fnExactCrashDevice", fn := fun _ => fun
  | [d1, d2] => { results := [.lit (.bool false)], args := [d1, d2] }
  | _ => none }
def FnExactCrashDeviceWrongFalsely : Prop := fnExactCrashDeviceRow.holds Try.pinned (OpenSpec.ofChange fnExactCrashDeviceWrong)

/-- 'laws.FnExactReadZone': WHATEVER THE INPUT: true; the input reads as it did. -/
def fnExactReadZoneSpec : ChangeSpec := { name := "fnExactReadZone", fn := fun _ => fun
  | [d1, d2, d3, d4] => { results := [.lit (.bool true)], args := [d1, d2, d3, d4] }
  | _ => none }
def fnExactReadZoneRow : OpenClaim := { program := "ytbalahgfikeobas", sum := "9e89fba3e37a2fc7de6fa0e7441dce7a6b744bca0fd184b80e524217638f96ed", func := "loop.example/g00541/laws.FnExactReadZone", spec := "fnExactReadZone", apart := false }
def FnExactReadZoneSaid : Prop := fnExactReadZoneRow.holds Try.pinned (OpenSpec.ofChange fnExactReadZoneSpec)

/-- ITS FALSE NEIGHBOUR: 'it returns false'. Refute it at one input. -/
def fnExactReadZoneWrong : ChangeSpec := { name := "fnExactReadZone", fn := fun _ => fun
  | [d1, d2, d3, d4] => { results := [.lit (.bool false)], args := [d1, d2, d3, d4] }
  | _ => none }
def FnExactReadZoneWrongFalsely : Prop := fnExactReadZoneRow.holds Try.pinned (OpenSpec.ofChange fnExactReadZoneWrong)

/-- 'laws.FnExactOpenZones': WHATEVER THE INPUT: true; the input reads as it did. -/
def fnExactOpenZonesSpec : ChangeSpec := { name := "fnExactOpenZones", fn := fun _ => fun
  | [d] => { results := [.lit (.bool true)], args := [d] }
  | _ => none }
def fnExactOpenZonesRow : OpenClaim := { program := "ytbalahgfikeobas", sum := "9e89fba3e37a2fc7de6fa0e7441dce7a6b744bca0fd184b80e524217638f96ed", func := "loop.example/g00541/laws.FnExactOpenZones", spec := "fnExactOpenZones", apart := false }
def FnExactOpenZonesSaid : Prop := fnExactOpenZonesRow.holds Try.pinned (OpenSpec.ofChange fnExactOpenZonesSpec)

/-- ITS FALSE NEIGHBOUR: 'it returns false'. Refute it at one input. -/
def fnExactOpenZonesWrong : ChangeSpec := { name := "fnExactOpenZones", fn := fun _ => fun
  | [d] => { results := [.lit (.bool false)], args := [d] }
  | _ => none }
def FnExactOpenZonesWrongFalsely : Prop := fnExactOpenZonesRow.holds Try.pinned (OpenSpec.ofChange fnExactOpenZonesWrong)

/- THE SECOND FORM. 'bulk': how many values and letters a reading holds, each counted each time it is reached (what is shared counts as often as it is met; a slice's spare places count too). A statement '..UptoSaid' is the law's where the arguments, and the package variables that the reading takes, are together of bulk at most 1048576: NARROWER than '..Said'. Prove '..Said' where nothing that the law and all that it calls make is longer than what came in: it says more and counts as full. Else prove '..UptoSaid'. A law counts once. -/
mutual
def uptoBulk {H : Type} : DataW H → Nat
  | .lit (.string bytes) => bytes.length + 1
  | .lit _ => 1
  | .nil => 1
  | .ptr d => uptoBulk d + 1
  | .slice elems spare => uptoBulkAll elems + uptoBulkAll spare + 1
  | .agg parts => uptoBulkAll parts + 1
  | .iface _ d => uptoBulk d + 1
  | .map entries => uptoBulkEntries entries + 1
  | .held _ => 1
def uptoBulkAll {H : Type} : List (DataW H) → Nat
  | [] => 0
  | d :: r => uptoBulk d + uptoBulkAll r
def uptoBulkEntries {H : Type} : List (Lit × DataW H) → Nat
  | [] => 0
  | x :: r => uptoBulkEntry x + uptoBulkEntries r
def uptoBulkEntry {H : Type} : Lit × DataW H → Nat
  | (.string bytes, d) => bytes.length + uptoBulk d + 1
  | (_, d) => uptoBulk d + 1
 end
def uptoSmall : (H : Type) → List (DataW H) → Bool := fun _ ds => decide (uptoBulkAll ds ≤ 1048576)
def OpenSpec.upto (s : _root_.Go.ChangeSpec) : _root_.Go.OpenSpec := { _root_.Go.OpenSpec.ofChange s with cond := some uptoSmall }

/-- 'laws.FnExactFinishZone', WHERE WHAT IT READS IS OF BULK AT MOST 1048576: true; the input reads as it did. -/
def fnExactFinishZoneUptoRow : OpenClaim := { program := "ytbalahgfikeobas", sum := "9e89fba3e37a2fc7de6fa0e7441dce7a6b744bca0fd184b80e524217638f96ed", func := "loop.example/g00541/laws.FnExactFinishZone", spec := "fnExactFinishZone", apart := false, narrowed := true }
def FnExactFinishZoneUptoSaid : Prop := fnExactFinishZoneUptoRow.holds Try.pinned (OpenSpec.upto fnExactFinishZoneSpec)

/-- 'laws.FnExactFlushDevice', WHERE WHAT IT READS IS OF BULK AT MOST 1048576: true; the input reads as it did. -/
def fnExactFlushDeviceUptoRow : OpenClaim := { program := "ytbalahgfikeobas", sum := "9e89fba3e37a2fc7de6fa0e7441dce7a6b744bca0fd184b80e524217638f96ed", func := "loop.example/g00541/laws.FnExactFlushDevice", spec := "fnExactFlushDevice", apart := false, narrowed := true }
def FnExactFlushDeviceUptoSaid : Prop := fnExactFlushDeviceUptoRow.holds Try.pinned (OpenSpec.upto fnExactFlushDeviceSpec)

/-- 'laws.FnExactCrashDevice', WHERE WHAT IT READS IS OF BULK AT MOST 1048576: true; the input reads as it did. -/
def fnExactCrashDeviceUptoRow : OpenClaim := { program := "ytbalahgfikeobas", sum := "9e89fba3e37a2fc7de6fa0e7441dce7a6b744bca0fd184b80e524217638f96ed", func := "loop.example/g00541/laws.FnExactCrashDevice", spec := "fnExactCrashDevice", apart := false, narrowed := true }
def FnExactCrashDeviceUptoSaid : Prop := fnExactCrashDeviceUptoRow.holds Try.pinned (OpenSpec.upto fnExactCrashDeviceSpec)

/-- 'laws.FnExactReadZone', WHERE WHAT IT READS IS OF BULK AT MOST 1048576: true; the input reads as it did. -/
def fnExactReadZoneUptoRow : OpenClaim := { program := "ytbalahgfikeobas", sum := "9e89fba3e37a2fc7de6fa0e7441dce7a6b744bca0fd184b80e524217638f96ed", func := "loop.example/g00541/laws.FnExactReadZone", spec := "fnExactReadZone", apart := false, narrowed := true }
def FnExactReadZoneUptoSaid : Prop := fnExactReadZoneUptoRow.holds Try.pinned (OpenSpec.upto fnExactReadZoneSpec)

/-- 'laws.FnExactOpenZones', WHERE WHAT IT READS IS OF BULK AT MOST 1048576: true; the input reads as it did. -/
def fnExactOpenZonesUptoRow : OpenClaim := { program := "ytbalahgfikeobas", sum := "9e89fba3e37a2fc7de6fa0e7441dce7a6b744bca0fd184b80e524217638f96ed", func := "loop.example/g00541/laws.FnExactOpenZones", spec := "fnExactOpenZones", apart := false, narrowed := true }
def FnExactOpenZonesUptoSaid : Prop := fnExactOpenZonesUptoRow.holds Try.pinned (OpenSpec.upto fnExactOpenZonesSpec)

end Rows
end Go.Proofs.Ytbalahgfikeobas
