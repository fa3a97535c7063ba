/- At every device impl.FlushDevice answers as the model of chapter 2, field by field, in memory of its own, and the argument reads afterwards as it read before: laws.FnExactFlushDevice, at every input. -/
import Derived.Test.YtbalahgfikeobasRows
import Derived.Test.YtbalahgfikeobasFrame
import Derived.Test.YtbalahgfikeobasZOpen
import Derived.Test.YtbalahgfikeobasSFlush
import Derived.Test.YtbalahgfikeobasIFlush
import Derived.Test.YtbalahgfikeobasLFlush
namespace Go.Proofs.Ytbalahgfikeobas
set_option maxRecDepth 100000
open Go.ChangeShapes Go.WideShapes Go.ChangeAt Go.RowKit
theorem walk_Flush (a : Option Addr) (cap : Nat) (zs : List Zn) (w : World) (hz : ∀ z ∈ zs, z.data.size ≤ 9223372036854775807) (hn0 : zs.length ≤ 9223372036854775807) (hZ : Zs w.heap.size a zs w) :
    Calls Try.prog 4 #[.agg #[.slice a zs.length cap]] w fun e w' => e = .returned (.bool true) ∧ Below w.heap.size w w' := by
  refine law_Flush a cap zs w hz hn0 hZ fun hn _ => ?_
  cases h : goodD zs
  · refine ⟨[], false, by simp, fun a c v hv => (flush_no a c zs v hn hv h).mono ?_, fun a c v hv => (iflush_no a c zs v hn hv h).mono ?_⟩
    all_goals
      rintro e w' ⟨rfl, hb⟩
      exact ⟨none, 0, rfl, Or.inl rfl, hb⟩
  · refine ⟨zs.map flushZ, true, by rw [List.length_map]; exact hn, fun a c v hv => (flush_yes a c zs v hv h).mono ?_, fun a c v hv => (iflush_yes a c zs v hv h).mono ?_⟩
    all_goals
      rintro e w' ⟨R, c, hR, rfl, hrow, hb⟩
      exact ⟨_, c, by rw [List.length_map], Or.inr ⟨R, hR, hrow.lt, rfl, hrow⟩, hb⟩
end Go.Proofs.Ytbalahgfikeobas
namespace Go.Proofs.Ytbalahgfikeobas.fnExactFlushDevice
open Go.ChangeShapes Go.WideShapes Go.ChangeAt Go.RowKit
open Go.ChangeMaps (open_string shut_string)
set_option maxRecDepth 100000
theorem own : ownKnob Try.prog.godebug = none := by kernel_rfl
theorem laidOut : laidOutB Try.prog = true := by kernel_rfl
theorem lifted (os : Os) (started : os.Started) (H : Type) (enc : TypeId × Value → H) :
    ReturnsInHanded {} Try.checked os 4 .any (Rows.fnExactFlushDeviceSpec.pre6 enc Try.prog Try.f4 Rows.fnExactFlushDeviceRow.domain false) (Rows.fnExactFlushDeviceSpec.post enc Try.prog Try.f4 false true false false) := by
  refine returnsInHanded_of_change (C := Try.checked) own started (by kernel_rfl) Try.func4
    (ChangeSpec.witness6 (enc := enc) (C := Try.checked) false ⟨#[], #[.agg #[.slice none 0 0]], []⟩ 8 (by kernel_rfl) (by kernel_rfl) (by kernel_rfl) (by kernel_rfl)) ?_
  intro W base args ds gs before hval0 hW hcnd _
  have hval : ∀ (j : Nat) t v, Try.f4.params[j]? = some t → args[j]? = some v → Value.okWide Try.prog W .any base t v := hval0
  have hW' := hW
  obtain ⟨p, q, hA0, hV, rfl, hfz, hnd⟩ := hW
  have hA : DataW.TrodAll enc Try.prog W 0 (fun _ => true) true Try.f4.params.toList args.toList ds p := hA0
  rw [Try.params4] at hA hval
  obtain ⟨v0, vs0, d0, ds0, p0, q0, hargs, rfl, rfl, h0, r0⟩ := trodAll_cons hA
  obtain ⟨rfl, rfl, rfl⟩ := trodAll_nil r0
  obtain rfl : args = #[v0] := by cases args; simp_all
  obtain ⟨rfl, rfl⟩ := trodVars_none hV
  obtain ⟨a0, c0, zs0, rfl, hZ0, hs0, hl0⟩ := device_of Try.underlying24 (by kernel_rfl) rfl (by kernel_rfl) Try.underlying22 Try.underlying62 (by kernel_rfl) rfl rfl rfl Try.underlying9 Try.underlying3 Try.underlying4 (by kernel_rfl) (by kernel_rfl) (by kernel_rfl) (hval 0 24 v0 rfl rfl) h0
  clear hA0 hval0
  refine (walk_Flush a0 c0 zs0 W hs0 hl0 hZ0).mono fun e W' ⟨he, hg⟩ => ?_
  subst he
  exact ⟨_, rfl, law_post laidOut (by kernel_rfl) (by kernel_rfl) rfl (trodAll_mk1 (shut_bool Try.underlying4 _)) hW' hg⟩
end Go.Proofs.Ytbalahgfikeobas.fnExactFlushDevice
namespace Go.Proofs.Ytbalahgfikeobas
open Go.ChangeShapes Go.WideShapes Go.ChangeAt Go.RowKit
theorem fnExactFlushDevice_said : Rows.FnExactFlushDeviceSaid :=
  OpenClaim.holds_of_wide 4 Try.f4 rfl rfl rfl rfl rfl rfl rfl ⟨rfl, rfl, rfl, rfl, rfl⟩ rfl rfl rfl rfl rfl (by kernel_rfl) Try.func4 (by kernel_rfl)
    (of_decide_eq_true (by kernel_rfl)) (by unfold Func.isWrapper; first | (rw [if_pos (by decide +kernel)]; kernel_rfl) | (rw [if_neg (by decide +kernel)]; exact ⟨rfl, rfl⟩))
    (fun os started H enc _ => fnExactFlushDevice.lifted os started H enc)
end Go.Proofs.Ytbalahgfikeobas
