/- At every device and number impl.ResetZone answers as the model of chapter 2, field by field, in memory of its own, and the arguments read afterwards as they read before: laws.FnExactResetZone, at every input. -/
import Derived.Test.YtbalahgfikeobarRows
import Derived.Test.YtbalahgfikeobarFrame
import Derived.Test.YtbalahgfikeobarZOpen
import Derived.Test.YtbalahgfikeobarSReset
import Derived.Test.YtbalahgfikeobarIReset
import Derived.Test.YtbalahgfikeobarLReset
namespace Go.Proofs.Ytbalahgfikeobar
set_option maxRecDepth 100000
open Go.ChangeShapes Go.WideShapes Go.ChangeAt Go.RowKit
theorem walk_Reset (a : Option Addr) (cap : Nat) (zs : List Zn) (k : Int) (w : World) (hz : ∀ z ∈ zs, z.data.size ≤ 9223372036854775807) (hn0 : zs.length ≤ 9223372036854775807) (hZ : Zs w.heap.size a zs w) :
    Calls Try.prog 7 #[.agg #[.slice a zs.length cap], .int .i64 k] w fun e w' => e = .returned (.bool true) ∧ Below w.heap.size w w' := by
  refine law_Reset a cap zs k w hz hn0 hZ fun hn _ => ?_
  by_cases h : there zs k
  · obtain ⟨n, rfl⟩ : ∃ n : Nat, k = n := ⟨k.toNat, by have := h.2.1; omega⟩
    have hk : n < zs.length := by have := h.2.2; omega
    refine ⟨zs.set n zeroZ, true, by rw [List.length_set]; exact hn, fun a c v hv => (reset_yes a c zs n v hv h hk).mono ?_, fun a c v hv => (ireset_yes a c zs n v hv h hk).mono ?_⟩
    all_goals
      rintro e w' ⟨R, c, hR, rfl, hrow, hb⟩
      exact ⟨_, c, by rw [List.length_set], Or.inr ⟨R, hR, hrow.lt, rfl, hrow⟩, hb⟩
  · refine ⟨[], false, by simp, fun a c v hv => (reset_no a c zs k v hn hv h).mono ?_, fun a c v hv => (ireset_no a c zs k v hn hv h).mono ?_⟩
    all_goals
      rintro e w' ⟨rfl, hb⟩
      exact ⟨none, 0, rfl, Or.inl rfl, hb⟩
end Go.Proofs.Ytbalahgfikeobar
namespace Go.Proofs.Ytbalahgfikeobar.fnExactResetZone
open Go.ChangeShapes Go.WideShapes Go.ChangeAt Go.RowKit
open Go.ChangeMaps (open_string shut_string)
set_option maxRecDepth 100000
theorem own : ownKnob Try.prog.godebug = none := by kernel_rfl
theorem laidOut : laidOutB Try.prog = true := by kernel_rfl
theorem lifted (os : Os) (started : os.Started) (H : Type) (enc : TypeId × Value → H) :
    ReturnsInHanded {} Try.checked os 7 .any (Rows.fnExactResetZoneSpec.pre6 enc Try.prog Try.f7 Rows.fnExactResetZoneRow.domain false) (Rows.fnExactResetZoneSpec.post enc Try.prog Try.f7 false true false false) := by
  refine returnsInHanded_of_change (C := Try.checked) own started (by kernel_rfl) Try.func7
    (ChangeSpec.witness6 (enc := enc) (C := Try.checked) false ⟨#[], #[.agg #[.slice none 0 0], .int .i64 0], []⟩ 8 (by kernel_rfl) (by kernel_rfl) (by kernel_rfl) (by kernel_rfl)) ?_
  intro W base args ds gs before hval0 hW hcnd _
  have hval : ∀ (j : Nat) t v, Try.f7.params[j]? = some t → args[j]? = some v → Value.okWide Try.prog W .any base t v := hval0
  have hW' := hW
  obtain ⟨p, q, hA0, hV, rfl, hfz, hnd⟩ := hW
  have hA : DataW.TrodAll enc Try.prog W 0 (fun _ => true) true Try.f7.params.toList args.toList ds p := hA0
  rw [Try.params7] at hA hval
  obtain ⟨v0, vs0, d0, ds0, p0, q0, hargs, rfl, rfl, h0, r0⟩ := trodAll_cons hA
  obtain ⟨v1, vs1, d1, ds1, p1, q1, rfl, rfl, rfl, h1, r1⟩ := trodAll_cons r0
  obtain ⟨rfl, rfl, rfl⟩ := trodAll_nil r1
  obtain rfl : args = #[v0, v1] := by cases args; simp_all
  obtain ⟨rfl, rfl⟩ := trodVars_none hV
  obtain ⟨a0, c0, zs0, rfl, hZ0, hs0, hl0⟩ := device_of Try.underlying35 (by kernel_rfl) rfl (by kernel_rfl) Try.underlying33 Try.underlying61 (by kernel_rfl) rfl rfl rfl Try.underlying9 Try.underlying3 Try.underlying4 (by kernel_rfl) (by kernel_rfl) (by kernel_rfl) (hval 0 35 v0 rfl rfl) h0
  obtain ⟨a1, rfl, rfl, rfl, w1⟩ := open_int Try.underlying3 (hval 1 3 v1 rfl rfl) h1
  clear hA0 hval0
  refine (walk_Reset a0 c0 zs0 a1 W hs0 hl0 hZ0).mono fun e W' ⟨he, hg⟩ => ?_
  subst he
  exact ⟨_, rfl, law_post laidOut (by kernel_rfl) (by kernel_rfl) rfl (trodAll_mk1 (shut_bool Try.underlying4 _)) hW' hg⟩
end Go.Proofs.Ytbalahgfikeobar.fnExactResetZone
namespace Go.Proofs.Ytbalahgfikeobar
open Go.ChangeShapes Go.WideShapes Go.ChangeAt Go.RowKit
theorem fnExactResetZone_said : Rows.FnExactResetZoneSaid :=
  OpenClaim.holds_of_wide 7 Try.f7 rfl rfl rfl rfl rfl rfl rfl ⟨rfl, rfl, rfl, rfl, rfl⟩ rfl rfl rfl rfl rfl (by kernel_rfl) Try.func7 (by kernel_rfl)
    (of_decide_eq_true (by kernel_rfl)) (by unfold Func.isWrapper; first | (rw [if_pos (by decide +kernel)]; kernel_rfl) | (rw [if_neg (by decide +kernel)]; exact ⟨rfl, rfl⟩))
    (fun os started H enc _ => fnExactResetZone.lifted os started H enc)
end Go.Proofs.Ytbalahgfikeobar
