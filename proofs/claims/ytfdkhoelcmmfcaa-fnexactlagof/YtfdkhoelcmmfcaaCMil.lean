/- At every mirror impl.LagOf answers as the model of chapter 16, and the mirror is read afterwards as ahead: laws.FnExactLagOf, at every input. -/
import Derived.Test.YtfdkhoelcmmfcaaRows
import Derived.Test.YtfdkhoelcmmfcaaFrame
import Derived.Test.YtfdkhoelcmmfcaaMiO
import Derived.Test.YtfdkhoelcmmfcaaLMil
namespace Go.Proofs.Ytfdkhoelcmmfcaa.fnExactLagOf
open Go.ChangeShapes Go.WideShapes Go.ChangeAt Go.RowKit
open Go.ChangeMaps (open_string shut_string)
set_option maxRecDepth 100000
theorem own : ownKnob Try.prog.godebug = none := by kernel_rfl
theorem laidOut : laidOutB Try.prog = true := by kernel_rfl
theorem lifted (os : Os) (started : os.Started) (H : Type) (enc : TypeId × Value → H) :
    ReturnsInHanded {} Try.checked os 6 .any (Rows.fnExactLagOfSpec.pre6 enc Try.prog Try.f6 Rows.fnExactLagOfRow.domain false) (Rows.fnExactLagOfSpec.post enc Try.prog Try.f6 false true false false) := by
  refine returnsInHanded_of_change (C := Try.checked) own started (by kernel_rfl) Try.func6
    (ChangeSpec.witness6 (enc := enc) (C := Try.checked) false ⟨#[], #[.agg #[.slice none 0 0, .slice none 0 0, .slice none 0 0, .slice none 0 0, .int .i64 0, .int .i64 0]], []⟩ 8 (by kernel_rfl) (by kernel_rfl) (by kernel_rfl) (by kernel_rfl)) ?_
  intro W base args ds gs before hval0 hW hcnd _
  have hval : ∀ (j : Nat) t v, Try.f6.params[j]? = some t → args[j]? = some v → Value.okWide Try.prog W .any base t v := hval0
  have hW' := hW
  obtain ⟨p, q, hA0, hV, rfl, hfz, hnd⟩ := hW
  have hA : DataW.TrodAll enc Try.prog W 0 (fun _ => true) true Try.f6.params.toList args.toList ds p := hA0
  rw [Try.params6] at hA hval
  obtain ⟨v0, vs0, d0, ds0, p0, q0, hargs, rfl, rfl, h0, r0⟩ := trodAll_cons hA
  obtain ⟨rfl, rfl, rfl⟩ := trodAll_nil r0
  obtain rfl : args = #[v0] := by cases args; simp_all
  obtain ⟨rfl, rfl⟩ := trodVars_none hV
  obtain ⟨A0, X0, rfl, hG0, hc0, hz0_4, hz0_5⟩ := Mi_of Try.underlying37 (by kernel_rfl) rfl rfl rfl rfl rfl rfl (by kernel_rfl) (by kernel_rfl) (by kernel_rfl) (by kernel_rfl) (by kernel_rfl) (by kernel_rfl) Try.underlying35 Try.underlying35 Try.underlying25 Try.underlying26 Try.underlying3 Try.underlying3 rfl (by kernel_rfl) Try.underlying33 Try.underlying87 (by kernel_rfl) rfl rfl rfl Try.underlying3 Try.underlying25 Try.underlying26 Try.underlying3 Try.underlying9 (by kernel_rfl) (by kernel_rfl) (by kernel_rfl) (by kernel_rfl) (by kernel_rfl) (hval 0 37 v0 rfl rfl) h0
  clear hA0 hval0
  refine (walk_LagOf A0 X0 W hG0 hc0 hz0_4 hz0_5).mono fun e W' ⟨he, hg'⟩ => ?_
  subst he
  exact ⟨_, rfl, law_post laidOut (by kernel_rfl) (by kernel_rfl) rfl (trodAll_mk1 (shut_bool Try.underlying4 _)) hW' hg'⟩
end Go.Proofs.Ytfdkhoelcmmfcaa.fnExactLagOf
namespace Go.Proofs.Ytfdkhoelcmmfcaa
open Go.ChangeShapes Go.WideShapes Go.ChangeAt Go.RowKit
theorem fnExactLagOf_said : Rows.FnExactLagOfSaid :=
  OpenClaim.holds_of_wide 6 Try.f6 rfl rfl rfl rfl rfl rfl rfl ⟨rfl, rfl, rfl, rfl, rfl⟩ rfl rfl rfl rfl rfl (by kernel_rfl) Try.func6 (by kernel_rfl)
    (of_decide_eq_true (by kernel_rfl)) (by unfold Func.isWrapper; first | (rw [if_pos (by decide +kernel)]; kernel_rfl) | (rw [if_neg (by decide +kernel)]; exact ⟨rfl, rfl⟩))
    (fun os started H enc _ => fnExactLagOf.lifted os started H enc)
end Go.Proofs.Ytfdkhoelcmmfcaa
