/- At every two marks impl.CommonMark answers as the model of chapter 15, and the arguments read afterwards as they read before: laws.FnExactCommonMark, at every input. -/
import Derived.Test.YtiionfmpbifbcaaRows
import Derived.Test.YtiionfmpbifbcaaFrame
import Derived.Test.YtiionfmpbifbcaaHA
import Derived.Test.YtiionfmpbifbcaaLSycm
namespace Go.Proofs.Ytiionfmpbifbcaa.fnExactCommonMark
open Go.ChangeShapes Go.WideShapes Go.ChangeAt Go.RowKit
open Go.ChangeMaps (open_string shut_string)
set_option maxRecDepth 100000
theorem own : ownKnob Try.prog.godebug = none := by kernel_rfl
theorem laidOut : laidOutB Try.prog = true := by kernel_rfl
theorem lifted (os : Os) (started : os.Started) (H : Type) (enc : TypeId × Value → H) :
    ReturnsInHanded {} Try.checked os 8 .any (Rows.fnExactCommonMarkSpec.pre6 enc Try.prog Try.f8 Rows.fnExactCommonMarkRow.domain false) (Rows.fnExactCommonMarkSpec.post enc Try.prog Try.f8 false true false false) := by
  refine returnsInHanded_of_change (C := Try.checked) own started (by kernel_rfl) Try.func8
    (ChangeSpec.witness6 (enc := enc) (C := Try.checked) false ⟨#[], #[.agg #[.slice none 0 0], .agg #[.slice none 0 0]], []⟩ 8 (by kernel_rfl) (by kernel_rfl) (by kernel_rfl) (by kernel_rfl)) ?_
  intro W base args ds gs before hval0 hW hcnd _
  have hval : ∀ (j : Nat) t v, Try.f8.params[j]? = some t → args[j]? = some v → Value.okWide Try.prog W .any base t v := hval0
  have hW' := hW
  obtain ⟨p, q, hA0, hV, rfl, hfz, hnd⟩ := hW
  have hA : DataW.TrodAll enc Try.prog W 0 (fun _ => true) true Try.f8.params.toList args.toList ds p := hA0
  rw [Try.params8] at hA hval
  obtain ⟨v0, vs0, d0, ds0, p0, q0, hargs, rfl, rfl, h0, r0⟩ := trodAll_cons hA
  obtain ⟨v1, vs1, d1, ds1, p1, q1, rfl, rfl, rfl, h1, r1⟩ := trodAll_cons r0
  obtain ⟨rfl, rfl, rfl⟩ := trodAll_nil r1
  obtain rfl : args = #[v0, v1] := by cases args; simp_all
  obtain ⟨rfl, rfl⟩ := trodVars_none hV
  obtain ⟨aS0, kS0, S0, rfl, hG0, hfS0, hnS0⟩ := marks_of Try.underlying24 (by kernel_rfl) rfl (by kernel_rfl) Try.underlying22 Try.underlying85 (by kernel_rfl) rfl rfl rfl Try.underlying3 Try.underlying34 Try.underlying42 Try.underlying3 Try.underlying9 (by kernel_rfl) (by kernel_rfl) (by kernel_rfl) (by kernel_rfl) (by kernel_rfl) (hval 0 24 v0 rfl rfl) h0
  obtain ⟨aS1, kS1, S1, rfl, hG1, hfS1, hnS1⟩ := marks_of Try.underlying24 (by kernel_rfl) rfl (by kernel_rfl) Try.underlying22 Try.underlying85 (by kernel_rfl) rfl rfl rfl Try.underlying3 Try.underlying34 Try.underlying42 Try.underlying3 Try.underlying9 (by kernel_rfl) (by kernel_rfl) (by kernel_rfl) (by kernel_rfl) (by kernel_rfl) (hval 1 24 v1 rfl rfl) h1
  clear hA0 hval0
  refine (walk_CommonMark aS0 kS0 S0 aS1 kS1 S1 W hnS0 (fun s hs => ⟨(hfS0 s hs).nbl, (hfS0 s hs).dt, (hfS0 s hs).ndt⟩) hG0 hnS1 (fun s hs => ⟨(hfS1 s hs).nbl, (hfS1 s hs).dt, (hfS1 s hs).ndt⟩) hG1).mono fun e W' ⟨he, hg'⟩ => ?_
  subst he
  exact ⟨_, rfl, law_post laidOut (by kernel_rfl) (by kernel_rfl) rfl (trodAll_mk1 (shut_bool Try.underlying4 _)) hW' hg'⟩
end Go.Proofs.Ytiionfmpbifbcaa.fnExactCommonMark
namespace Go.Proofs.Ytiionfmpbifbcaa
open Go.ChangeShapes Go.WideShapes Go.ChangeAt Go.RowKit
theorem fnExactCommonMark_said : Rows.FnExactCommonMarkSaid :=
  OpenClaim.holds_of_wide 8 Try.f8 rfl rfl rfl rfl rfl rfl rfl ⟨rfl, rfl, rfl, rfl, rfl⟩ rfl rfl rfl rfl rfl (by kernel_rfl) Try.func8 (by kernel_rfl)
    (of_decide_eq_true (by kernel_rfl)) (by unfold Func.isWrapper; first | (rw [if_pos (by decide +kernel)]; kernel_rfl) | (rw [if_neg (by decide +kernel)]; exact ⟨rfl, rfl⟩))
    (fun os started H enc _ => fnExactCommonMark.lifted os started H enc)
end Go.Proofs.Ytiionfmpbifbcaa
