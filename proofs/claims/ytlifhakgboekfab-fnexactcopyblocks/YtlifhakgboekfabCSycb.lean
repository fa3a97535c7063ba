/- At every two marks and every list of numbers impl.CopyBlocks answers as the model of chapter 15, in memory of its own, and the arguments read afterwards as they read before: laws.FnExactCopyBlocks, at every input. -/
import Derived.Test.YtlifhakgboekfabRows
import Derived.Test.YtlifhakgboekfabFrame
import Derived.Test.YtlifhakgboekfabHA
import Derived.Test.YtlifhakgboekfabLSycb
import Derived.Test.YtlifhakgboekfabKOpi
namespace Go.Proofs.Ytlifhakgboekfab.fnExactCopyBlocks
open Go.ChangeShapes Go.WideShapes Go.ChangeAt Go.RowKit
open Go.ChangeMaps (open_string shut_string)
set_option maxRecDepth 100000
theorem own : ownKnob Try.prog.godebug = none := by kernel_rfl
theorem laidOut : laidOutB Try.prog = true := by kernel_rfl
theorem lifted (os : Os) (started : os.Started) (H : Type) (enc : TypeId × Value → H) :
    ReturnsInHanded {} Try.checked os 3 .any (Rows.fnExactCopyBlocksSpec.pre6 enc Try.prog Try.f3 Rows.fnExactCopyBlocksRow.domain false) (Rows.fnExactCopyBlocksSpec.post enc Try.prog Try.f3 false true false false) := by
  refine returnsInHanded_of_change (C := Try.checked) own started (by kernel_rfl) Try.func3
    (ChangeSpec.witness6 (enc := enc) (C := Try.checked) false ⟨#[], #[.agg #[.slice none 0 0], .agg #[.slice none 0 0], .slice none 0 0], []⟩ 8 (by kernel_rfl) (by kernel_rfl) (by kernel_rfl) (by kernel_rfl)) ?_
  intro W base args ds gs before hval0 hW hcnd _
  have hval : ∀ (j : Nat) t v, Try.f3.params[j]? = some t → args[j]? = some v → Value.okWide Try.prog W .any base t v := hval0
  have hW' := hW
  obtain ⟨p, q, hA0, hV, rfl, hfz, hnd⟩ := hW
  have hA : DataW.TrodAll enc Try.prog W 0 (fun _ => true) true Try.f3.params.toList args.toList ds p := hA0
  rw [Try.params3] at hA hval
  obtain ⟨v0, vs0, d0, ds0, p0, q0, hargs, rfl, rfl, h0, r0⟩ := trodAll_cons hA
  obtain ⟨v1, vs1, d1, ds1, p1, q1, rfl, rfl, rfl, h1, r1⟩ := trodAll_cons r0
  obtain ⟨v2, vs2, d2, ds2, p2, q2, rfl, rfl, rfl, h2, r2⟩ := trodAll_cons r1
  obtain ⟨rfl, rfl, rfl⟩ := trodAll_nil r2
  obtain rfl : args = #[v0, v1, v2] := by cases args; simp_all
  obtain ⟨rfl, rfl⟩ := trodVars_none hV
  obtain ⟨aS0, kS0, S0, rfl, hG0, hfS0, hnS0⟩ := marks_of Try.underlying24 (by kernel_rfl) rfl (by kernel_rfl) Try.underlying22 Try.underlying57 (by kernel_rfl) rfl rfl rfl Try.underlying3 Try.underlying25 Try.underlying55 Try.underlying3 Try.underlying9 (by kernel_rfl) (by kernel_rfl) (by kernel_rfl) (by kernel_rfl) (by kernel_rfl) (hval 0 24 v0 rfl rfl) h0
  obtain ⟨aS1, kS1, S1, rfl, hG1, hfS1, hnS1⟩ := marks_of Try.underlying24 (by kernel_rfl) rfl (by kernel_rfl) Try.underlying22 Try.underlying57 (by kernel_rfl) rfl rfl rfl Try.underlying3 Try.underlying25 Try.underlying55 Try.underlying3 Try.underlying9 (by kernel_rfl) (by kernel_rfl) (by kernel_rfl) (by kernel_rfl) (by kernel_rfl) (hval 1 24 v1 rfl rfl) h1
  obtain ⟨a2, c2, l2, rfl, hZ2, hs2, hl2⟩ := ints_of Try.underlying25 Try.underlying3 (by kernel_rfl) (hval 2 25 v2 rfl rfl) h2
  clear hA0 hval0
  refine (walk_CopyBlocks aS0 kS0 S0 aS1 kS1 S1 a2 c2 l2 W hnS0 (fun s hs => ⟨(hfS0 s hs).nbl, (hfS0 s hs).dt, (hfS0 s hs).ndt⟩) hG0 hnS1 (fun s hs => ⟨(hfS1 s hs).nbl, (hfS1 s hs).dt, (hfS1 s hs).ndt⟩) hG1 hs2 hl2 hZ2).mono fun e W' ⟨he, hg'⟩ => ?_
  subst he
  exact ⟨_, rfl, law_post laidOut (by kernel_rfl) (by kernel_rfl) rfl (trodAll_mk1 (shut_bool Try.underlying4 _)) hW' hg'⟩
end Go.Proofs.Ytlifhakgboekfab.fnExactCopyBlocks
namespace Go.Proofs.Ytlifhakgboekfab
open Go.ChangeShapes Go.WideShapes Go.ChangeAt Go.RowKit
theorem fnExactCopyBlocks_said : Rows.FnExactCopyBlocksSaid :=
  OpenClaim.holds_of_wide 3 Try.f3 rfl rfl rfl rfl rfl rfl rfl ⟨rfl, rfl, rfl, rfl, rfl⟩ rfl rfl rfl rfl rfl (by kernel_rfl) Try.func3 (by kernel_rfl)
    (of_decide_eq_true (by kernel_rfl)) (by unfold Func.isWrapper; first | (rw [if_pos (by decide +kernel)]; kernel_rfl) | (rw [if_neg (by decide +kernel)]; exact ⟨rfl, rfl⟩))
    (fun os started H enc _ => fnExactCopyBlocks.lifted os started H enc)
end Go.Proofs.Ytlifhakgboekfab
