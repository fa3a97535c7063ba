/- At every text and two lists of parts impl.ThenDelta answers as the model of chapter 11, in memory of its own, and the argument reads afterwards as it read before: laws.FnExactThenDelta, at every input. -/
import Derived.Test.YtakhohabjcgpoabRows
import Derived.Test.YtakhohabjcgpoabFrame
import Derived.Test.YtakhohabjcgpoabTOpen
import Derived.Test.YtakhohabjcgpoabLTth
namespace Go.Proofs.Ytakhohabjcgpoab.fnExactThenDelta
open Go.ChangeShapes Go.WideShapes Go.ChangeAt Go.RowKit
open Go.ChangeMaps (open_string shut_string)
set_option maxRecDepth 100000
theorem own : ownKnob Try.prog.godebug = none := by kernel_rfl
theorem laidOut : laidOutB Try.prog = true := by kernel_rfl
theorem lifted (os : Os) (started : os.Started) (H : Type) (enc : TypeId × Value → H) :
    ReturnsInHanded {} Try.checked os 4 .any (Rows.fnExactThenDeltaSpec.pre6 enc Try.prog Try.f4 Rows.fnExactThenDeltaRow.domain false) (Rows.fnExactThenDeltaSpec.post enc Try.prog Try.f4 false true false false) := by
  refine returnsInHanded_of_change (C := Try.checked) own started (by kernel_rfl) Try.func4
    (ChangeSpec.witness6 (enc := enc) (C := Try.checked) false ⟨#[], #[.string ByteArray.empty, .slice none 0 0, .slice none 0 0], []⟩ 8 (by kernel_rfl) (by kernel_rfl) (by kernel_rfl) (by kernel_rfl)) ?_
  intro W base args ds gs before hval0 hW hcnd _
  have hval : ∀ (j : Nat) t v, Try.f4.params[j]? = some t → args[j]? = some v → Value.okWide Try.prog W .any base t v := hval0
  have hW' := hW
  obtain ⟨p, q, hA0, hV, rfl, hfz, hnd⟩ := hW
  have hA : DataW.TrodAll enc Try.prog W 0 (fun _ => true) true Try.f4.params.toList args.toList ds p := hA0
  rw [Try.params4] at hA hval
  obtain ⟨v0, vs0, d0, ds0, p0, q0, hargs, rfl, rfl, h0, r0⟩ := trodAll_cons hA
  obtain ⟨v1, vs1, d1, ds1, p1, q1, rfl, rfl, rfl, h1, r1⟩ := trodAll_cons r0
  obtain ⟨v2, vs2, d2, ds2, p2, q2, rfl, rfl, rfl, h2, r2⟩ := trodAll_cons r1
  obtain ⟨rfl, rfl, rfl⟩ := trodAll_nil r2
  obtain rfl : args = #[v0, v1, v2] := by cases args; simp_all
  obtain ⟨rfl, rfl⟩ := trodVars_none hV
  obtain ⟨a0, rfl, rfl, rfl, w0⟩ := open_string Try.underlying9 (hval 0 9 v0 rfl rfl) h0
  obtain ⟨a1, c1, l1, rfl, hZ1, hs1, hl1⟩ := parts_of Try.underlying22 Try.underlying36 (by kernel_rfl) rfl rfl rfl Try.underlying3 Try.underlying3 Try.underlying9 (by kernel_rfl) (by kernel_rfl) (by kernel_rfl) (hval 1 22 v1 rfl rfl) h1
  obtain ⟨a2, c2, l2, rfl, hZ2, hs2, hl2⟩ := parts_of Try.underlying22 Try.underlying36 (by kernel_rfl) rfl rfl rfl Try.underlying3 Try.underlying3 Try.underlying9 (by kernel_rfl) (by kernel_rfl) (by kernel_rfl) (hval 2 22 v2 rfl rfl) h2
  clear hA0 hval0
  refine (walk_ThenDelta a0 a1 c1 l1 a2 c2 l2 W w0 hZ1 hs1 hl1 hZ2 hs2 hl2).mono fun e W' ⟨he, hg'⟩ => ?_
  subst he
  exact ⟨_, rfl, law_post laidOut (by kernel_rfl) (by kernel_rfl) rfl (trodAll_mk1 (shut_bool Try.underlying4 _)) hW' hg'⟩
end Go.Proofs.Ytakhohabjcgpoab.fnExactThenDelta
namespace Go.Proofs.Ytakhohabjcgpoab
open Go.ChangeShapes Go.WideShapes Go.ChangeAt Go.RowKit
theorem fnExactThenDelta_said : Rows.FnExactThenDeltaSaid :=
  OpenClaim.holds_of_wide 4 Try.f4 rfl rfl rfl rfl rfl rfl rfl ⟨rfl, rfl, rfl, rfl, rfl⟩ rfl rfl rfl rfl rfl (by kernel_rfl) Try.func4 (by kernel_rfl)
    (of_decide_eq_true (by kernel_rfl)) (by unfold Func.isWrapper; first | (rw [if_pos (by decide +kernel)]; kernel_rfl) | (rw [if_neg (by decide +kernel)]; exact ⟨rfl, rfl⟩))
    (fun os started H enc _ => fnExactThenDelta.lifted os started H enc)
end Go.Proofs.Ytakhohabjcgpoab
