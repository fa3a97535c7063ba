/- At every volume impl.BlocksIn answers as the model of chapter 6, in memory of its own, and the argument reads afterwards as it read before: laws.FnExactBlocksIn, at every input. -/
import Derived.Test.YtbipbihjaeobkaaRows
import Derived.Test.YtbipbihjaeobkaaFrame
import Derived.Test.YtbipbihjaeobkaaVOpen
import Derived.Test.YtbipbihjaeobkaaLBl
namespace Go.Proofs.Ytbipbihjaeobkaa.fnExactBlocksIn
open Go.ChangeShapes Go.WideShapes Go.ChangeAt Go.RowKit
open Go.ChangeMaps (open_string shut_string)
set_option maxRecDepth 100000
theorem own : ownKnob Try.prog.godebug = none := by kernel_rfl
theorem laidOut : laidOutB Try.prog = true := by kernel_rfl
theorem lifted (os : Os) (started : os.Started) (H : Type) (enc : TypeId × Value → H) :
    ReturnsInHanded {} Try.checked os 8 .any (Rows.fnExactBlocksInSpec.pre6 enc Try.prog Try.f8 Rows.fnExactBlocksInRow.domain false) (Rows.fnExactBlocksInSpec.post enc Try.prog Try.f8 false true false false) := by
  refine returnsInHanded_of_change (C := Try.checked) own started (by kernel_rfl) Try.func8
    (ChangeSpec.witness6 (enc := enc) (C := Try.checked) false ⟨#[], #[.agg #[.slice none 0 0, .int .i64 0, .slice none 0 0, .int .i64 0]], []⟩ 8 (by kernel_rfl) (by kernel_rfl) (by kernel_rfl) (by kernel_rfl)) ?_
  intro W base args ds gs before hval0 hW hcnd _
  have hval : ∀ (j : Nat) t v, Try.f8.params[j]? = some t → args[j]? = some v → Value.okWide Try.prog W .any base t v := hval0
  have hW' := hW
  obtain ⟨p, q, hA0, hV, rfl, hfz, hnd⟩ := hW
  have hA : DataW.TrodAll enc Try.prog W 0 (fun _ => true) true Try.f8.params.toList args.toList ds p := hA0
  rw [Try.params8] at hA hval
  obtain ⟨v0, vs0, d0, ds0, p0, q0, hargs, rfl, rfl, h0, r0⟩ := trodAll_cons hA
  obtain ⟨rfl, rfl, rfl⟩ := trodAll_nil r0
  obtain rfl : args = #[v0] := by cases args; simp_all
  obtain ⟨rfl, rfl⟩ := trodVars_none hV
  obtain ⟨aB0, aL0, kB0, kL0, B0, F0, L0, s0, rfl, hB0, hL0, hF0, hs0, hzB0, hnB0, hzL0, hnL0⟩ := volume_of Try.underlying32 (by kernel_rfl) rfl rfl rfl rfl (by kernel_rfl) (by kernel_rfl) (by kernel_rfl) (by kernel_rfl) Try.underlying22 Try.underlying3 Try.underlying30 Try.underlying3 Try.underlying9 (by kernel_rfl) Try.underlying90 (by kernel_rfl) rfl rfl rfl rfl Try.underlying3 Try.underlying3 Try.underlying3 Try.underlying9 (by kernel_rfl) (by kernel_rfl) (by kernel_rfl) (by kernel_rfl) (hval 0 32 v0 rfl rfl) h0
  clear hA0 hval0
  refine (walk_BlocksIn aB0 aL0 kB0 kL0 B0 F0 L0 s0 W hF0 hs0 hzB0 hnB0 hzL0 hnL0 hB0 hL0).mono fun e W' ⟨he, hg'⟩ => ?_
  subst he
  exact ⟨_, rfl, law_post laidOut (by kernel_rfl) (by kernel_rfl) rfl (trodAll_mk1 (shut_bool Try.underlying4 _)) hW' hg'⟩
end Go.Proofs.Ytbipbihjaeobkaa.fnExactBlocksIn
namespace Go.Proofs.Ytbipbihjaeobkaa
open Go.ChangeShapes Go.WideShapes Go.ChangeAt Go.RowKit
theorem fnExactBlocksIn_said : Rows.FnExactBlocksInSaid :=
  OpenClaim.holds_of_wide 8 Try.f8 rfl rfl rfl rfl rfl rfl rfl ⟨rfl, rfl, rfl, rfl, rfl⟩ rfl rfl rfl rfl rfl (by kernel_rfl) Try.func8 (by kernel_rfl)
    (of_decide_eq_true (by kernel_rfl)) (by unfold Func.isWrapper; first | (rw [if_pos (by decide +kernel)]; kernel_rfl) | (rw [if_neg (by decide +kernel)]; exact ⟨rfl, rfl⟩))
    (fun os started H enc _ => fnExactBlocksIn.lifted os started H enc)
end Go.Proofs.Ytbipbihjaeobkaa
