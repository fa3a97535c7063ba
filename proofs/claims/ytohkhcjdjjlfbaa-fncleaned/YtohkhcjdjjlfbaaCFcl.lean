/- For every two slices of bytes laws.FnCleaned answers true, and both read afterwards as they read before: a segment of a drawn heap that is cleaned is free, every block is there as ahead and found elsewhere, and the heap is good; no condition. -/
import Derived.Test.YtohkhcjdjjlfbaaRows
import Derived.Test.YtohkhcjdjjlfbaaFrame
import Derived.Test.YtohkhcjdjjlfbaaHA
import Derived.Test.YtohkhcjdjjlfbaaLFcl
namespace Go.Proofs.Ytohkhcjdjjlfbaa.fnCleaned
open Go.ChangeShapes Go.WideShapes Go.ChangeAt Go.RowKit
set_option maxRecDepth 100000
theorem own : ownKnob Try.prog.godebug = none := by kernel_rfl
theorem laidOut : laidOutB Try.prog = true := by kernel_rfl
theorem cells5 : Try.prog.cellsOf 5 = 1 := by kernel_rfl
theorem bytes5 : Try.prog.bytesOf 5 = 1 := by kernel_rfl
theorem lifted (os : Os) (started : os.Started) (H : Type) (enc : TypeId × Value → H) :
    ReturnsInHanded {} Try.checked os 3 .any (Rows.fnCleanedSpec.pre6 enc Try.prog Try.f3 Rows.fnCleanedRow.domain false) (Rows.fnCleanedSpec.post enc Try.prog Try.f3 false true false false) := by
  refine returnsInHanded_of_change_sized (C := Try.checked) own started (by kernel_rfl) Try.func3
    (ChangeSpec.witness6 (enc := enc) (C := Try.checked) false ⟨#[], #[.slice none 0 0, .slice none 0 0], []⟩ 8 (by kernel_rfl) (by kernel_rfl) (by kernel_rfl) (by kernel_rfl)) ?_
  intro W base args ds gs before hval0 hW hcnd hsz _
  have hval : ∀ (j : Nat) t v, Try.f3.params[j]? = some t → args[j]? = some v → Value.okWide Try.prog W .any base t v := hval0
  have hW' := hW
  obtain ⟨p, q, hA0, hV, rfl, hfz, hnd⟩ := hW
  have hA : DataW.TrodAll enc Try.prog W 0 (fun _ => true) true Try.f3.params.toList args.toList ds p := hA0
  rw [Try.params3] at hA hval
  obtain ⟨v0, vs0, d0, ds0, p0, q0, hargs, rfl, rfl, h0, r0⟩ := trodAll_cons hA
  obtain ⟨v1, vs1, d1, ds1, p1, q1, rfl, rfl, rfl, h1, r1⟩ := trodAll_cons r0
  obtain ⟨rfl, rfl, rfl⟩ := trodAll_nil r1
  obtain rfl : args = #[v0, v1] := by cases args; simp_all
  obtain ⟨rfl, rfl⟩ := trodVars_none hV
  obtain ⟨a0, l0, c0, rfl⟩ := okWide_slice Try.underlying22 (hval 0 22 v0 rfl rfl)
  obtain ⟨a1, l1, c1, rfl⟩ := okWide_slice Try.underlying22 (hval 1 22 v1 rfl rfl)
  obtain ⟨e0, k0⟩ := code_of Try.underlying22 Try.underlying5 cells5 h0
  obtain ⟨e1, k1⟩ := code_of Try.underlying22 Try.underlying5 cells5 h1
  have b0 : l0 ≤ 4611686018427387903 := by
    rcases e0 with rfl | ⟨zs, z1, z2, rfl⟩
    · omega
    · exact code_len (j := 0) (t := 22) hsz z1 z2 rfl rfl Try.underlying22 bytes5
  have b1 : l1 ≤ 4611686018427387903 := by
    rcases e1 with rfl | ⟨zs, z1, z2, rfl⟩
    · omega
    · exact code_len (j := 1) (t := 22) hsz z1 z2 rfl rfl Try.underlying22 bytes5
  clear hA0 hval0
  have walk : Calls Try.prog 3 #[.slice a0 l0 c0, .slice a1 l1 c1] W fun e w' => e = .returned (.bool true) ∧ Below W.heap.size W w' := by
    by_cases hs : l0 + l1 ≤ 1048576
    · exact cleaned_small l0 c0 l1 c1 a0 a1 W hs (k0 (by omega)) (k1 (by omega))
    · exact cleaned_big l0 c0 l1 c1 a0 a1 W b0 b1 hs
  refine walk.mono fun e W' ⟨he, hg⟩ => ?_
  subst he
  exact ⟨_, rfl, law_post laidOut (by kernel_rfl) (by kernel_rfl) rfl (trodAll_mk1 (shut_bool Try.underlying4 _)) hW' hg⟩
end Go.Proofs.Ytohkhcjdjjlfbaa.fnCleaned
namespace Go.Proofs.Ytohkhcjdjjlfbaa
open Go.ChangeShapes Go.WideShapes Go.ChangeAt Go.RowKit
theorem fnCleaned_said : Rows.FnCleanedSaid :=
  OpenClaim.holds_of_wide 3 Try.f3 rfl rfl rfl rfl rfl rfl rfl ⟨rfl, rfl, rfl, rfl, rfl⟩ rfl rfl rfl rfl rfl (by kernel_rfl) Try.func3 (by kernel_rfl)
    (of_decide_eq_true (by kernel_rfl)) (by unfold Func.isWrapper; first | (rw [if_pos (by decide +kernel)]; kernel_rfl) | (rw [if_neg (by decide +kernel)]; exact ⟨rfl, rfl⟩))
    (fun os started H enc _ => fnCleaned.lifted os started H enc)
end Go.Proofs.Ytohkhcjdjjlfbaa
