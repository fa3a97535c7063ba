/- Two maps of blocks in one: what it tells. -/
import Derived.Test.YtmbkdollakbigaaKCm
import Derived.Test.YtmbkdollakbigaaKOvK
namespace Go.Proofs.Ytmbkdollakbigaa
set_option maxRecDepth 100000
open Go Go.ChangeShapes Go.WideShapes Go.ChangeAt Go.RowKit Go.Shelf Go.Maps
/-- two maps told in one, the second one counting -/
theorem tellsK_merge {D Dd Ds : DataW Unit} {Td Ts : Int → ByteArray} {Kd Ks : Int → Prop} (hd : TellsK Dd Td Kd) (hs : TellsK Ds Ts Ks) (hM : Merged D Dd Ds (fun _ => false)) (hm : IsMap D) :
    TellsK D (fun x => if has Ds (.int .i64 x) = true then Ts x else Td x) (fun x => Kd x ∨ Ks x) := by
  have e1 : ∀ x : Int, has D (.int .i64 x) = (has Dd (.int .i64 x) || has Ds (.int .i64 x)) := fun x => by rw [hM.1]; simp
  have e2 : ∀ (x : Int) z, D.atKey (.int .i64 x) z = if has Ds (.int .i64 x) = true then Ds.atKey (.int .i64 x) z else Dd.atKey (.int .i64 x) z := fun x z => by rw [hM.2]; simp
  refine ⟨⟨hm, fun x => ?_⟩, fun x => ?_⟩
  · rw [e1]
    rcases hs.1.2 x with ⟨h1, h2⟩ | ⟨h1, h2⟩
    · refine .inl ⟨by rw [h1]; simp, fun z => ?_⟩
      rw [e2, if_pos h1, h2]
      simp only [h1, if_true]
    · rcases hd.1.2 x with ⟨g1, g2⟩ | ⟨g1, g2⟩
      · refine .inl ⟨by rw [g1]; simp, fun z => ?_⟩
        rw [e2, if_neg (by rw [h1]; simp), g2]
        simp only [h1, Bool.false_eq_true, if_false]
      · refine .inr ⟨by rw [h1, g1]; rfl, ?_⟩
        simp only [h1, Bool.false_eq_true, if_false]
        exact g2
  · rw [e1, Bool.or_eq_true, hd.2, hs.2]
end Go.Proofs.Ytmbkdollakbigaa
