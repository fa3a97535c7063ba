/- Walks of the program's PickSeg and of what it is made of. -/
import Derived.Test.YtohkhcjdjjlfbaaIFree
import Derived.Test.YtohkhcjdjjlfbaaHPick
import Derived.Deep.RegionHeld
namespace Go.Proofs.Ytohkhcjdjjlfbaa
set_option maxRecDepth 100000
open Go.ChangeShapes Go.WideShapes Go.ChangeAt Go.RowKit G00541
theorem liveBlocks_n (aS aL : Option Addr) (kS kL : Nat) (S : List Sg) (L : List (List Bool)) (k : Nat) (w : World) (hl : L.length = S.length) (hg : goodH S L = true) (hk : k < S.length) (hG : Gs w.heap.size aS S w) (hV : Vs w.heap.size aL L w) :
    Calls Try.prog 32 #[.agg #[.slice aS S.length kS, .slice aL L.length kL], .int .i64 k] w fun e w' => ∃ b c, e = .returned (.slice b (cntAt L k) c) ∧ Below w.heap.size w w' := by
  obtain ⟨hn, hall, _⟩ := (goodH_iff S L hl).1 hg
  obtain ⟨g1, _, _, _, g5⟩ := (goodS_iff _ _).1 (hall k hk)
  refine (liveBlocks_any aS aL kS kL S L k w hk hn.2 hl g1 g5 hG hV).mono ?_
  rintro e w' ⟨b, c, rfl, -, hb⟩
  rw [livB_cnt _ _ g5, ← cntAt_eq L k (by omega)]
  exact ⟨b, c, rfl, hb⟩
theorem cntAt_le (S : List Sg) (L : List (List Bool)) (hl : L.length = S.length) (hg : goodH S L = true) (k : Nat) (hk : k < S.length) : cntAt L k ≤ 6 := by
  obtain ⟨hn, hall, _⟩ := (goodH_iff S L hl).1 hg
  obtain ⟨g1, _, _, _, g5⟩ := (goodS_iff _ _).1 (hall k hk)
  rw [cntAt_eq L k (by omega)]
  exact Nat.le_trans List.countP_le_length (by omega)
theorem ageAt_le (S : List Sg) (L : List (List Bool)) (hl : L.length = S.length) (hg : goodH S L = true) (k : Nat) (hk : k < S.length) : 0 ≤ ageAt S k ∧ ageAt S k ≤ 1000 := by
  obtain ⟨hn, hall, _⟩ := (goodH_iff S L hl).1 hg
  obtain ⟨_, _, g3, g4, _⟩ := (goodS_iff _ _).1 (hall k hk)
  rw [ageAt_eq S k hk]
  exact ⟨g3, g4⟩
end Go.Proofs.Ytohkhcjdjjlfbaa
