/- Walk of the model's PickSeg. -/
import Derived.Test.YtbomcppkgpfjjaaHBet
namespace Go.Proofs.Ytbomcppkgpfjjaa
set_option maxRecDepth 100000
open Go.ChangeShapes Go.WideShapes Go.ChangeAt Go.RowKit G00541
def cntAt (L : List (List Bool)) (k : Nat) : Nat := (L.getD k []).countP id
def ageAt (S : List Sg) (k : Nat) : Int := (S.getD k ⟨[], 0⟩).age
theorem cntAt_eq (L : List (List Bool)) (k : Nat) (h : k < L.length) : cntAt L k = L[k].countP id := by
  unfold cntAt
  rw [List.getD_eq_getElem?_getD, List.getElem?_eq_getElem h]; rfl
theorem ageAt_eq (S : List Sg) (k : Nat) (h : k < S.length) : ageAt S k = S[k].age := by
  unfold ageAt
  rw [List.getD_eq_getElem?_getD, List.getElem?_eq_getElem h]; rfl
/-- the first of the best full segments among the first n -/
def bestH (S : List Sg) (L : List (List Bool)) (how : Int) : Nat → Option Nat
  | 0 => none
  | n + 1 => match bestH S L how n with
    | none => if lenAt S n = 6 then some n else none
    | some b => if lenAt S n = 6 ∧ betH how (cntAt L n) (cntAt L b) (ageAt S n) (ageAt S b) = true then some n else some b
theorem best_lt (S : List Sg) (L : List (List Bool)) (how : Int) : ∀ n b, bestH S L how n = some b → b < n
  | 0, _, h => by cases h
  | n + 1, b, h => by
    unfold bestH at h
    cases hb : bestH S L how n with
    | none =>
      rw [hb] at h
      simp only at h
      split at h
      · cases h; omega
      · cases h
    | some c =>
      rw [hb] at h
      have := best_lt S L how n c hb
      simp only at h
      split at h
      · cases h; omega
      · cases h; omega
theorem best_step (S : List Sg) (L : List (List Bool)) (how : Int) (n : Nat) : bestH S L how (n + 1) = match bestH S L how n with
    | none => if lenAt S n = 6 then some n else none
    | some b => if lenAt S n = 6 ∧ betH how (cntAt L n) (cntAt L b) (ageAt S n) (ageAt S b) = true then some n else some b := rfl
theorem optI_none : optI none = -1 := rfl
theorem optI_some (b : Nat) : optI (some b) = (b : Int) := rfl
/-- what PickSeg answers -/
def pickOf (o : Option Nat) : Ending := match o with
  | some b => .returned (.tuple #[.int .i64 (b : Int), .bool true])
  | none => .returned (.tuple #[.int .i64 0, .bool false])
end Go.Proofs.Ytbomcppkgpfjjaa
