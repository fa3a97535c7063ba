/- Walks of the model's l7Block, l7Find, l7At. -/
import Derived.Test.YtlifhakgboekfabKGoodS
namespace Go.Proofs.Ytlifhakgboekfab
set_option maxRecDepth 100000
open Go Go.ChangeShapes Go.WideShapes Go.ChangeAt Go.RowKit
/-- the place of the first layer with a mark, the number of layers for none -/
def fndK (S : List Ly) (m : Int) : Nat := S.findIdx (fun y => y.mark == m)
theorem fndK_at {S : List Ly} {m : Int} {k : Nat} (h : k < S.length) (e : S[k].mark = m) (a : ∀ j (g : j < S.length), j < k → S[j].mark ≠ m) : fndK S m = k :=
  (List.findIdx_eq h).2 ⟨beq_iff_eq.2 e, fun j hj => beq_eq_false_iff_ne.2 (a j (by omega) hj)⟩
theorem fndK_none {S : List Ly} {m : Int} (a : ∀ j (g : j < S.length), S[j].mark ≠ m) : fndK S m = S.length :=
  List.findIdx_eq_length.2 fun y hy => by
    obtain ⟨j, hj, rfl⟩ := List.getElem_of_mem hy
    exact beq_eq_false_iff_ne.2 (a j hj)
theorem fndK_le (S : List Ly) (m : Int) : fndK S m ≤ S.length := List.findIdx_le_length
/-- the same, -1 for none -/
def fk (S : List Ly) (m : Int) : Int := if fndK S m < S.length then (fndK S m : Int) else -1
theorem fk_at {S : List Ly} {m : Int} (h : fndK S m < S.length) : fk S m = (fndK S m : Int) := if_pos h
theorem fk_none {S : List Ly} {m : Int} (h : ¬ fndK S m < S.length) : fk S m = -1 := if_neg h
theorem fk_yes {S : List Ly} {m : Int} {k : Nat} (h : k < S.length) (e : fndK S m = k) : Ending.returned (.int .i64 (k : Int)) = .returned (.int .i64 (fk S m)) := by
  rw [fk_at (by omega), e]
theorem fk_no {S : List Ly} {m : Int} (e : fndK S m = S.length) : Ending.returned (.int .i64 (-1)) = .returned (.int .i64 (fk S m)) := by
  rw [fk_none (by omega)]
/-- a block's data after the first j blocks of a layer -/
def atB (bl : List Int) (dt : List ByteArray) (x : Int) (s : ByteArray) : Nat → ByteArray
  | 0 => s
  | j + 1 => if bl.getD j 0 = x then dt.getD j ⟨#[]⟩ else atB bl dt x s j
theorem atB_yes (bl : List Int) (dt : List ByteArray) (x : Int) (s : ByteArray) (j : Nat) (h : j < bl.length) (g : j < dt.length) (e : bl[j] = x) : dt[j] = atB bl dt x s (j + 1) := by
  have e1 : bl.getD j 0 = x := by rw [List.getD_eq_getElem?_getD, List.getElem?_eq_getElem h]; exact e
  show _ = if bl.getD j 0 = x then dt.getD j ⟨#[]⟩ else atB bl dt x s j
  rw [if_pos e1, List.getD_eq_getElem?_getD, List.getElem?_eq_getElem g]; rfl
theorem atB_no (bl : List Int) (dt : List ByteArray) (x : Int) (s : ByteArray) (j : Nat) (h : j < bl.length) (e : ¬ bl[j] = x) : atB bl dt x s j = atB bl dt x s (j + 1) := by
  have e1 : ¬ bl.getD j 0 = x := by rw [List.getD_eq_getElem?_getD, List.getElem?_eq_getElem h]; exact e
  show _ = if bl.getD j 0 = x then dt.getD j ⟨#[]⟩ else atB bl dt x s j
  rw [if_neg e1]
/-- a block's data after the first k layers -/
def atL (S : List Ly) (x : Int) : Nat → ByteArray
  | 0 => ⟨#[0, 0]⟩
  | k + 1 => let y := S.getD k ⟨0, [], []⟩; atB y.bl y.dt x (atL S x k) y.bl.length
theorem atL_at (S : List Ly) (x : Int) (k : Nat) (h : k < S.length) : atL S x (k + 1) = atB S[k].bl S[k].dt x (atL S x k) S[k].bl.length := by
  have e : S.getD k ⟨0, [], []⟩ = S[k] := by rw [List.getD_eq_getElem?_getD, List.getElem?_eq_getElem h]; rfl
  show atB (S.getD k ⟨0, [], []⟩).bl (S.getD k ⟨0, [], []⟩).dt x (atL S x k) (S.getD k ⟨0, [], []⟩).bl.length = _
  rw [e]
end Go.Proofs.Ytlifhakgboekfab
