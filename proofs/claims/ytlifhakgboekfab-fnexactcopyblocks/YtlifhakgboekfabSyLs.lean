/- The model's LastBlocks. -/
import Derived.Test.YtlifhakgboekfabSyIa
import Derived.Test.YtlifhakgboekfabHA
import Derived.Test.YtlifhakgboekfabKTxt
import Derived.Test.YtlifhakgboekfabKSet
namespace Go.Proofs.Ytlifhakgboekfab
set_option maxRecDepth 100000
open Go Go.ChangeShapes Go.WideShapes Go.ChangeAt Go.RowKit
/-- texts of one's own -/
def SL (lo : Nat) (v : Value) (l : List ByteArray) (w : World) : Prop := w.ownsRow lo 9 1 v l.length (svals l)
theorem SL.nil (lo : Nat) (w : World) : SL lo (.slice none 0 0) [] w := World.ownsRow_nil _ _ _ _
theorem SL.below {lo : Nat} {v : Value} {l : List ByteArray} {w w' : World} (h : SL lo v l w) (g : Below w.heap.size w w') : SL lo v l w' := rw_below h g
theorem SL.mono {lo lo' : Nat} {v : Value} {l : List ByteArray} {w : World} (h : SL lo v l w) (g : lo' ≤ lo) : SL lo' v l w := rw_mono h g
theorem SL.push {lo : Nat} {v : Value} {l : List ByteArray} {w : World} (h : SL lo v l w) (hlo : lo ≤ w.heap.size) (x : ByteArray) (hm : l.length + 1 ≤ 10000) :
    ∃ v' w', (∀ ty, (Builtin.append_ #[55, 55] ty #[v, .slice (some ⟨w.heap.size, 0, none⟩) 1 1]).run Try.prog (w.alloc (.cells #[.string x] 9)) = .ok v' w') ∧ SL lo v' (l ++ [x]) w' ∧ Below lo w w' ∧ (w.alloc (.cells #[.string x] 9)).grownBy w' v.ownBlock := by
  have hb := boxB w (.cells #[.string x] 9)
  obtain ⟨v', w', h1, h2, h3, h4⟩ := app_str (w.alloc (.cells #[.string x] 9)) lo v l.length (svals l) (rw_below h hb) (some ⟨w.heap.size, 0, none⟩) 1 [x] (srow_one w x) hm (Nat.le_trans hlo hb.size)
  refine ⟨v', w', h1, ?_, (hb.mono hlo).trans (below_of_grown h3 (Nat.le_trans hlo hb.size) (fun k hk => (World.ownsRow.lt h k hk).1)), h3⟩
  unfold SL
  rw [List.length_append, svals_snoc]
  exact h2
/-- texts and a truth value, in memory of one's own -/
def TOut (V : List ByteArray) (ok : Bool) (w : World) (e : Ending) (w' : World) : Prop := ∃ b c, e = .returned (.tuple #[.slice b V.length c, .bool ok]) ∧ OwnS w.heap.size w'.heap.size b V w' ∧ Below w.heap.size w w'
theorem TOut.no {w w' : World} (g : Below w.heap.size w w') : TOut [] false w (.returned (.tuple #[.slice none 0 0, .bool false])) w' := ⟨none, 0, rfl, Or.inl rfl, g⟩
theorem TOut.yes {V : List ByteArray} {w w' : World} {v : Value} (h : SL w.heap.size v V w') (g : Below w.heap.size w w') : TOut V true w (.returned (.tuple #[v, .bool true])) w' := by
  obtain ⟨b, c, rfl, ho⟩ := own_strs h
  exact ⟨b, c, rfl, ho, g⟩
/-- all blocks at the last layer -/
def lastT (A : List Ly) : List ByteArray := (List.range 16).map fun k : Nat => atL A (k : Int) A.length
theorem lastT_take (A : List Ly) (k : Nat) (_h : k < 16) : ((List.range (k + 1)).map fun j : Nat => atL A (j : Int) A.length) = ((List.range k).map fun j : Nat => atL A (j : Int) A.length) ++ [atL A (k : Int) A.length] := by
  rw [List.range_succ, List.map_append]
  rfl
def lastV (A : List Ly) : List ByteArray := if GoodK A then lastT A else []
theorem lastV_len (A : List Ly) : (lastV A).length ≤ 1048576 := by
  unfold lastV lastT
  split <;> simp
end Go.Proofs.Ytlifhakgboekfab
