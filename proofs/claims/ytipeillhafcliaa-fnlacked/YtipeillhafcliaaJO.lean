/- Numbers that are owned, at whatever place of their row. -/
import Derived.Test.YtipeillhafcliaaJGood
namespace Go.Proofs.Ytipeillhafcliaa
set_option maxRecDepth 100000
open Go Go.ChangeShapes Go.WideShapes Go.ChangeAt Go.RowKit
/-- numbers that are owned in blocks lo .. hi - 1 (or none), behind others of the same row -/
def OwnJ (lo hi : Nat) (a : Option Addr) (l : List Int) (w : World) : Prop := l = [] ∨ ∃ R off pre, lo ≤ R ∧ R < hi ∧ a = some ⟨R, off, none⟩ ∧ pre.length = off ∧ IRow R (pre ++ l) w
theorem OwnJ.out {lo hi l2 h2 : Nat} {a : Option Addr} {l : List Int} {w w' : World} (h : OwnJ lo hi a l w) (g : Out l2 h2 w w') (hd : hi ≤ l2 ∨ h2 ≤ lo) : OwnJ lo hi a l w' := by
  rcases h with h | ⟨R, off, pre, h1, h3, e, hp, hr⟩
  · exact Or.inl h
  · exact Or.inr ⟨R, off, pre, h1, h3, e, hp, hr.same g.size (g.block R hr.lt (by omega))⟩
theorem OwnJ.below {lo hi : Nat} {a : Option Addr} {l : List Int} {w w' : World} (h : OwnJ lo hi a l w) (g : Below w.heap.size w w') : OwnJ lo hi a l w' := by
  rcases h with h | ⟨R, off, pre, h1, h3, e, hp, hr⟩
  · exact Or.inl h
  · exact Or.inr ⟨R, off, pre, h1, h3, e, hp, hr.below g⟩
theorem OwnJ.mono {lo lo' hi hi' : Nat} {a : Option Addr} {l : List Int} {w : World} (h : OwnJ lo hi a l w) (g : lo' ≤ lo) (g2 : hi ≤ hi') : OwnJ lo' hi' a l w := by
  rcases h with h | ⟨R, off, pre, h1, h3, e, hp, hr⟩
  · exact Or.inl h
  · exact Or.inr ⟨R, off, pre, by omega, by omega, e, hp, hr⟩
theorem OwnI.toJ {lo hi : Nat} {a : Option Addr} {l : List Int} {w : World} (h : OwnI lo hi a l w) : OwnJ lo hi a l w := by
  rcases h with h | ⟨R, h1, h3, e, hr⟩
  · exact Or.inl h
  · exact Or.inr ⟨R, 0, [], h1, h3, e, rfl, hr⟩
theorem OwnJ.is {lo hi : Nat} {a : Option Addr} {l : List Int} {w : World} (h : OwnJ lo hi a l w) : Is w.heap.size a l w := by
  rcases h with rfl | ⟨R, off, pre, h1, h3, rfl, hp, hr⟩
  · exact ⟨fun h0 => absurd h0 (by simp)⟩
  · have := is_drop (hr.sl hr.lt) off
    rw [Nat.zero_add, ← hp, List.drop_left] at this
    rw [← hp]
    exact this
/-- a list and a truth value, in memory of one's own -/
def JOut (V : List Int) (ok : Bool) (w : World) (e : Ending) (w' : World) : Prop := ∃ b c, e = .returned (.tuple #[.slice b V.length c, .bool ok]) ∧ OwnJ w.heap.size w'.heap.size b V w' ∧ Below w.heap.size w w' ∧ V.length ≤ c
theorem JOut.no {w w' : World} (g : Below w.heap.size w w') : JOut [] false w (.returned (.tuple #[.slice none 0 0, .bool false])) w' := ⟨none, 0, rfl, Or.inl rfl, g, Nat.le_refl _⟩
theorem JOut.yes {V : List Int} {w w' : World} {v : Value} (h : AL w.heap.size v V w') (g : Below w.heap.size w w') : JOut V true w (.returned (.tuple #[v, .bool true])) w' := by
  obtain ⟨b, c, rfl, ho, hc⟩ := h.own
  exact ⟨b, c, rfl, ho.toJ, g, hc⟩
theorem JOut.row {V : List Int} {R n : Nat} {w w' : World} (h : IRow R V w') (hR : w.heap.size ≤ R) (g : Below w.heap.size w w') (hn : V.length = n) : JOut V true w (.returned (.tuple #[.slice (some ⟨R, 0, none⟩) n n, .bool true])) w' :=
  ⟨some ⟨R, 0, none⟩, n, by rw [hn], Or.inr ⟨R, 0, [], hR, h.lt, rfl, rfl, h⟩, g, by omega⟩
end Go.Proofs.Ytipeillhafcliaa
