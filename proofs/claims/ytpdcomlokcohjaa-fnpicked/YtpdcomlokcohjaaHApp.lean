/- Numbers appended to a row of one's own. -/
import Derived.Test.YtpdcomlokcohjaaHRead
import Derived.Test.YtpdcomlokcohjaaHA
import Derived.Laws.AppendOwn
namespace Go.Proofs.Ytpdcomlokcohjaa
set_option maxRecDepth 100000
open Go.ChangeShapes Go.WideShapes Go.ChangeAt Go.RowKit G00541
theorem iflat (l : List Int) : (l.map icell).flatten = ivals l := by
  induction l with
  | nil => rfl
  | cons n l ih => rw [List.map_cons, List.flatten_cons, ih]; rfl
theorem iwide (l : List Int) (i : Nat) (hi : i < (l.map icell).length) : (l.map icell)[i].length = 1 := by rw [List.getElem_map]; rfl
theorem own_irow {w : World} {B : Nat} {v : Value} {l : List Int} (h : w.ownsRow B 3 1 v l.length (ivals l)) (h0 : 0 < l.length) : ∃ R c, v = .slice (some ⟨R, 0, none⟩) l.length c ∧ B ≤ R ∧ IRow R l w := by
  have hv : v ≠ .slice none 0 0 := by
    intro e
    rcases h.2 with ⟨_, h1⟩ | ⟨g, cap, cur, e2, _⟩
    · omega
    · rw [e] at e2; cases e2
  rw [← iflat] at h
  obtain ⟨R, cap, e, hR, hrow⟩ := GRow.ofOwns (rows := l.map icell) (iwide l) h (by simp) hv
  exact ⟨R, cap, e, hR, hrow⟩
theorem own_ints {w w' : World} {B : Nat} {v : Value} {l : List Int} (h : w'.ownsRow B 3 1 v l.length (ivals l)) (hB : B = w.heap.size) : ∃ b c, v = .slice b l.length c ∧ OwnI w.heap.size w'.heap.size b l w' := by
  subst hB
  by_cases h0 : 0 < l.length
  · obtain ⟨R, c, e, hR, hrow⟩ := own_irow h h0
    exact ⟨_, c, e, Or.inr ⟨R, hR, hrow.lt, rfl, hrow⟩⟩
  · obtain rfl : l = [] := List.eq_nil_of_length_eq_zero (by omega)
    rcases h.2 with ⟨e, _⟩ | ⟨g, cap, cur, e, _⟩
    · exact ⟨none, 0, e, Or.inl rfl⟩
    · exact ⟨_, cap, e, Or.inl rfl⟩
theorem ivals_snoc (l : List Int) (n : Int) : ivals (l ++ [n]) = ivals l ++ [.int .i64 n] := by simp [ivals]
end Go.Proofs.Ytpdcomlokcohjaa
