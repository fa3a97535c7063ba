/- Lists of numbers of one's own. -/
import Derived.Test.YtmbkdollakbigaaHA
import Derived.Laws.AppendOwn
namespace Go.Proofs.Ytmbkdollakbigaa
set_option maxRecDepth 100000
open Go Go.ChangeShapes Go.WideShapes Go.ChangeAt Go.RowKit
theorem ivals_snoc (l : List Int) (n : Int) : ivals (l ++ [n]) = ivals l ++ [.int .i64 n] := by simp [ivals]
theorem ivals_app (l m : List Int) : ivals (l ++ m) = ivals l ++ ivals m := by simp [ivals]
theorem ivals_len (l : List Int) : (ivals l).length = l.length := by simp [ivals]
/-- one number in a box of its own, read as a list -/
theorem irow_one (w : World) (n : Int) : Is (w.alloc (.cells #[.int .i64 n] 3)).heap.size (some ⟨w.heap.size, 0, none⟩) [n] (w.alloc (.cells #[.int .i64 n] 3)) := by
  refine ⟨fun _ => ⟨w.heap.size, 0, rfl, by simp, fun i hi j hj => ?_⟩⟩
  have hi' : i = 0 := by simpa using hi
  subst hi'
  obtain rfl : j = 0 := by omega
  rw [box_cell (heap_last _ _)]
  rfl
/-- a list of one's own that may grow -/
def AL (lo : Nat) (v : Value) (l : List Int) (w : World) : Prop := w.ownsRow lo 3 1 v l.length (ivals l)
theorem AL.nil (lo : Nat) (w : World) : AL lo (.slice none 0 0) [] w := World.ownsRow_nil _ _ _ _
theorem AL.below {lo : Nat} {v : Value} {l : List Int} {w w' : World} (h : AL lo v l w) (g : Below w.heap.size w w') : AL lo v l w' := rw_below h g
theorem AL.mono {lo lo' : Nat} {v : Value} {l : List Int} {w : World} (h : AL lo v l w) (g : lo' ≤ lo) : AL lo' v l w := rw_mono h g
theorem AL.own {lo : Nat} {v : Value} {l : List Int} {w : World} (h : AL lo v l w) : ∃ b c, v = .slice b l.length c ∧ OwnI lo w.heap.size b l w ∧ l.length ≤ c := by
  obtain ⟨b, c, e, ho⟩ := own_ints h
  subst e
  exact ⟨b, c, rfl, ho, (rw_cap h).1⟩
theorem AL.form {lo : Nat} {v : Value} {l : List Int} {w : World} (h : AL lo v l w) : (v = .slice none 0 0 ∧ l = []) ∨ ∃ R c, v = .slice (some ⟨R, 0, none⟩) l.length c ∧ l.length ≤ c ∧ lo ≤ R := by
  have h9 : w.ownsRow lo 3 1 v l.length (ivals l) := h
  rcases h9.2 with ⟨e, h0⟩ | ⟨g, cap, cur, e, h1, _, h2, _⟩
  · exact Or.inl ⟨e, List.eq_nil_of_length_eq_zero h0⟩
  · subst e
    exact Or.inr ⟨g, cap, rfl, (rw_cap h9).1, h1⟩
/-- other numbers are appended -/
theorem AL.app {lo : Nat} {v : Value} {l : List Int} {w : World} (h : AL lo v l w) (hlo : lo ≤ w.heap.size) (a : Option Addr) (c : Nat) (m : List Int) (hI : Is w.heap.size a m w) (hm : l.length + m.length ≤ 10000) :
    ∃ v' w', (∀ ty, (Builtin.append_ #[26, 26] ty #[v, .slice a m.length c]).run Try.prog w = .ok v' w') ∧ AL lo v' (l ++ m) w' ∧ Below lo w w' ∧ w.grownBy w' v.ownBlock ∧ (v'.ownBlock = v.ownBlock ∨ v'.ownBlock = some w.heap.size) := by
  obtain ⟨v', w', h1, h2, h3, h4⟩ := app_int w lo v l.length (ivals l) h a c m hI hm hlo
  refine ⟨v', w', h1, ?_, below_of_grown h3 hlo (fun k hk => (World.ownsRow.lt h k hk).1), h3, h4⟩
  unfold AL
  rw [List.length_append, ivals_app]
  exact h2
/-- one number is appended -/
theorem AL.push {lo : Nat} {v : Value} {l : List Int} {w : World} (h : AL lo v l w) (hlo : lo ≤ w.heap.size) (n : Int) (hm : l.length + 1 ≤ 10000) :
    ∃ v' w', (∀ ty, (Builtin.append_ #[26, 26] ty #[v, .slice (some ⟨w.heap.size, 0, none⟩) 1 1]).run Try.prog (w.alloc (.cells #[.int .i64 n] 3)) = .ok v' w') ∧ AL lo v' (l ++ [n]) w' ∧ Below lo w w' ∧ w.heap.size < w'.heap.size ∧ (w.alloc (.cells #[.int .i64 n] 3)).grownBy w' v.ownBlock ∧ (v'.ownBlock = v.ownBlock ∨ v'.ownBlock = some (w.heap.size + 1)) := by
  have hb := boxB w (.cells #[.int .i64 n] 3)
  obtain ⟨v', w', h1, h2, h3, h4, h5⟩ := (h.below hb).app (Nat.le_trans hlo hb.size) (some ⟨w.heap.size, 0, none⟩) 1 [n] (irow_one w n) hm
  refine ⟨v', w', h1, h2, (hb.mono hlo).trans h3, ?_, h4, ?_⟩
  · have := h3.size; rw [heap_size] at this; omega
  · rw [heap_size] at h5; exact h5
end Go.Proofs.Ytmbkdollakbigaa
