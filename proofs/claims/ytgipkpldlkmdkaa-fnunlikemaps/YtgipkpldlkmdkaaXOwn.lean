/- Stretches in a row that append leaves. -/
import Derived.Test.YtgipkpldlkmdkaaX
import Derived.Test.YtgipkpldlkmdkaaOwn
import Derived.Laws.OwnMore
import Derived.Test.YtgipkpldlkmdkaaChecked
import Derived.ProofKit
namespace Go.Proofs.Ytgipkpldlkmdkaa
set_option maxRecDepth 100000
open Go Go.RowKit G00541
def xflat (l : List Sx) : List Value := (l.map xcells).flatten
theorem xflat_snoc (l : List Sx) (x : Sx) : xflat (l ++ [x]) = xflat l ++ xcells x := by
  unfold xflat
  rw [List.map_append, List.flatten_append]
  simp
theorem xwide (l : List Sx) (i : Nat) (hi : i < (l.map xcells).length) : (l.map xcells)[i].length = 3 := by rw [List.getElem_map]; rfl
theorem xflat_len (l : List Sx) : (xflat l).length = l.length * 3 := by
  unfold xflat; rw [flat_len 3 _ (xwide l)]; simp
theorem own_xs {w w' : World} {B : Nat} {v : Value} {l : List Sx} (h : w'.ownsRow B 36 3 v l.length (xflat l)) (hB : B = w.heap.size) : ∃ b c, v = .slice b l.length c ∧ OwnX w.heap.size w'.heap.size b l w' := by
  subst hB
  by_cases hv : v = .slice none 0 0
  · have h0 : l.length = 0 := by
      rcases h.2 with ⟨_, h0⟩ | ⟨g, cap, cur, e, _⟩
      · exact h0
      · rw [hv] at e; cases e
    exact ⟨none, 0, by rw [hv, h0], Or.inl (List.eq_nil_of_length_eq_zero h0)⟩
  · obtain ⟨R, cap, e, hR, hrow⟩ := GRow.ofOwns (rows := l.map xcells) (xwide l) h (by simp) hv
    exact ⟨some ⟨R, 0, none⟩, cap, e, Or.inr ⟨R, hR, GRow.lt hrow, rfl, hrow⟩⟩
theorem xcells_one (x : Sx) : ∀ u ∈ xcells x, u.oneCell' = true := by
  intro u hu
  simp [xcells] at hu
  rcases hu with rfl | rfl | rfl <;> rfl
theorem grown_below {wr w8 : World} (b8 : Below wr.heap.size wr w8) : wr.grownBy w8 none :=
  ⟨b8.os, b8.tape, b8.output, b8.size, fun j hj _ => b8.block j hj⟩
theorem owns_below {w w' : World} {B : Nat} {e : TypeId} {s : Nat} {v : Value} {n : Nat} {l : List Value} (h : w.ownsRow B e s v n l) (g : Below w.heap.size w w') : w'.ownsRow B e s v n l :=
  h.kept (grown_below g) (by cases v.ownBlock <;> simp)
theorem own_last {w : World} {B : Nat} {v : Value} {L : List Sx} {y : Sx} (h : w.ownsRow B 36 3 v (L ++ [y]).length (xflat (L ++ [y]))) :
    ∃ g cap, v = .slice (some ⟨g, 0, none⟩) (L.length + 1) cap ∧ B ≤ g ∧ g < w.heap.size ∧ w.cell? ⟨g, L.length * 3, none⟩ = some (.int .i64 y.at_) ∧ w.cell? ⟨g, L.length * 3 + 1, none⟩ = some (.int .i64 y.long) ∧ w.cell? ⟨g, L.length * 3 + 2, none⟩ = some (.int .i64 y.place) ∧
      w.frozen? ⟨g, L.length * 3 + 1, none⟩ = false ∧ ∀ n : Int, (w.setCell ⟨g, L.length * 3 + 1, none⟩ (.int .i64 n)).ownsRow B 36 3 v (L ++ [(⟨y.at_, n, y.place⟩ : Sx)]).length (xflat (L ++ [⟨y.at_, n, y.place⟩])) := by
  have hl : ∀ z : Sx, (L ++ [z]).length = L.length + 1 := fun z => by simp
  rw [hl] at h
  obtain ⟨g, cap, rfl⟩ : ∃ g cap, v = .slice (some ⟨g, 0, none⟩) (L.length + 1) cap := by
    rcases h.2 with ⟨_, h0⟩ | ⟨g, cap, cur, e, _⟩
    · omega
    · exact ⟨g, cap, e⟩
  have hlt := h.lt g rfl
  refine ⟨g, cap, rfl, hlt.1, hlt.2, ?_, ?_, ?_, h.frozenAt _, fun n => ?_⟩
  · rw [h.cellAt _ (by omega), xflat_snoc, List.getElem?_append_right (by rw [xflat_len]; omega), xflat_len]; simp [xcells]
  · rw [h.cellAt _ (by omega), xflat_snoc, List.getElem?_append_right (by rw [xflat_len]; omega), xflat_len]; simp [xcells]
  · rw [h.cellAt _ (by omega), xflat_snoc, List.getElem?_append_right (by rw [xflat_len]; omega), xflat_len]; simp [xcells]
  · have := h.stored (L.length * 3 + 1) (.int .i64 n)
    rw [hl, xflat_snoc]
    rw [xflat_snoc, List.set_append_right _ _ (by rw [xflat_len]; omega), xflat_len] at this
    have e : L.length * 3 + 1 - L.length * 3 = 1 := by omega
    rw [e] at this
    exact this.1
theorem own_shape {w : World} {base : Nat} {e : TypeId} {size : Nat} {v : Value} {n : Nat} {xs : List Value} (h : w.ownsRow base e size v n xs) : ∃ a c, v = .slice a n c := by
  rcases h.2 with ⟨h, h0⟩ | ⟨g, cap, cur, h, _⟩
  · exact ⟨none, 0, by rw [h, h0]⟩
  · exact ⟨_, _, h⟩
theorem infoXs : (Try.prog.info? 36).map (fun i => (i.zero, i.size, i.bytes)) = some (some (.agg #[.int .i64 0, .int .i64 0, .int .i64 0]), 3, 24) := by kernel_rfl
end Go.Proofs.Ytgipkpldlkmdkaa
