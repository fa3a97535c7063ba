/- Rows of one's own: written out, set in place, held apart. -/
import Derived.Test.YtnjeeeccfhpolaaPLess
namespace Go.Proofs.Ytnjeeeccfhpolaa
set_option maxRecDepth 100000
open Go Go.ChangeShapes Go.WideShapes Go.ChangeAt Go.RowKit
theorem rw_setG {w : World} {lo R n c k sz : Nat} {t : TypeId} {xs : List Value} (h : w.ownsRow lo t sz (.slice (some ⟨R, 0, none⟩) n c) n xs) (v : Value) : (w.setCell ⟨R, k, none⟩ v).ownsRow lo t sz (.slice (some ⟨R, 0, none⟩) n c) n (xs.set k v) := by
  obtain ⟨hl, h | ⟨g, cap, cur, h0, h1, hg, h2, h3, h4, h5⟩⟩ := h
  · exact absurd h.1 (by intro e; cases e)
  · injection h0 with e1 e2 e3
    injection e1 with e1
    injection e1 with e1
    subst e1 e3
    refine ⟨by rw [List.length_set]; exact hl, .inr ⟨R, c, cur.setIfInBounds k v, rfl, h1, box_set hg k v, h2, h3, by rw [Array.size_setIfInBounds]; exact h4, ?_⟩⟩
    rw [Array.toList_setIfInBounds, List.take_set, h5]
theorem gvalsP_set (l : List Pk) (k : Nat) (x : Pk) : gvals KP (l.set k x) = ((gvals KP l).set (k * 2) (.int .i64 x.ms)).set (k * 2 + 1) (.string x.tx) := by
  induction l generalizing k with
  | nil => simp [gvals]
  | cons a l ih =>
    have e : ∀ (y : Pk) (m : List Pk), gvals KP (y :: m) = .int .i64 y.ms :: .string y.tx :: gvals KP m := fun y m => rfl
    cases k with
    | zero => rfl
    | succ k =>
      rw [List.set_cons_succ, e, e, ih, show (k + 1) * 2 = k * 2 + 1 + 1 from by omega]
      rfl
theorem gvalsI_set (l : List Int) (k : Nat) (x : Int) : gvals KI (l.set k x) = (gvals KI l).set k (.int .i64 x) := by
  induction l generalizing k with
  | nil => simp [gvals]
  | cons a l ih =>
    have e : ∀ (y : Int) (m : List Int), gvals KI (y :: m) = .int .i64 y :: gvals KI m := fun y m => rfl
    cases k with
    | zero => rfl
    | succ k =>
      rw [List.set_cons_succ, e, e, ih]
      rfl
theorem GL.setP {lo R c k : Nat} {l : List Pk} {w : World} (h : GL KP lo (.slice (some ⟨R, 0, none⟩) l.length c) l w) (x : Pk) : GL KP lo (.slice (some ⟨R, 0, none⟩) l.length c) (l.set k x) ((w.setCell ⟨R, k * 2, none⟩ (.int .i64 x.ms)).setCell ⟨R, k * 2 + 1, none⟩ (.string x.tx)) := by
  unfold GL
  rw [List.length_set, gvalsP_set]
  exact rw_setG (rw_setG h _) _
theorem GL.setI {lo R c k : Nat} {l : List Int} {w : World} (h : GL KI lo (.slice (some ⟨R, 0, none⟩) l.length c) l w) (x : Int) : GL KI lo (.slice (some ⟨R, 0, none⟩) l.length c) (l.set k x) (w.setCell ⟨R, k, none⟩ (.int .i64 x)) := by
  unfold GL
  rw [List.length_set, gvalsI_set]
  exact rw_setG h _
theorem GL.lt {α : Type} {K : Kd α} {lo : Nat} {v : Value} {l : List α} {w : World} (h : GL K lo v l w) : ∀ k, v.ownBlock = some k → lo ≤ k ∧ k < w.heap.size := World.ownsRow.lt h
theorem GL.at {α : Type} {K : Kd α} {lo : Nat} {v : Value} {l : List α} {w : World} (h : GL K lo v l w) (h0 : 0 < l.length) : ∃ R c, v = .slice (some ⟨R, 0, none⟩) l.length c ∧ lo ≤ R ∧ R < w.heap.size := by
  have h9 : w.ownsRow lo K.e K.sz v l.length (gvals K l) := h
  have h8 := h.lt
  rcases h9.2 with ⟨_, h1⟩ | ⟨g, cap, cur, e, _⟩
  · omega
  · subst e
    exact ⟨g, cap, rfl, h8 g rfl⟩
/-- a list written out with nothing in it -/
theorem GL.lit {α : Type} (K : Kd α) (w : World) : GL K w.heap.size (.slice (some ⟨w.heap.size, 0, none⟩) 0 0) [] (w.alloc (.cells #[] K.e)) := by
  have := World.ownsRow_made w (base := w.heap.size) (e := K.e) (size := K.sz) #[] 0 (Nat.le_refl _) (by unfold maxLen; omega) (by simp)
  exact this
/-- two rows in blocks apart -/
def Apart (u v : Value) : Prop := ∀ k j, u.ownBlock = some k → v.ownBlock = some j → k ≠ j
theorem Apart.symm {u v : Value} (h : Apart u v) : Apart v u := fun k j hk hj e => h j k hj hk e.symm
theorem Apart.nil (v : Value) : Apart (.slice none 0 0) v := fun k j hk _ => by simp [Value.ownBlock] at hk
theorem erase_take {α : Type} (L : List α) (j k : Nat) (hj : j < L.length) (h : j ≠ k) : (L.take (j + 1)).eraseIdx k = (L.take j).eraseIdx k ++ [L[j]] := by
  rw [List.take_succ_eq_append_getElem hj]
  by_cases hk : k < j
  · rw [List.eraseIdx_append_of_lt_length (by rw [List.length_take]; omega)]
  · rw [List.eraseIdx_of_length_le (by rw [List.length_append, List.length_take]; simp; omega), List.eraseIdx_of_length_le (by rw [List.length_take]; omega)]
theorem erase_take_same {α : Type} (L : List α) (k : Nat) (hj : k < L.length) : (L.take (k + 1)).eraseIdx k = (L.take k).eraseIdx k := by
  rw [List.take_succ_eq_append_getElem hj, List.eraseIdx_append_of_length_le (by rw [List.length_take]; omega), List.length_take, Nat.min_eq_left (by omega), Nat.sub_self, List.eraseIdx_of_length_le (l := L.take k) (by rw [List.length_take]; omega)]
  simp
/-- a row, its first j elements gone over -/
def mixed {α : Type} (f : α → α) (L : List α) (j : Nat) : List α := (L.take j).map f ++ L.drop j
theorem mixed_zero {α : Type} (f : α → α) (L : List α) : mixed f L 0 = L := by simp [mixed]
theorem mixed_end {α : Type} (f : α → α) (L : List α) : mixed f L L.length = L.map f := by simp [mixed]
theorem mixed_len {α : Type} (f : α → α) (L : List α) (j : Nat) : (mixed f L j).length = L.length := by simp [mixed]; omega
theorem mixed_at {α : Type} (f : α → α) (L : List α) (j : Nat) (h : j < L.length) (h' : j < (mixed f L j).length) : (mixed f L j)[j] = L[j] := by
  have h2 : j < ((L.take j).map f ++ L.drop j).length := h'
  show ((L.take j).map f ++ L.drop j)[j]'h2 = L[j]
  rw [List.getElem_append_right (by simp; omega), List.getElem_drop]
  congr 1
  simp
  omega
theorem mixed_set {α : Type} (f : α → α) (L : List α) (j : Nat) (h : j < L.length) : (mixed f L j).set j (f L[j]) = mixed f L (j + 1) := by
  unfold mixed
  rw [List.set_append_right _ _ (by simp; omega), List.length_map, List.length_take, Nat.min_eq_left (by omega), Nat.sub_self, List.take_succ_eq_append_getElem h, List.map_append, List.append_assoc]
  congr 1
  rw [List.drop_eq_getElem_cons h]
  rfl
/-- what a search over the first j rows has found -/
def AtL (L : List Pk) (c j : Nat) (v : Value) : Prop := (v = .int .i64 (-1) ∧ ∀ i (h : i < L.length), i < j → hasP c L[i] = false) ∨ ∃ k, ∃ hk : k < L.length, k < j ∧ v = .int .i64 k ∧ hasP c L[k] = true ∧ ∀ i (h : i < L.length), i < k → hasP c L[i] = false
/-- what reducing keeps while it goes -/
structure RI (z n : Nat) (p : List Pk) (w : World) (b : Nat) (tv lv : Value) (T L : List Pk) (wr : World) : Prop where
  bn : b ≤ n
  red : redG hasP unP b (T, L) = redP n p
  gt : GL KP w.heap.size tv T wr
  gl : GL KP w.heap.size lv L wr
  ap : Apart tv lv
  ot : ∀ x ∈ T, okP z x
  ol : ∀ x ∈ L, okP z x
  len : T.length + L.length = p.length
  be : Below w.heap.size w wr
theorem OwnP.cells {lo hi : Nat} {a : Option Addr} {l : List Pk} {w : World} (h : OwnP lo hi a l w) (k : Nat) (hk : k < l.length) : ∃ R, lo ≤ R ∧ R < w.heap.size ∧ a = some ⟨R, 0, none⟩ ∧ w.cell? ⟨R, k * 2, none⟩ = some (.int .i64 l[k].ms) ∧ w.cell? ⟨R, k * 2 + 1, none⟩ = some (.string l[k].tx) ∧ w.frozen? ⟨R, k * 2, none⟩ = false ∧ w.frozen? ⟨R, k * 2 + 1, none⟩ = false := by
  rcases h with rfl | ⟨R, h1, h3, rfl, hr⟩
  · simp at hk
  · obtain ⟨c0, c1⟩ := hr.cell k hk
    exact ⟨R, h1, hr.lt, rfl, c0, c1, hr.free _ (by omega), hr.free _ (by omega)⟩
end Go.Proofs.Ytnjeeeccfhpolaa
