/- Walk of the model's SetMark. -/
import Derived.Test.YtlifhakgboekfabKSet
namespace Go.Proofs.Ytlifhakgboekfab
set_option maxRecDepth 100000
open Go Go.ChangeShapes Go.WideShapes Go.ChangeAt Go.RowKit
/-- the cell of the last mark -/
theorem last_cell {a : Option Addr} {S : List Ly} {n B : Nat} {v : World} (hn : S.length = n + 1) (h : Ys B a S v) : ∃ b off, a = some ⟨b, off, none⟩ ∧ b < B ∧ v.cell? ⟨b, off + n * 3, none⟩ = some (.int .i64 (lastM S)) := by
  obtain ⟨b, off, e, hb, hcl⟩ := h (by omega)
  obtain ⟨_, _, _, _, c0, _⟩ := hcl n (by omega)
  refine ⟨b, off, e, hb, ?_⟩
  rw [c0]
  have h1 : lastM S = S[n].mark := by
    rw [← aheadM_at S n (by omega)]
    unfold lastM
    rw [← hn]
  rw [h1]
theorem is_set {w : World} {Q : Nat} {x : Option Addr} {y z : Nat} {t : TypeId} {b : Option Addr} {l : List Int} (h : Is w.heap.size b l w) (hq : w.heap[Q]? = some (.cells #[.slice x y z] t)) (u : Value) : Is (w.setCell ⟨Q, 0, none⟩ u).heap.size b l (w.setCell ⟨Q, 0, none⟩ u) := by
  have hz : (w.setCell ⟨Q, 0, none⟩ u).heap.size = w.heap.size := by simp [World.setCell]
  refine ⟨fun h0 => ?_⟩
  obtain ⟨R, off, e, hR, hc⟩ := GSl.cell h h0
  have hne : R ≠ Q := fun e2 => by
    subst e2
    have h1 := hc 0 h0 0 (by decide)
    rw [List.getElem_map, box_cell hq] at h1
    rcases (show off = 0 ∨ 1 ≤ off by omega) with r | r
    · subst r; cases h1
    · rw [Array.getElem?_eq_none (by simp; omega)] at h1; cases h1
  refine ⟨R, off, e, by rw [hz]; exact hR, fun i hi j hj => ?_⟩
  have hb := keepB w Q 0 u R hne
  have : ∀ o, (w.setCell ⟨Q, 0, none⟩ u).cell? ⟨R, o, none⟩ = w.cell? ⟨R, o, none⟩ := fun o => by unfold World.cell?; simp only [hb]
  rw [this]
  exact hc i hi j hj
theorem ss_set {w : World} {Q : Nat} {x : Option Addr} {y z : Nat} {t : TypeId} {b : Option Addr} {l : List ByteArray} (h : Ss w.heap.size b l w) (hq : w.heap[Q]? = some (.cells #[.slice x y z] t)) (u : Value) : Ss (w.setCell ⟨Q, 0, none⟩ u).heap.size b l (w.setCell ⟨Q, 0, none⟩ u) := by
  have hz : (w.setCell ⟨Q, 0, none⟩ u).heap.size = w.heap.size := by simp [World.setCell]
  refine ⟨fun h0 => ?_⟩
  obtain ⟨R, off, e, hR, hc⟩ := GSl.cell h h0
  have hne : R ≠ Q := fun e2 => by
    subst e2
    have h1 := hc 0 h0 0 (by decide)
    rw [List.getElem_map, box_cell hq] at h1
    rcases (show off = 0 ∨ 1 ≤ off by omega) with r | r
    · subst r; cases h1
    · rw [Array.getElem?_eq_none (by simp; omega)] at h1; cases h1
  refine ⟨R, off, e, by rw [hz]; exact hR, fun i hi j hj => ?_⟩
  have hb := keepB w Q 0 u R hne
  have : ∀ o, (w.setCell ⟨Q, 0, none⟩ u).cell? ⟨R, o, none⟩ = w.cell? ⟨R, o, none⟩ := fun o => by unfold World.cell?; simp only [hb]
  rw [this]
  exact hc i hi j hj
theorem ys_set {w : World} {Q : Nat} {x : Option Addr} {y z : Nat} {t : TypeId} {b : Option Addr} {V : List Ly} (h : Ys w.heap.size b V w) (hq : w.heap[Q]? = some (.cells #[.slice x y z] t)) (u : Value) : Ys (w.setCell ⟨Q, 0, none⟩ u).heap.size b V (w.setCell ⟨Q, 0, none⟩ u) := fun h0 => by
  have hz : (w.setCell ⟨Q, 0, none⟩ u).heap.size = w.heap.size := by simp [World.setCell]
  obtain ⟨R, off, e, hR, hc⟩ := h h0
  have hne : R ≠ Q := fun e2 => by
    subst e2
    obtain ⟨_, _, _, _, c0, _⟩ := hc 0 h0
    rw [box_cell hq, Nat.zero_mul, Nat.add_zero] at c0
    rcases (show off = 0 ∨ 1 ≤ off by omega) with r | r
    · subst r; cases c0
    · rw [Array.getElem?_eq_none (by simp; omega)] at c0; cases c0
  have hb := keepB w Q 0 u R hne
  have hcc : ∀ o, (w.setCell ⟨Q, 0, none⟩ u).cell? ⟨R, o, none⟩ = w.cell? ⟨R, o, none⟩ := fun o => by unfold World.cell?; simp only [hb]
  refine ⟨R, off, e, by rw [hz]; exact hR, fun i hi => ?_⟩
  obtain ⟨p, c, q, d, c0, c1, c2, h1, h2⟩ := hc i hi
  exact ⟨p, c, q, d, (hcc _).trans c0, (hcc _).trans c1, (hcc _).trans c2, is_set h1 hq u, ss_set h2 hq u⟩
end Go.Proofs.Ytlifhakgboekfab
