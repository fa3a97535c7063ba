/- Layers by what they tell of a block; plain. -/
import Derived.Test.YtmbkdollakbigaaKPz
namespace Go.Proofs.Ytmbkdollakbigaa
set_option maxRecDepth 100000
open Go Go.ChangeShapes Go.WideShapes Go.ChangeAt Go.RowKit
theorem atB_map (bl : List Int) (f : Int → ByteArray) (x : Int) (s : ByteArray) : ∀ j, j ≤ bl.length → atB bl (bl.map f) x s j = if x ∈ bl.take j then f x else s
  | 0, _ => by simp [atB]
  | j + 1, h => by
    have ih := atB_map bl f x s j (by omega)
    have hm : x ∈ bl.take (j + 1) ↔ x ∈ bl.take j ∨ x = bl[j]'(by omega) := by
      rw [take_snoc bl j (by omega), List.mem_append, List.mem_singleton]
    by_cases e : bl[j]'(by omega) = x
    · rw [← atB_yes bl (bl.map f) x s j (by omega) (by simpa using (by omega : j < bl.length)) e, if_pos (hm.2 (Or.inr e.symm)), List.getElem_map, e]
    · rw [← atB_no bl (bl.map f) x s j (by omega) e, ih]
      by_cases g : x ∈ bl.take j
      · rw [if_pos g, if_pos (hm.2 (Or.inl g))]
      · rw [if_neg g, if_neg (fun h' => (hm.1 h').elim g (fun e2 => e e2.symm))]
theorem atB_all (bl : List Int) (f : Int → ByteArray) (x : Int) (s : ByteArray) : atB bl (bl.map f) x s bl.length = if x ∈ bl then f x else s := by
  have := atB_map bl f x s bl.length (Nat.le_refl _)
  rwa [List.take_length] at this
theorem atB_ly {z : Ly} (h : lyOk z) (x : Int) (s : ByteArray) : atB z.bl z.dt x s z.bl.length = if x ∈ z.bl then atB z.bl z.dt x ⟨#[0, 0]⟩ z.bl.length else s := by
  have e := dt_map (rise_pw h.1) h.2.1 ⟨#[0, 0]⟩
  have h1 := atB_all z.bl (fun y => atB z.bl z.dt y ⟨#[0, 0]⟩ z.bl.length) x s
  rw [e] at h1
  exact h1
theorem at_put {z : Ly} (h : lyOk z) (b : Int) (s : ByteArray) (x : Int) (t : ByteArray) : atB (putLy z b s).bl (putLy z b s).dt x t (putLy z b s).bl.length = if x = b then s else atB z.bl z.dt x t z.bl.length := by
  show atB (insU b z.bl) ((insU b z.bl).map (putT z b s)) x t (insU b z.bl).length = _
  rw [atB_all]
  by_cases e : x = b
  · rw [if_pos e, if_pos ((insU_mem b z.bl x).2 (Or.inl e))]
    unfold putT
    rw [if_pos e.symm]
  · rw [if_neg e, atB_ly h x t]
    by_cases g : x ∈ z.bl
    · rw [if_pos ((insU_mem b z.bl x).2 (Or.inr g)), if_pos g]
      unfold putT
      rw [if_neg (fun e2 => e e2.symm)]
    · rw [if_neg (fun h' => ((insU_mem b z.bl x).1 h').elim e g), if_neg g]
theorem riseOk_of {l : List Int} (hs : l.Pairwise (· < ·)) (hb : ∀ x ∈ l, 0 ≤ x ∧ x ≤ 15) : RiseOk l := fun k h => by
  have h1 := hb l[k] (List.getElem_mem h)
  refine ⟨?_, h1.1, h1.2⟩
  cases k with
  | zero => show (-1 : Int) < _; omega
  | succ k =>
    rw [aheadI_at l k (by omega)]
    rw [List.pairwise_iff_getElem] at hs
    exact hs k (k + 1) (by omega) h (by omega)
theorem rise_in {l : List Int} (h : RiseOk l) : ∀ x ∈ l, 0 ≤ x ∧ x ≤ 15 := fun x hx => by
  obtain ⟨j, hj, rfl⟩ := List.getElem_of_mem hx
  exact ⟨(h j hj).2.1, (h j hj).2.2⟩
theorem put_ok {z : Ly} (h : lyOk z) {b : Int} {s : ByteArray} (hb : 0 ≤ b ∧ b ≤ 15) (hs : s.size = 2) : lyOk (putLy z b s) := by
  refine ⟨riseOk_of (insU_strict b z.bl (rise_pw h.1)) (fun x hx => ?_), by simp [putLy], fun k hk => ?_⟩
  · rcases (insU_mem b z.bl x).1 hx with e | e
    · rw [e]; exact hb
    · exact rise_in h.1 x e
  · have e : (putLy z b s).dt[k] = putT z b s ((insU b z.bl)[k]'(by simpa [putLy] using hk)) := by simp [putLy]
    rw [e]
    exact putT_size h b hs _
end Go.Proofs.Ytmbkdollakbigaa
