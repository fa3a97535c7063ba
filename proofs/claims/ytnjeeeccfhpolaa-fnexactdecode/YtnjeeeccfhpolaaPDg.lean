/- One element is deleted from a row of one's own, whatever its kind. -/
import Derived.Test.YtnjeeeccfhpolaaPQa
import Derived.Laws.OwnMore
namespace Go.Proofs.Ytnjeeeccfhpolaa
set_option maxRecDepth 100000
open Go Go.ChangeShapes Go.WideShapes Go.ChangeAt Go.RowKit
theorem gvals_take {α : Type} {K : Kd α} (hK : KdOk K) (l : List α) (k : Nat) : gvals K (l.take k) = (gvals K l).take (k * K.sz) := by
  by_cases h : k ≤ l.length
  · have e : gvals K l = gvals K (l.take k) ++ gvals K (l.drop k) := by rw [← gvals_app, List.take_append_drop]
    rw [e, List.take_left' (by rw [gvals_len hK, List.length_take, Nat.min_eq_left h])]
  · rw [List.take_of_length_le (by omega), List.take_of_length_le (by rw [gvals_len hK]; exact Nat.mul_le_mul_right _ (by omega))]
theorem gvals_drop {α : Type} {K : Kd α} (hK : KdOk K) (l : List α) (k : Nat) (h : k ≤ l.length) : gvals K (l.drop k) = (gvals K l).drop (k * K.sz) := by
  have e : gvals K l = gvals K (l.take k) ++ gvals K (l.drop k) := by rw [← gvals_app, List.take_append_drop]
  rw [e, List.drop_left' (by rw [gvals_len hK, List.length_take, Nat.min_eq_left h])]
theorem GL.cutG {α : Type} {K : Kd α} (hK : KdOk K) {lo R c n : Nat} {l : List α} {w : World} (h : w.ownsRow lo K.e K.sz (.slice (some ⟨R, 0, none⟩) n c) n (gvals K l)) (hn : n = l.length) (k : Nat) (hk : k ≤ n) : w.ownsRow lo K.e K.sz (.slice (some ⟨R, 0, none⟩) k c) k (gvals K (l.take k)) := by
  obtain ⟨hl, ⟨e, _⟩ | ⟨g, cap, cur, e, h1, hg, h2, h3, h4, h5⟩⟩ := h
  · cases e
  · injection e with e1 _ e3
    injection e1 with e1
    injection e1 with e1 _ _
    subst e1; subst e3
    refine ⟨by rw [gvals_len hK, List.length_take, Nat.min_eq_left (by omega)], Or.inr ⟨R, c, cur, rfl, h1, hg, by omega, h3, h4, ?_⟩⟩
    rw [gvals_take hK, ← h5, List.take_take, Nat.min_eq_left (Nat.mul_le_mul_right _ hk)]
/-- one element's cells put to nought: the builtin clear -/
theorem run_clear_one {P : Program} (w : World) (t e : TypeId) (zs : List Value) (z : Value) (ht : P.underlying t = some (.slice e)) (hv : ∀ w, (zeroValue e).run P w = .ok z w) (hz : z.cells = zs.toArray) (h1 : ∀ v ∈ zs, v.oneCell' = true)
    (g o : Nat) (cur : Array Value) (te : TypeId) (hg : w.heap[g]? = some (.cells cur te (0, 0))) (hfit : o + zs.length ≤ cur.size) :
    ∃ ys, (∀ ty c, (Builtin.clear_ #[t] ty #[.slice (some ⟨g, o, none⟩) 1 c]).run P w = .ok (.tuple #[]) (w.setRow g ys)) ∧ ys.size = cur.size ∧ ∀ n, n ≤ o → ys.toList.take n = cur.toList.take n := by
  have hst := run_storeCells_at P g o te zs 0 cur w hg (by simpa using hfit) h1
  simp only [Nat.add_zero] at hst
  have hzc : (Builtin.zeroCells z.cells 1).toList = zs := by
    rw [hz]
    simp [Builtin.zeroCells]
    apply List.ext_getElem (by simp)
    intro i h1 h2
    simp [Nat.mod_eq_of_lt h2, h2]
  refine ⟨(cur.toList.take o ++ zs ++ cur.toList.drop (o + zs.length)).toArray, ?_, ?_, ?_⟩
  · intro ty c
    simp [Builtin.clear_, run_underlying ht, hv, hzc, hst]
  · simp only [List.size_toArray, List.length_append, List.length_take, List.length_drop, Array.length_toList]
    omega
  · intro n hn
    rw [List.toList_toArray, List.append_assoc, List.take_append_of_le_length (by rw [List.length_take, Array.length_toList]; omega), List.take_take, Nat.min_eq_left hn]
/-- what deleting does, step by step: an append within the row, then a clear behind its end -/
theorem del_runs {α : Type} {K : Kd α} (hK : KdOk K) (z : Value) (zs : List Value) (hv : ∀ w, (zeroValue K.e).run Try.prog w = .ok z w) (hz : z.cells = zs.toArray) (hzl : zs.length = K.sz) (h1 : ∀ v ∈ zs, v.oneCell' = true)
    (lo R c : Nat) (l : List α) (k : Nat) (w : World) (h : GL K lo (.slice (some ⟨R, 0, none⟩) l.length c) l w) (hk : k < l.length) (d : Nat) :
    ∃ w1 w2, (∀ ty, (Builtin.append_ #[K.t, K.t] ty #[.slice (some ⟨R, 0, none⟩) k c, .slice (if c = k + 1 then some ⟨R, 0, none⟩ else some ⟨R, (k + 1) * K.sz, none⟩) (l.length - (k + 1)) d]).run Try.prog w = .ok (.slice (some ⟨R, 0, none⟩) (l.length - 1) c) w1) ∧
      (∀ ty d', (Builtin.clear_ #[K.t] ty #[.slice (some ⟨R, (l.length - 1) * K.sz, none⟩) 1 d']).run Try.prog w1 = .ok (.tuple #[]) w2) ∧
      GL K lo (.slice (some ⟨R, 0, none⟩) (l.length - 1) c) (l.eraseIdx k) w2 ∧ w.grownBy w2 (some R) := by
  have h9 : w.ownsRow lo K.e K.sz (.slice (some ⟨R, 0, none⟩) l.length c) l.length (gvals K l) := h
  obtain ⟨i, z', bs, hi, hz', hs, hb, hzs, hbs⟩ := hK.info
  have hcap := (rw_cap h9).1
  have hcut := GL.cutG hK h9 rfl k (by omega)
  have hdl : (gvals K (l.drop (k + 1))).length = (l.length - (k + 1)) * K.sz := by rw [gvals_len hK, List.length_drop]
  obtain ⟨ad, had, hadc⟩ : ∃ ad : Addr, (if c = k + 1 then some ⟨R, 0, none⟩ else some ⟨R, (k + 1) * K.sz, none⟩ : Option Addr) = some ad ∧ (k + 1 < l.length → ad = ⟨R, (k + 1) * K.sz, none⟩) := by
    by_cases e : c = k + 1
    · rw [if_pos e]
      exact ⟨_, rfl, fun h => by omega⟩
    · rw [if_neg e]
      exact ⟨_, rfl, fun _ => rfl⟩
  rw [had]
  have hsrc : ∀ j u, (gvals K (l.drop (k + 1)))[j]? = some u → w.cell? (ad.add j) = some u := fun j u hu => by
    have hkl : k + 1 < l.length := by
      by_cases e : k + 1 < l.length
      · exact e
      · rw [List.drop_eq_nil_of_le (by omega)] at hu
        simp [gvals] at hu
    rw [hadc hkl]
    rw [gvals_drop hK l (k + 1) (by omega), List.getElem?_drop] at hu
    have hadd : (⟨R, (k + 1) * K.sz, none⟩ : Addr).add j = ⟨R, (k + 1) * K.sz + j, none⟩ := by unfold Addr.add; split <;> simp_all
    rw [hadd]
    obtain ⟨hl, ⟨e, _⟩ | ⟨g, cap, cur, e, h1, hg, h2, h3, h4, h5⟩⟩ := h9
    · cases e
    · injection e with e1 _ e3
      injection e1 with e1
      injection e1 with e1 _ _
      subst e1
      rw [box_cell hg]
      rw [← h5] at hu
      obtain ⟨hlt, hu'⟩ := List.getElem?_eq_some_iff.1 hu
      rw [List.getElem_take] at hu'
      have hlt' : (k + 1) * K.sz + j < cur.size := by
        have hh : (List.take (l.length * K.sz) cur.toList).length ≤ cur.toList.length := by rw [List.length_take]; exact Nat.min_le_right _ _
        have h8 : cur.toList.length = cur.size := Array.length_toList
        exact Nat.lt_of_lt_of_le hlt (by omega)
      rw [← hu']
      simp [hlt']
  have ha : ∀ ty, ∃ w1, (Builtin.append_ #[K.t, K.t] ty #[.slice (some ⟨R, 0, none⟩) k c, .slice (some ad) (l.length - (k + 1)) d]).run Try.prog w = .ok (.slice (some ⟨R, 0, none⟩) (k + (l.length - (k + 1))) c) w1 ∧
      w1.ownsRow lo K.e K.sz (.slice (some ⟨R, 0, none⟩) (k + (l.length - (k + 1))) c) (k + (l.length - (k + 1))) (gvals K (l.take k) ++ gvals K (l.drop (k + 1))) ∧ w.grownBy w1 (some R) := fun ty =>
    run_append_fits w lo K.t ty K.e i K.sz hK.und hi hs R k c _ hcut _ (l.length - (k + 1)) d _ hdl hsrc (fun u hu => by
      unfold gvals at hu
      obtain ⟨y, hy, hu⟩ := List.mem_flatten.1 hu
      obtain ⟨x, _, rfl⟩ := List.mem_map.1 hy
      exact hK.one x u hu) (by omega)
  obtain ⟨w1, r1, o1, g1⟩ := ha K.t
  have e1 : k + (l.length - (k + 1)) = l.length - 1 := by omega
  rw [e1] at r1 o1
  have r1' : ∀ ty, (Builtin.append_ #[K.t, K.t] ty #[.slice (some ⟨R, 0, none⟩) k c, .slice (some ad) (l.length - (k + 1)) d]).run Try.prog w = .ok (.slice (some ⟨R, 0, none⟩) (l.length - 1) c) w1 := fun ty => r1
  obtain ⟨hl, ⟨e, _⟩ | ⟨g, cap, cur, e, q1, hg, q2, q3, q4, q5⟩⟩ := o1
  · cases e
  injection e with e1' _ e3
  injection e1' with e1'
  injection e1' with e1' _ _
  subst e1'; subst e3
  have hfit : (l.length - 1) * K.sz + zs.length ≤ cur.size := by
    rw [hzl, q4]
    have : (l.length - 1) * K.sz + K.sz = (l.length - 1 + 1) * K.sz := by rw [Nat.add_mul]; omega
    rw [this]
    exact Nat.mul_le_mul_right _ (by omega)
  obtain ⟨ys, r2, s2, t2⟩ := run_clear_one (P := Try.prog) w1 K.t K.e zs z hK.und hv hz h1 R ((l.length - 1) * K.sz) cur K.e hg hfit
  refine ⟨w1, w1.setRow R ys, r1', r2, ?_, ?_⟩
  · have hle : (l.eraseIdx k).length = l.length - 1 := by rw [List.length_eraseIdx, if_pos hk]
    unfold GL
    rw [hle]
    refine ⟨by rw [gvals_len hK, hle], Or.inr ⟨R, c, ys, rfl, q1, setRow_heap w1 R cur ys K.e _ hg, q2, q3, by rw [s2]; exact q4, ?_⟩⟩
    rw [t2 _ (Nat.le_refl _), q5, ← gvals_app, List.eraseIdx_eq_take_drop_succ]
  · exact ⟨g1.os, g1.tape, g1.output, by have := g1.size; simpa [World.setRow] using this, fun q hq hn => (setRow_other w1 R q ys (fun e => hn (by rw [e]))).trans (g1.block q hq hn)⟩
end Go.Proofs.Ytnjeeeccfhpolaa
