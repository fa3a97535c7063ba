/- Small texts that the others stand on, in one. -/
import Derived.Test.YtmbkdollakbigaaKPq
import Derived.Test.YtmbkdollakbigaaKOvV
import Derived.Test.YtmbkdollakbigaaKSet
import Derived.Test.YtmbkdollakbigaaKBackI
import Derived.Test.YtmbkdollakbigaaHA
import Derived.Deep.RegionHeld
import Derived.OrdersIn
import Derived.Test.YtmbkdollakbigaaKMr
import Derived.Test.YtmbkdollakbigaaKLow
import Derived.Test.YtmbkdollakbigaaKZ
namespace Go.Proofs.Ytmbkdollakbigaa
set_option maxRecDepth 100000
open Go Go.ChangeShapes Go.WideShapes Go.ChangeAt Go.RowKit
/-- the first j blocks of a layer put under the next one -/
def mrg (y0 y1 : Ly) : Nat → Ly
  | 0 => y1
  | j + 1 => if y0.bl.getD j 0 ∈ y1.bl then mrg y0 y1 j else putLy (mrg y0 y1 j) (y0.bl.getD j 0) (y0.dt.getD j ⟨#[]⟩)
def dropY (y0 y1 : Ly) : Ly := mrg y0 y1 y0.bl.length
theorem getD_in {α : Type} (l : List α) (j : Nat) (d : α) (h : j < l.length) : l.getD j d = l[j] := by
  rw [List.getD_eq_getElem?_getD, List.getElem?_eq_getElem h]; rfl
theorem mrg_in {y0 y1 : Ly} {j : Nat} (h : j < y0.bl.length) (g : y0.bl[j] ∈ y1.bl) : mrg y0 y1 (j + 1) = mrg y0 y1 j := if_pos (by rw [getD_in _ _ _ h]; exact g)
theorem mrg_out {y0 y1 : Ly} {j : Nat} (h : j < y0.bl.length) (hd : j < y0.dt.length) (g : ¬ y0.bl[j] ∈ y1.bl) : mrg y0 y1 (j + 1) = putLy (mrg y0 y1 j) y0.bl[j] y0.dt[j] := by
  have : mrg y0 y1 (j + 1) = if y0.bl.getD j 0 ∈ y1.bl then mrg y0 y1 j else putLy (mrg y0 y1 j) (y0.bl.getD j 0) (y0.dt.getD j ⟨#[]⟩) := rfl
  rw [this, getD_in _ _ _ h, getD_in _ _ _ hd, if_neg g]
theorem mrg_inv {y0 y1 : Ly} (h0 : lyOk y0) (h1 : lyOk y1) : ∀ j, j ≤ y0.bl.length → (mrg y0 y1 j).mark = y1.mark ∧ lyOk (mrg y0 y1 j) ∧ (∀ x, x ∈ (mrg y0 y1 j).bl ↔ x ∈ y0.bl.take j ∨ x ∈ y1.bl) ∧
    ∀ x, x ∈ (mrg y0 y1 j).bl → atB (mrg y0 y1 j).bl (mrg y0 y1 j).dt x ⟨#[0, 0]⟩ (mrg y0 y1 j).bl.length = if x ∈ y1.bl then atB y1.bl y1.dt x ⟨#[0, 0]⟩ y1.bl.length else atB y0.bl y0.dt x ⟨#[0, 0]⟩ y0.bl.length
  | 0, _ => ⟨rfl, h1, fun x => by simp [mrg], fun x hx => by rw [if_pos (show x ∈ y1.bl from hx)]; rfl⟩
  | j + 1, h => by
    obtain ⟨i1, i2, i3, i4⟩ := mrg_inv h0 h1 j (by omega)
    have hd : j < y0.dt.length := by have := h0.2.1; omega
    have ht : ∀ x, x ∈ y0.bl.take (j + 1) ↔ x ∈ y0.bl.take j ∨ x = y0.bl[j] := fun x => by rw [take_snoc y0.bl j h, List.mem_append, List.mem_singleton]
    by_cases g : y0.bl[j] ∈ y1.bl
    · rw [mrg_in h g]
      refine ⟨i1, i2, fun x => ?_, i4⟩
      rw [i3, ht]
      constructor
      · rintro (e | e)
        · exact Or.inl (Or.inl e)
        · exact Or.inr e
      · rintro ((e | e) | e)
        · exact Or.inl e
        · rw [e]; exact Or.inr g
        · exact Or.inr e
    · rw [mrg_out h hd g]
      have hb := rise_in h0.1 y0.bl[j] (List.getElem_mem h)
      have hm : ∀ x, x ∈ (putLy (mrg y0 y1 j) y0.bl[j] y0.dt[j]).bl ↔ x = y0.bl[j] ∨ x ∈ (mrg y0 y1 j).bl := fun x => insU_mem _ _ _
      refine ⟨i1, put_ok i2 hb (h0.2.2 j hd), fun x => ?_, fun x hx => ?_⟩
      · rw [hm, i3, ht]
        constructor
        · rintro (e | e | e)
          · exact Or.inl (Or.inr e)
          · exact Or.inl (Or.inl e)
          · exact Or.inr e
        · rintro ((e | e) | e)
          · exact Or.inr (Or.inl e)
          · exact Or.inl e
          · exact Or.inr (Or.inr e)
      · rw [at_put i2]
        by_cases e : x = y0.bl[j]
        · rw [if_pos e, if_neg (by rw [e]; exact g), e]
          have e2 : j + 1 + (y0.bl.length - (j + 1)) = y0.bl.length := by omega
          have := atB_place (rise_pw h0.1) h0.2.1 ⟨#[0, 0]⟩ j h (y0.bl.length - (j + 1)) (by omega)
          rw [e2] at this
          exact this.symm
        · rw [if_neg e]
          exact i4 x (((hm x).1 hx).resolve_left e)
theorem dropY_mark (y0 y1 : Ly) (h0 : lyOk y0) (h1 : lyOk y1) : (dropY y0 y1).mark = y1.mark := (mrg_inv h0 h1 _ (Nat.le_refl _)).1
theorem dropY_ok {y0 y1 : Ly} (h0 : lyOk y0) (h1 : lyOk y1) : lyOk (dropY y0 y1) := (mrg_inv h0 h1 _ (Nat.le_refl _)).2.1
theorem dropY_mem {y0 y1 : Ly} (h0 : lyOk y0) (h1 : lyOk y1) (x : Int) : x ∈ (dropY y0 y1).bl ↔ x ∈ y0.bl ∨ x ∈ y1.bl := by
  have := (mrg_inv h0 h1 _ (Nat.le_refl _)).2.2.1 x
  rw [List.take_length] at this
  exact this
theorem kp_two (y0 y1 : Ly) (x : Int) : KP [y0, y1] (upT [y0, y1] 2) x ↔ x ∈ y0.bl ∨ x ∈ y1.bl := by
  have e : upT [y0, y1] 2 = [⟨0, by simp⟩, ⟨1, by simp⟩] := by
    rw [upT_succ [y0, y1] 1 (by simp), upT_succ [y0, y1] 0 (by simp)]; simp [upT]
  rw [e]
  unfold KP
  constructor
  · rintro ⟨k, h, g⟩
    rcases List.mem_cons.1 h with rfl | h
    · exact Or.inl g
    · rw [List.mem_singleton] at h
      subst h
      exact Or.inr g
  · rintro (h | h)
    · exact ⟨_, List.mem_cons_self, h⟩
    · exact ⟨_, List.mem_cons_of_mem _ (List.mem_singleton.2 rfl), h⟩
/-- the layer that the program lays of the two -/
theorem dropY_dt {y0 y1 : Ly} (h0 : lyOk y0) (h1 : lyOk y1) : (dropY y0 y1).bl.map (fun y => atL [y0, y1] y 2) = (dropY y0 y1).dt := by
  have hy := dropY_ok h0 h1
  rw [← dt_map (rise_pw hy.1) hy.2.1 ⟨#[0, 0]⟩]
  refine List.map_congr_left fun x hx => ?_
  have h4 := (mrg_inv h0 h1 _ (Nat.le_refl _)).2.2.2 x hx
  refine Eq.trans ?_ h4.symm
  rw [atL_at [y0, y1] x 1 (by simp), atL_at [y0, y1] x 0 (by simp)]
  show atB y1.bl y1.dt x (atB y0.bl y0.dt x ⟨#[0, 0]⟩ y0.bl.length) y1.bl.length = _
  rw [atB_ly h1]
/-- DropMark answers -/
def DrpOk (S : List Ly) (m : Int) : Prop := GoodK S ∧ fndK S m + 1 < S.length
instance (S : List Ly) (m : Int) : Decidable (DrpOk S m) := by unfold DrpOk; infer_instance
def drpK (S : List Ly) (m : Int) : List Ly := if DrpOk S m then S.take (fndK S m) ++ dropY (S.getD (fndK S m) ⟨0, [], []⟩) (S.getD (fndK S m + 1) ⟨0, [], []⟩) :: S.drop (fndK S m + 2) else []
theorem drpK_no {S : List Ly} {m : Int} (h : ¬ DrpOk S m) : drpK S m = [] := if_neg h
theorem drpK_yes {S1 S2 : List Ly} {y0 y1 : Ly} {m : Int} (h : DrpOk (S1 ++ y0 :: y1 :: S2) m) (hk : fndK (S1 ++ y0 :: y1 :: S2) m = S1.length) : drpK (S1 ++ y0 :: y1 :: S2) m = S1 ++ dropY y0 y1 :: S2 := by
  unfold drpK
  rw [if_pos h, hk]
  have e1 : (S1 ++ y0 :: y1 :: S2).getD S1.length ⟨0, [], []⟩ = y0 := by simp
  have e2 : (S1 ++ y0 :: y1 :: S2).getD (S1.length + 1) ⟨0, [], []⟩ = y1 := by
    rw [List.getD_eq_getElem?_getD, List.getElem?_append_right (by omega)]
    simp
  have e3 : (S1 ++ y0 :: y1 :: S2).drop (S1.length + 2) = S2 := by
    rw [List.drop_append]
    simp
  rw [e1, e2, e3]
  simp
theorem drp_split {S : List Ly} {k : Nat} (h : k + 1 < S.length) : ∃ S1 y0 y1 S2, S = S1 ++ y0 :: y1 :: S2 ∧ S1.length = k := by
  refine ⟨S.take k, S[k], S[k + 1], S.drop (k + 2), ?_, by rw [List.length_take]; omega⟩
  have e1 : S.drop k = S[k] :: S.drop (k + 1) := List.drop_eq_getElem_cons (by omega)
  have e2 : S.drop (k + 1) = S[k + 1] :: S.drop (k + 2) := List.drop_eq_getElem_cons (by omega)
  rw [← e2, ← e1, List.take_append_drop]
/-- marks rise -/
theorem marks_lt {S : List Ly} (h : GoodK S) : ∀ d i (g : i + d + 1 < S.length), (S[i]'(by omega)).mark < (S[i + d + 1]).mark
  | 0, i, g => by
    have h1 := (h.2.2 (i + 1) g).1
    rw [aheadM_at S i (by omega)] at h1
    exact h1
  | d + 1, i, g => by
    have h0 := marks_lt h d i (by omega)
    have h1 := (h.2.2 (i + d + 2) (by omega)).1
    rw [aheadM_at S (i + d + 1) (by omega)] at h1
    exact Int.lt_trans h0 h1
/-- a mark is the last one just where it is found there -/
theorem fnd_last {S : List Ly} {m : Int} (h : GoodK S) (hf : fndK S m < S.length) : m = lastM S ↔ ¬ fndK S m + 1 < S.length := by
  have hm : S[fndK S m].mark = m := by
    have := List.findIdx_getElem (w := hf)
    simp at this
    exact this
  rw [lastM_at (by omega)]
  constructor
  · intro e hlt
    have h1 := marks_lt h (S.length - 1 - fndK S m - 1) (fndK S m) (by omega)
    have e1 : fndK S m + (S.length - 1 - fndK S m - 1) + 1 = S.length - 1 := by omega
    simp only [e1] at h1
    omega
  · intro hn
    have e1 : fndK S m = S.length - 1 := by omega
    have e2 : ∀ k (h1 : k < S.length), k = S.length - 1 → S[k].mark = (S[S.length - 1]'(by omega)).mark := fun k h1 e => by subst e; rfl
    exact hm.symm.trans (e2 _ hf e1)
/-- a part of layers in memory -/
theorem Ys.mid {B b off : Nat} {S1 M S2 : List Ly} {w : World} (h : Ys B (some ⟨b, off, none⟩) (S1 ++ (M ++ S2)) w) : Ys B (some ⟨b, off + S1.length * 3, none⟩) M w := fun h0 => by
  obtain ⟨b', off', e, hb, hc⟩ := h (by simp; omega)
  injection e with e
  injection e with e1 e2 _
  subst e1 e2
  refine ⟨b, off + S1.length * 3, rfl, hb, fun i hi => ?_⟩
  have hi2 : S1.length + i < (S1 ++ (M ++ S2)).length := by simp; omega
  have hat : (S1 ++ (M ++ S2))[S1.length + i] = M[i] := by
    rw [List.getElem_append_right (by omega), List.getElem_append_left (by omega)]
    congr 1; omega
  obtain ⟨p, c, q, d, c0, c1, c2, c3, c4⟩ := hc (S1.length + i) hi2
  rw [hat] at c0 c1 c2 c3 c4
  have eo : off + (S1.length + i) * 3 = off + S1.length * 3 + i * 3 := by omega
  rw [eo] at c0 c1 c2
  exact ⟨p, c, q, d, c0, c1, c2, c3, c4⟩
theorem SmallK.mid {S1 M S2 : List Ly} (h : SmallK (S1 ++ (M ++ S2))) : SmallK M := by
  have hn := h.n
  have hl : (S1 ++ (M ++ S2)).length = S1.length + (M.length + S2.length) := by simp
  have hat : ∀ i (hi : i < M.length), (S1 ++ (M ++ S2))[S1.length + i]'(by omega) = M[i] := fun i hi => by
    rw [List.getElem_append_right (by omega), List.getElem_append_left (by omega)]
    congr 1; omega
  refine ⟨by omega, fun k hk => ?_, fun k hk => ?_, fun k hk j hj => ?_⟩
  · have := h.bl (S1.length + k) (by omega); rw [hat k hk] at this; exact this
  · have := h.dt (S1.length + k) (by omega); rw [hat k hk] at this; exact this
  · have := h.sz (S1.length + k) (by omega) j (by rw [hat k hk]; exact hj)
    simp only [hat k hk] at this
    exact this
theorem drpK_good {S : List Ly} {m : Int} (h : DrpOk S m) : GoodK (drpK S m) := by
  obtain ⟨S1, y0, y1, S2, rfl, hl⟩ := drp_split h.2
  rw [drpK_yes h hl.symm]
  have hg := h.1
  have hlen : (S1 ++ y0 :: y1 :: S2).length = S1.length + (S2.length + 2) := by simp
  have hlen2 : (S1 ++ dropY y0 y1 :: S2).length = S1.length + (S2.length + 1) := by simp
  have a0 : (S1 ++ y0 :: y1 :: S2)[S1.length]'(by omega) = y0 := by simp
  have a1 : (S1 ++ y0 :: y1 :: S2)[S1.length + 1]'(by omega) = y1 := by
    rw [List.getElem_append_right (by omega)]; simp
  have k0 := hg.2.2 S1.length (by omega)
  have k1 := hg.2.2 (S1.length + 1) (by omega)
  rw [a0] at k0
  rw [a1] at k1
  have h0 := k0.2.2.2
  have h1 := k1.2.2.2
  have hmk : (S1 ++ dropY y0 y1 :: S2).map (·.mark) = S1.map (·.mark) ++ y1.mark :: S2.map (·.mark) := by simp [dropY_mark y0 y1 h0 h1]
  refine ⟨by omega, by have := hg.2.1; omega, fun k hk => ?_⟩
  by_cases c1 : k < S1.length
  · have := hg.2.2 k (by omega)
    have e1 : (S1 ++ dropY y0 y1 :: S2)[k] = (S1 ++ y0 :: y1 :: S2)[k]'(by omega) := by rw [List.getElem_append_left c1, List.getElem_append_left c1]
    rw [e1]
    refine ⟨?_, this.2⟩
    have ea : aheadM (S1 ++ dropY y0 y1 :: S2) k = aheadM (S1 ++ y0 :: y1 :: S2) k := by
      cases k with
      | zero => rfl
      | succ k => rw [aheadM_at _ k (by omega), aheadM_at _ k (by omega), List.getElem_append_left (by omega), List.getElem_append_left (by omega)]
    rw [ea]
    exact this.1
  · by_cases c2 : k = S1.length
    · subst c2
      have e1 : (S1 ++ dropY y0 y1 :: S2)[S1.length]'(by omega) = dropY y0 y1 := by simp
      rw [e1]
      have hk1 := k1.1
      rw [aheadM_at _ S1.length (by omega), a0] at hk1
      have ea : aheadM (S1 ++ dropY y0 y1 :: S2) S1.length = aheadM (S1 ++ y0 :: y1 :: S2) S1.length := by
        cases hS : S1.length with
        | zero => rfl
        | succ k => rw [aheadM_at _ k (by omega), aheadM_at _ k (by omega), List.getElem_append_left (by omega), List.getElem_append_left (by omega)]
      refine ⟨?_, ?_, ?_, dropY_ok h0 h1⟩
      · rw [ea, dropY_mark y0 y1 h0 h1]; exact Int.lt_trans k0.1 hk1
      · rw [dropY_mark y0 y1 h0 h1]; exact k1.2.1
      · rw [dropY_mark y0 y1 h0 h1]; exact k1.2.2.1
    · obtain ⟨i, rfl⟩ : ∃ i, k = S1.length + 1 + i := ⟨k - (S1.length + 1), by omega⟩
      have := hg.2.2 (S1.length + 2 + i) (by omega)
      have e1 : (S1 ++ dropY y0 y1 :: S2)[S1.length + 1 + i] = S2[i]'(by omega) := by
        rw [List.getElem_append_right (by omega)]
        have : S1.length + 1 + i - S1.length = i + 1 := by omega
        simp only [this, List.getElem_cons_succ]
      have e2 : (S1 ++ y0 :: y1 :: S2)[S1.length + 2 + i]'(by omega) = S2[i]'(by omega) := by
        rw [List.getElem_append_right (by omega)]
        have : S1.length + 2 + i - S1.length = i + 2 := by omega
        simp only [this, List.getElem_cons_succ]
      rw [e2] at this
      rw [e1]
      refine ⟨?_, this.2⟩
      have hm := this.1
      have ex : S1.length + 2 + i = (S1.length + 1 + i) + 1 := by omega
      rw [ex, aheadM_at _ (S1.length + 1 + i) (by omega)] at hm
      have ey : S1.length + 1 + i = (S1.length + i) + 1 := by omega
      rw [ey, aheadM_at _ (S1.length + i) (by omega)]
      refine Int.lt_of_le_of_lt (Int.le_of_eq ?_) hm
      cases i with
      | zero =>
        have b1 : (S1 ++ dropY y0 y1 :: S2)[S1.length + 0]'(by omega) = dropY y0 y1 := by simp
        rw [b1, dropY_mark y0 y1 h0 h1]
        exact (congrArg Ly.mark a1).symm
      | succ i =>
        have b1 : (S1 ++ dropY y0 y1 :: S2)[S1.length + (i + 1)]'(by omega) = S2[i]'(by omega) := by
          rw [List.getElem_append_right (by omega)]
          have : S1.length + (i + 1) - S1.length = i + 1 := by omega
          simp only [this, List.getElem_cons_succ]
        have b2 : (S1 ++ y0 :: y1 :: S2)[S1.length + 1 + (i + 1)]'(by omega) = S2[i]'(by omega) := by
          rw [List.getElem_append_right (by omega)]
          have : S1.length + 1 + (i + 1) - S1.length = i + 2 := by omega
          simp only [this, List.getElem_cons_succ]
        rw [b1, b2]
end Go.Proofs.Ytmbkdollakbigaa
namespace Go.Proofs.Ytmbkdollakbigaa
set_option maxRecDepth 100000
open Go Go.ChangeShapes Go.WideShapes Go.ChangeAt Go.RowKit
theorem row_cell3 {w : World} {lo : Nat} {e : TypeId} {v : Value} {n : Nat} {xs : List Value} (h : w.ownsRow lo e 3 v n xs) : (v = .slice none 0 0 ∧ n = 0) ∨ ∃ g c, v = .slice (some ⟨g, 0, none⟩) n c ∧ lo ≤ g ∧ g < w.heap.size ∧ ∀ j (hj : j < xs.length), w.cell? ⟨g, 0 + j, none⟩ = some xs[j] := by
  obtain ⟨hl, h | ⟨g, cap, cur, rfl, h1, hg, h2, h3, h4, h5⟩⟩ := h
  · exact Or.inl h
  · refine Or.inr ⟨g, cap, rfl, h1, (Array.getElem?_eq_some_iff.1 hg).1, fun j hj => ?_⟩
    have e1 : xs[j]? = some xs[j] := List.getElem?_eq_getElem hj
    have hj2 : j < n * 3 := by omega
    have e2 : xs[j]? = cur[j]? := by
      have : (List.take (n * 3) cur.toList)[j]? = cur.toList[j]? := List.getElem?_take_of_lt hj2
      rw [h5] at this
      exact this.trans (by simp)
    rw [Nat.zero_add]
    simp only [World.cell?, hg]
    exact e2.symm.trans e1
theorem app_at {α : Type} (L M : List α) (i : Nat) (h : i < (L ++ M).length) : (∃ h' : i < L.length, (L ++ M)[i] = L[i]) ∨ (∃ h' : i - L.length < M.length, L.length ≤ i ∧ (L ++ M)[i] = M[i - L.length]) := by
  by_cases e : i < L.length
  · exact Or.inl ⟨e, List.getElem_append_left e⟩
  · have hl : i - L.length < M.length := by rw [List.length_append] at h; omega
    exact Or.inr ⟨hl, by omega, List.getElem_append_right (by omega)⟩
theorem kvals_app (L M : List (Ly × LA)) : kvals (L ++ M) = kvals L ++ kvals M := by simp [kvals]
theorem KG.join {lo : Nat} {v v2 : Value} {L L2 : List (Ly × LA)} {w w1 : World} (h : KG lo v L w) (hlo : lo ≤ w.heap.size) (g : Below w.heap.size w w1) (h2 : KG w.heap.size v2 L2 w1) (hn : L.length + L2.length ≤ 10000) :
    ∃ v' w', (∀ ty, (Builtin.append_ #[29, 29] ty #[v, v2]).run Try.prog w1 = .ok v' w') ∧ KG lo v' (L ++ L2) w' ∧ Below lo w1 w' ∧ w1.grownBy w' v.ownBlock := by
  have h1 := h.on g
  have hgs := g.size
  obtain ⟨i0, hi, hz0, hz1, hz2⟩ := info_parts infoLy
  rcases row_cell3 h2.row with ⟨rfl, hz⟩ | ⟨R2, c2, rfl, hR2, hR2l, hcell⟩
  · obtain rfl : L2 = [] := List.eq_nil_of_length_eq_zero hz
    obtain ⟨a, c, rfl⟩ := rw_form h1.row
    refine ⟨_, w1, fun ty => app_none 29 64 i0 Try.underlying29 hi w1 a L.length c 0 (rw_cap h1.row).1 ty, by rw [List.append_nil]; exact h1, Below.refl _ _, ⟨rfl, rfl, rfl, Nat.le_refl _, fun _ _ _ => rfl⟩⟩
  · obtain ⟨v', w', r, o, gr, nb⟩ := app_any 29 64 i0 _ 3 56 Try.underlying29 hi hz0 hz1 hz2 rfl (by decide) w1 lo v L.length (kvals L) h1.row R2 0 L2.length c2 (kvals L2) h2.row.1 hcell (fun u hu => by
      unfold kvals at hu
      obtain ⟨l, hl, hul⟩ := List.mem_flatten.1 hu
      obtain ⟨z, _, rfl⟩ := List.mem_map.1 hl
      simp only [kcells, List.mem_cons, List.not_mem_nil, or_false] at hul
      rcases hul with rfl | rfl | rfl <;> rfl) hn (by decide) (by omega)
    have hvb : ∀ Y, v.ownBlock = some Y → Y < w.heap.size := fun Y e => (h.row.lt Y e).2
    have hkb : ∀ Y, Y < w1.heap.size → v.ownBlock ≠ some Y → w'.heap[Y]? = w1.heap[Y]? := fun Y hY hne => gr.block Y hY (fun e => hne e.symm)
    have hnb : ∀ Y, Y < w1.heap.size → v.ownBlock ≠ some Y → v'.ownBlock ≠ some Y := fun Y hY hne e => by
      rcases nb with e2 | e2
      · exact hne (by rw [← e2]; exact e)
      · rw [e2] at e; injection e with e; omega
    have hsz := gr.size
    refine ⟨v', w', r, ?_, below_of_grown gr (by omega) (fun k hk => (h.row.lt k hk).1), gr⟩
    have hvF : ∀ F, w.heap.size ≤ F → v.ownBlock ≠ some F := fun F h9 e => by have := hvb F e; omega
    refine ⟨by rw [List.length_append, kvals_app]; exact o, fun i hi => ?_, fun i hi => ?_, fun i j hi hj hij => ?_, fun i j hi hj hij => ?_, fun i j hi hj => ?_⟩
    · rcases app_at L L2 i hi with ⟨hi', e⟩ | ⟨hi', _, e⟩
      · rw [e]
        exact (h1.ownB i hi').imp id (fun ⟨a1, a2, a3, a4, a5⟩ => ⟨a1, by omega, hnb _ a2 a3, a4, a5.same hsz (hkb _ a2 a3)⟩)
      · rw [e]
        exact (h2.ownB _ hi').imp id (fun ⟨a1, a2, a3, a4, a5⟩ => ⟨by omega, by omega, hnb _ a2 (hvF _ a1), a4, a5.same hsz (hkb _ a2 (hvF _ a1))⟩)
    · rcases app_at L L2 i hi with ⟨hi', e⟩ | ⟨hi', _, e⟩
      · rw [e]
        exact (h1.ownD i hi').imp id (fun ⟨a1, a2, a3, a4, a5⟩ => ⟨a1, by omega, hnb _ a2 a3, a4, a5.same hsz (hkb _ a2 a3)⟩)
      · rw [e]
        exact (h2.ownD _ hi').imp id (fun ⟨a1, a2, a3, a4, a5⟩ => ⟨by omega, by omega, hnb _ a2 (hvF _ a1), a4, a5.same hsz (hkb _ a2 (hvF _ a1))⟩)
    · rcases app_at L L2 i hi with ⟨hi', e⟩ | ⟨hi', ei, e⟩ <;> rcases app_at L L2 j hj with ⟨hj', e'⟩ | ⟨hj', ej, e'⟩ <;> rw [e, e'] <;> intro x1 x2
      · exact h.bb i j hi' hj' hij x1 x2
      · have a2 := ((h.ownB i hi').resolve_left x1).2.1
        have b1 := ((h2.ownB _ hj').resolve_left x2).1
        omega
      · have a2 := ((h.ownB j hj').resolve_left x2).2.1
        have b1 := ((h2.ownB _ hi').resolve_left x1).1
        omega
      · exact h2.bb _ _ hi' hj' (by omega) x1 x2
    · rcases app_at L L2 i hi with ⟨hi', e⟩ | ⟨hi', ei, e⟩ <;> rcases app_at L L2 j hj with ⟨hj', e'⟩ | ⟨hj', ej, e'⟩ <;> rw [e, e'] <;> intro x1 x2
      · exact h.dd i j hi' hj' hij x1 x2
      · have a2 := ((h.ownD i hi').resolve_left x1).2.1
        have b1 := ((h2.ownD _ hj').resolve_left x2).1
        omega
      · have a2 := ((h.ownD j hj').resolve_left x2).2.1
        have b1 := ((h2.ownD _ hi').resolve_left x1).1
        omega
      · exact h2.dd _ _ hi' hj' (by omega) x1 x2
    · rcases app_at L L2 i hi with ⟨hi', e⟩ | ⟨hi', ei, e⟩ <;> rcases app_at L L2 j hj with ⟨hj', e'⟩ | ⟨hj', ej, e'⟩ <;> rw [e, e'] <;> intro x1 x2
      · exact h.bd i j hi' hj' x1 x2
      · have a2 := ((h.ownB i hi').resolve_left x1).2.1
        have b1 := ((h2.ownD _ hj').resolve_left x2).1
        omega
      · have a2 := ((h.ownD j hj').resolve_left x2).2.1
        have b1 := ((h2.ownB _ hi').resolve_left x1).1
        omega
      · exact h2.bd _ _ hi' hj' x1 x2
end Go.Proofs.Ytmbkdollakbigaa
namespace Go.Proofs.Ytmbkdollakbigaa
set_option maxRecDepth 100000
open Go
/-- what an operation waits for -/
def depsOf (md : Region.Mode) (ops : Array Oper) (j : Nat) : List Nat := ((ops[j]?).map fun o => (o.after.toList.filter (fun e => Region.binds md e)).map (·.on)).getD []
/-- each waits for earlier ones alone -/
def risesB (md : Region.Mode) (ops : Array Oper) : Bool := (List.range ops.size).all fun j => (depsOf md ops j).all fun i => decide (i < j)
theorem risesB_at {md : Region.Mode} {ops : Array Oper} (h : risesB md ops = true) {j i : Nat} (hj : j < ops.size) (hi : i ∈ depsOf md ops j) : i < j :=
  of_decide_eq_true (List.all_eq_true.1 (List.all_eq_true.1 h j (List.mem_range.2 hj)) i hi)
theorem deps_of {md : Region.Mode} {ops : Array Oper} {j : Nat} (hj : j < ops.size) (l : Array Bool) :
    ((ops[j]?).map (·.after.all fun e => !Region.binds md e || l.getD e.on false)).getD false = true ↔ ∀ i ∈ depsOf md ops j, l.getD i false = true := by
  unfold depsOf
  rw [Array.getElem?_eq_getElem hj]
  simp only [Option.map_some, Option.getD_some]
  rw [← Array.all_toList, List.all_eq_true]
  constructor
  · intro h i hi
    obtain ⟨e, he, rfl⟩ := List.mem_map.1 hi
    obtain ⟨h1, h2⟩ := List.mem_filter.1 he
    have := h e h1
    rw [h2] at this
    simpa using this
  · intro h e he
    cases hb : Region.binds md e with
    | false => rfl
    | true => simpa using h e.on (List.mem_map.2 ⟨e, List.mem_filter.2 ⟨he, hb⟩, rfl⟩)
theorem ready_of {md : Region.Mode} {ops : Array Oper} {l : Array Bool} {j : Nat} : j ∈ Region.ready md ops l ↔ j < ops.size ∧ l.getD j true = false ∧ ∀ i ∈ depsOf md ops j, l.getD i false = true := by
  unfold Region.ready
  rw [List.mem_filter, List.mem_range]
  constructor
  · rintro ⟨h1, h2⟩
    rw [Bool.and_eq_true, deps_of h1] at h2
    exact ⟨h1, by simpa using h2.1, h2.2⟩
  · rintro ⟨h1, h2, h3⟩
    refine ⟨h1, ?_⟩
    rw [Bool.and_eq_true, deps_of h1]
    exact ⟨by simp only [h2, Bool.not_false], h3⟩
theorem getD_tf (l : Array Bool) (j : Nat) (h : j < l.size) : l.getD j true = l.getD j false := by
  simp only [Array.getD, h, dif_pos]
theorem none_ready {md : Region.Mode} {ops : Array Oper} {l : Array Bool} (hl : l.size = ops.size) (hr : risesB md ops = true) (hn : Region.ready md ops l = []) : ∀ j, j < ops.size → l.getD j false = true := by
  intro j
  induction j using Nat.strongRecOn with
  | _ j ih =>
    intro hj
    cases hd : l.getD j false with
    | true => rfl
    | false =>
      have : j ∈ Region.ready md ops l := ready_of.2 ⟨hj, by rw [getD_tf l j (by omega)]; exact hd, fun i hi => ih i (risesB_at hr hj hi) (Nat.lt_trans (risesB_at hr hj hi) hj)⟩
      rw [hn] at this
      cases this
theorem set_done (l : Array Bool) (j : Nat) (h : j < l.size) : (fun i => (l.setIfInBounds j true).getD i false) = fun i => if j = i then true else l.getD i false := by
  funext i
  by_cases e : j = i
  · subst e
    rw [if_pos rfl]
    simp [Array.getD, h]
  · rw [if_neg e]
    by_cases hi : i < l.size
    · simp [Array.getD, hi, e]
    · simp [Array.getD, hi]
theorem count_set (l : Array Bool) (j : Nat) (h : j < l.size) (hf : l.getD j false = false) : (l.setIfInBounds j true).toList.countP (! ·) + 1 = l.toList.countP (! ·) := by
  have hj : j < l.toList.length := by simpa using h
  have e : l.toList[j] = false := by
    simp only [Array.getD, h, dif_pos] at hf
    simpa using hf
  have hp : 0 < l.toList.countP (! ·) := List.countP_pos_iff.2 ⟨_, List.getElem_mem hj, by rw [e]; rfl⟩
  rw [Array.toList_setIfInBounds, List.countP_set hj, e]
  rw [if_pos (by rfl), if_neg (by decide)]
  omega
section
variable {P : Program} {md : Region.Mode} {ops : Array Oper} {Q : Exit → Act → World → Prop} {I : (Nat → Bool) → Act → World → Prop}
theorem wpAny_inv (hr : risesB md ops = true)
    (hs : ∀ j, j < ops.size → ∀ d a w, (∀ i ∈ depsOf md ops j, d i = true) → d j = false → I d a w → wpOp P ops Q j (fun b u => I (fun i => if j = i then true else d i) b u) a w)
    (he : ∀ d a w, (∀ j, j < ops.size → d j = true) → I d a w → Q .normal a w) :
    ∀ (fuel : Nat) (l : Array Bool) (a : Act) (w : World), l.size = ops.size → l.toList.countP (! ·) ≤ fuel → I (fun i => l.getD i false) a w → wpAny P md ops Q fuel l a w
  | 0, l, a, w, hl, hc, h => by
    have hall : ∀ j, j < ops.size → l.getD j false = true := fun j hj => by
      cases hd : l.getD j false with
      | true => rfl
      | false =>
        have := count_set l j (by omega) hd
        omega
    refine ⟨?_, he _ a w hall h⟩
    rw [List.eq_nil_iff_forall_not_mem]
    intro j hj
    obtain ⟨h1, h2, -⟩ := ready_of.1 hj
    rw [getD_tf l j (by omega), hall j h1] at h2
    cases h2
  | fuel + 1, l, a, w, hl, hc, h => by
    refine ⟨fun hn => he _ a w (none_ready hl hr hn) h, fun j hj => ?_⟩
    obtain ⟨h1, h2, h3⟩ := ready_of.1 hj
    rw [getD_tf l j (by omega)] at h2
    refine wpOp_mono (fun b u hb => ?_) (hs j h1 _ a w h3 h2 h)
    refine wpAny_inv hr hs he fuel _ b u (by simp [hl]) ?_ ?_
    · have := count_set l j (by omega) h2
      omega
    · rw [set_done l j (by omega)]
      exact hb
theorem wp_region_inv {id : Nat} {a : Act} {w : World} (hm : P.follows .mixedOrders = true) (hr : risesB .any ops = true) (h0 : I (fun _ => false) a w.drew)
    (hs : ∀ j, j < ops.size → ∀ d a w, (∀ i ∈ depsOf .any ops j, d i = true) → d j = false → I d a w → wpOp P ops Q j (fun b u => I (fun i => if j = i then true else d i) b u) a w)
    (he : ∀ d a w, (∀ j, j < ops.size → d j = true) → I d a w → Q .normal a w) : (Code.region id ops true).wp P Q a w := by
  refine wp_region_any hm (wpAny_inv hr hs he ops.size _ a w.drew (by simp) ?_ ?_)
  · refine Nat.le_trans (List.countP_le_length) ?_
    simp
  · have : (fun i => (Array.replicate ops.size false).getD i false) = fun _ => false := by
      funext i
      by_cases hi : i < ops.size
      · simp [Array.getD, hi]
      · simp [Array.getD, hi]
    rw [this]
    exact h0
theorem wpAnyIn_inv {F : Fence} {n : Nat} (hr : risesB md ops = true)
    (hs : ∀ j, j < ops.size → ∀ d a w, (∀ i ∈ depsOf md ops j, d i = true) → d j = false → I d a w → wpOpIn F n P ops Q j (fun b u => I (fun i => if j = i then true else d i) b u) a w)
    (he : ∀ d a w, (∀ j, j < ops.size → d j = true) → I d a w → Q .normal a w) :
    ∀ (fuel : Nat) (l : Array Bool) (a : Act) (w : World), l.size = ops.size → l.toList.countP (! ·) ≤ fuel → I (fun i => l.getD i false) a w → wpAnyIn F n P md ops Q fuel l a w
  | 0, l, a, w, hl, hc, h => by
    have hall : ∀ j, j < ops.size → l.getD j false = true := fun j hj => by
      cases hd : l.getD j false with
      | true => rfl
      | false =>
        have := count_set l j (by omega) hd
        omega
    refine ⟨?_, he _ a w hall h⟩
    rw [List.eq_nil_iff_forall_not_mem]
    intro j hj
    obtain ⟨h1, h2, -⟩ := ready_of.1 hj
    rw [getD_tf l j (by omega), hall j h1] at h2
    cases h2
  | fuel + 1, l, a, w, hl, hc, h => by
    refine ⟨fun hn => he _ a w (none_ready hl hr hn) h, fun j hj => ?_⟩
    obtain ⟨h1, h2, h3⟩ := ready_of.1 hj
    rw [getD_tf l j (by omega)] at h2
    refine wpOpIn_mono (fun b u hb => ?_) (hs j h1 _ a w h3 h2 h)
    refine wpAnyIn_inv hr hs he fuel _ b u (by simp [hl]) ?_ ?_
    · have := count_set l j (by omega) h2
      omega
    · rw [set_done l j (by omega)]
      exact hb
theorem wpIn_region_inv {F : Fence} {n : Nat} {id : Nat} {a : Act} {w : World} (hm : P.follows .mixedOrders = true) (hr : risesB .any ops = true) (h0 : I (fun _ => false) a w.drew)
    (hs : ∀ j, j < ops.size → ∀ d a w, (∀ i ∈ depsOf .any ops j, d i = true) → d j = false → I d a w → wpOpIn F n P ops Q j (fun b u => I (fun i => if j = i then true else d i) b u) a w)
    (he : ∀ d a w, (∀ j, j < ops.size → d j = true) → I d a w → Q .normal a w) : (Code.region id ops true).wpIn F n P Q a w := by
  refine wpIn_region_any hm (wpAnyIn_inv hr hs he ops.size _ a w.drew (by simp) ?_ ?_)
  · refine Nat.le_trans (List.countP_le_length) ?_
    simp
  · have : (fun i => (Array.replicate ops.size false).getD i false) = fun _ => false := by
      funext i
      by_cases hi : i < ops.size
      · simp [Array.getD, hi]
      · simp [Array.getD, hi]
    rw [this]
    exact h0
end
end Go.Proofs.Ytmbkdollakbigaa
namespace Go.Proofs.Ytmbkdollakbigaa
set_option maxRecDepth 100000
open Go
/-- what must be done ahead of an operation -/
def upOf (md : Region.Mode) (ops : Array Oper) : Nat → Nat → List Nat
  | 0, _ => []
  | f + 1, i => (depsOf md ops i).flatMap fun k => k :: upOf md ops f k
def Closed (md : Region.Mode) (ops : Array Oper) (d : Nat → Bool) : Prop := ∀ i, d i = true → ∀ k ∈ depsOf md ops i, d k = true
theorem Closed.up {md : Region.Mode} {ops : Array Oper} {d : Nat → Bool} (h : Closed md ops d) : ∀ f i, d i = true → ∀ k ∈ upOf md ops f i, d k = true
  | 0, _, _, k, hk => by cases hk
  | f + 1, i, hi, k, hk => by
    obtain ⟨j, hj, hk⟩ := List.mem_flatMap.1 hk
    have h1 := h i hi j hj
    rcases List.mem_cons.1 hk with rfl | hk
    · exact h1
    · exact h.up f j h1 k hk
theorem Closed.none (md : Region.Mode) (ops : Array Oper) : Closed md ops (fun _ => false) := fun i h => by cases h
theorem Closed.step {md : Region.Mode} {ops : Array Oper} {d : Nat → Bool} (h : Closed md ops d) {j : Nat} (hj : ∀ k ∈ depsOf md ops j, d k = true) : Closed md ops (fun i => if j = i then true else d i) := fun i hi k hk => by
  show (if j = k then true else d k) = true
  by_cases e : j = k
  · rw [if_pos e]
  · rw [if_neg e]
    by_cases g : j = i
    · subst g; exact hj k hk
    · have hi' : (if j = i then true else d i) = true := hi
      rw [if_neg g] at hi'
      exact h i hi' k hk
section
variable {P : Program} {ops : Array Oper} {Q : Exit → Act → World → Prop} {I : (Nat → Bool) → Act → World → Prop}
theorem wp_region_inv2 {id : Nat} {a : Act} {w : World} (hm : P.follows .mixedOrders = true) (hr : risesB .any ops = true) (h0 : I (fun _ => false) a w.drew)
    (hs : ∀ j, j < ops.size → ∀ d a w, (∀ f i, d i = true → ∀ k ∈ upOf .any ops f i, d k = true) → (∀ i ∈ depsOf .any ops j, d i = true) → d j = false → I d a w → wpOp P ops Q j (fun b u => I (fun i => if j = i then true else d i) b u) a w)
    (he : ∀ d a w, (∀ j, j < ops.size → d j = true) → I d a w → Q .normal a w) : (Code.region id ops true).wp P Q a w :=
  wp_region_inv (I := fun d a w => I d a w ∧ Closed .any ops d) hm hr ⟨h0, Closed.none _ _⟩
    (fun j hj d a w hd hn h => wpOp_mono (fun _ _ hb => ⟨hb, h.2.step hd⟩) (hs j hj d a w h.2.up hd hn h.1))
    (fun d a w hd h => he d a w hd h.1)
theorem wpIn_region_inv2 {F : Fence} {n : Nat} {id : Nat} {a : Act} {w : World} (hm : P.follows .mixedOrders = true) (hr : risesB .any ops = true) (h0 : I (fun _ => false) a w.drew)
    (hs : ∀ j, j < ops.size → ∀ d a w, (∀ f i, d i = true → ∀ k ∈ upOf .any ops f i, d k = true) → (∀ i ∈ depsOf .any ops j, d i = true) → d j = false → I d a w → wpOpIn F n P ops Q j (fun b u => I (fun i => if j = i then true else d i) b u) a w)
    (he : ∀ d a w, (∀ j, j < ops.size → d j = true) → I d a w → Q .normal a w) : (Code.region id ops true).wpIn F n P Q a w :=
  wpIn_region_inv (I := fun d a w => I d a w ∧ Closed .any ops d) hm hr ⟨h0, Closed.none _ _⟩
    (fun j hj d a w hd hn h => wpOpIn_mono (fun _ _ hb => ⟨hb, h.2.step hd⟩) (hs j hj d a w h.2.up hd hn h.1))
    (fun d a w hd h => he d a w hd h.1)
end
end Go.Proofs.Ytmbkdollakbigaa
namespace Go.Proofs.Ytmbkdollakbigaa
set_option maxRecDepth 100000
open Go Go.ChangeShapes Go.WideShapes Go.ChangeAt Go.RowKit Go.Shelf Go.Maps
theorem two_size {y0 y1 : Ly} (h0 : lyOk y0) (h1 : lyOk y1) (x : Int) : (atL [y0, y1] x 2).size = 2 := by
  rw [atL_at [y0, y1] x 1 (by simp), atL_at [y0, y1] x 0 (by simp)]
  show (atB y1.bl y1.dt x (atB y0.bl y0.dt x ⟨#[0, 0]⟩ y0.bl.length) y1.bl.length).size = 2
  rw [atB_ly h1]
  split
  · exact atB_size2 h1.2.2 h1.2.1 x _ (Nat.le_refl _)
  · exact atB_size2 h0.2.2 h0.2.1 x _ (Nat.le_refl _)
/-- the layer that layerOf lays of two layers' map -/
theorem layer_two {y0 y1 : Ly} (h0 : lyOk y0) (h1 : lyOk y1) (M N : Nat) (D : DataW Unit) (V : World) (hown : V.ownsMap Try.prog 3 keptE M N D) (hT : TellsK D (fun y => atL [y0, y1] y 2) (KP [y0, y1] (upT [y0, y1] 2))) :
    Calls Try.prog 38 #[.int .i64 y1.mark, .map (some M)] V fun e w' => ∃ p1 c1 p2 c2, e = .returned (.agg #[.int .i64 y1.mark, .slice p1 (dropY y0 y1).bl.length c1, .slice p2 (dropY y0 y1).dt.length c2]) ∧ OwnZ V.heap.size w'.heap.size p1 p2 (dropY y0 y1).bl (dropY y0 y1).dt w' ∧ Below V.heap.size V w' := by
  have hy := dropY_ok h0 h1
  have h16 := rise_few hy.1
  obtain ⟨k1, k2⟩ := keysK hT hown (dropY y0 y1).bl (rise_pw hy.1) (fun x => by rw [kp_two, dropY_mem h0 h1])
  have h2 := layerOf_any M N 8000 _ (fun y => atL [y0, y1] y 2) y1.mark V hown hT.1 (by rw [k2]; omega) (Nat.le_refl _) (fun y => by rw [two_size h0 h1 y]; decide)
  rw [k1, dropY_dt h0 h1] at h2
  refine h2.mono ?_
  rintro e w' ⟨vb, vd, rfl, o8, q8, n8, b8⟩
  rw [← hy.2.1] at q8
  obtain ⟨p1, c1, e1⟩ := rw_form o8
  obtain ⟨p2, c2, e2⟩ := rw_form q8
  subst e1 e2
  exact ⟨p1, c1, p2, c2, rfl, ownZ_of o8 q8 n8, b8⟩
structure R6 (lo : Nat) (vr : Value) (L1 : List (Ly × LA)) (y0 y1 : Ly) (both pa : Value) (B : World) (d : Nat → Bool) (u39 u40 u41 u42 u43 u44 u45 u46 u47 u48 u49 u8 : Value) (v : World) : Prop where
  b : d 10 = false → Below B.heap.size B v
  v0 : d 0 = true → u39 = vr
  v1 : d 1 = true → u40 = both
  v2 : d 2 = true → u41 = pa
  v3 : d 3 = true → u42 = pa
  v4 : d 4 = true → u43 = .int .i64 y1.mark
  v5 : d 5 = true → u44 = both
  v6 : d 6 = true → ∃ P, u45 = .func (.func 57) #[] #[.pointer (some ⟨P, 0, none⟩)] ∧ (d 10 = false → v.heap[P]? = some (.cells #[both] 29 (0, 0)))
  v7 : d 7 = true → ∃ (M N : Nat) (D : DataW Unit), u46 = .map (some M) ∧ (d 10 = false → v.ownsMap Try.prog 3 keptE M N D) ∧ TellsK D (fun y => atL [y0, y1] y 2) (KP [y0, y1] (upT [y0, y1] 2))
  v8 : d 8 = true → ∃ p1 c1 p2 c2, u47 = .agg #[.int .i64 y1.mark, .slice p1 (dropY y0 y1).bl.length c1, .slice p2 (dropY y0 y1).dt.length c2] ∧ (d 10 = false → OwnZ B.heap.size v.heap.size p1 p2 (dropY y0 y1).bl (dropY y0 y1).dt v)
  v9 : d 9 = true → ∃ X p1 c1 p2 c2, u48 = .slice (some ⟨X, 0, none⟩) 1 1 ∧ (d 10 = false → v.heap[X]? = some (.cells #[.int .i64 y1.mark, .slice p1 (dropY y0 y1).bl.length c1, .slice p2 (dropY y0 y1).dt.length c2] 64 (0, 0)) ∧ OwnZ B.heap.size v.heap.size p1 p2 (dropY y0 y1).bl (dropY y0 y1).dt v)
  v10 : d 10 = true → (∃ z, KG lo u49 (L1 ++ [(dropY y0 y1, z)]) v) ∧ Below lo B v ∧ B.heap.size ≤ v.heap.size
  v11 : d 11 = true → u8 = u49
  n11 : d 11 = false → u8 = vr
/-- an append whose run is known, in a drawn region -/
theorem wp_append_op {P : Program} {o : Oper} {a : Act} {w : World} {K : Act → World → Prop} {Q : Exit → Act → World → Prop} (s x : Operand) (t : TypeId)
    (hop : o.op = Op.call { callee := Callee.builtin Builtin.append, args := #[s, x], argTypes := #[t, t] })
    (v y : Value) (hs : a.eval s = v) (hx : a.eval x = y) (v' : Value) (w' : World) (hrun : ∀ ty, (Builtin.append_ #[t, t] ty #[v, y]).run P w = .ok v' w') (h : K (a.put o.dst v') w') : Oper.wp P o a w K Q := by
  unfold Oper.wp
  simp [execOp, hop, resolve, invoke, builtin, hs, hx, hrun, Result.andThen]
  exact h
theorem R6.grow {lo : Nat} {v1 : Value} {L1 : List (Ly × LA)} {y0 y1 : Ly} {both pa : Value} {B : World} {d : Nat → Bool} {u39 u40 u41 u42 u43 u44 u45 u46 u47 u48 u49 u8 : Value} {v v' : World} (h : R6 lo v1 L1 y0 y1 both pa B d u39 u40 u41 u42 u43 u44 u45 u46 u47 u48 u49 u8 v) (hd : d 10 = false) (g : Below v.heap.size v v') : R6 lo v1 L1 y0 y1 both pa B d u39 u40 u41 u42 u43 u44 u45 u46 u47 u48 u49 u8 v' := by
  have hb := h.b hd
  have hs := g.size
  have hk : ∀ {k : Nat} {o : Obj}, v.heap[k]? = some o → v'.heap[k]? = some o := fun hk => (g.block _ (Array.getElem?_eq_some_iff.1 hk).1).trans hk
  refine { h with b := fun _ => hb.trans (g.mono hb.size), v6 := fun e => ?_, v7 := fun e => ?_, v8 := fun e => ?_, v9 := fun e => ?_, v10 := fun e => ?_ }
  · obtain ⟨P, h1, h2⟩ := h.v6 e
    exact ⟨P, h1, fun _ => hk (h2 hd)⟩
  · obtain ⟨M, N, D, h1, h2, h3⟩ := h.v7 e
    exact ⟨M, N, D, h1, fun _ => ownsMap_sameK (h2 hd) (g.block M (h2 hd).lt), h3⟩
  · obtain ⟨p1, c1, p2, c2, h1, h2⟩ := h.v8 e
    exact ⟨p1, c1, p2, c2, h1, fun _ => (h2 hd).on g (Nat.le_refl _)⟩
  · obtain ⟨X, p1, c1, p2, c2, h1, h2⟩ := h.v9 e
    exact ⟨X, p1, c1, p2, c2, h1, fun _ => ⟨hk (h2 hd).1, (h2 hd).2.on g (Nat.le_refl _)⟩⟩
  · rw [hd] at e; cases e
end Go.Proofs.Ytmbkdollakbigaa
namespace Go.Proofs.Ytmbkdollakbigaa
set_option maxRecDepth 100000
open Go Go.ChangeShapes Go.WideShapes Go.ChangeAt Go.RowKit Go.Shelf Go.Maps
/-- what DropMark answers -/
def drpO (S : List Ly) (m : Int) : Option (List Ly) := if DrpOk S m then some (drpK S m) else none
theorem drpO_no {S : List Ly} {m : Int} (h : ¬ DrpOk S m) : drpO S m = none := if_neg h
theorem drpO_yes {S : List Ly} {m : Int} (h : DrpOk S m) : drpO S m = some (drpK S m) := if_pos h
set_option maxHeartbeats 8000000 in
theorem idrop_any (a : Option Addr) (cap : Nat) (S : List Ly) (m : Int) (w : World) (hA : Mr a cap S w) :
    Calls Try.prog 15 #[.agg #[.slice a S.length cap], .int .i64 m] w fun e w' => MOut (drpO S m) w e w' := by
  have HB := hid (B2.start w (.slice a S.length cap))
  have HA := hid hA
  have HCG : Hid (∀ v, Below w.heap.size w v → Calls Try.prog 22 #[.agg #[.slice a S.length cap]] v fun e w' => e = .returned (.bool (goodK S)) ∧ Below v.heap.size v w') := fun v g => (hA.on g).igood
  have HCH : Hid (∀ v, Below w.heap.size w v → Calls Try.prog 23 #[.agg #[.slice a S.length cap], .int .i64 m] v fun e w' => e = .returned (.bool (decide (fndK S m < S.length))) ∧ Below v.heap.size v w') := fun v g => (hA.on g).has m
  have HCF : Hid (∀ v, Below w.heap.size w v → Calls Try.prog 36 #[.agg #[.slice a S.length cap], .int .i64 m] v fun e w' => e = .returned (.int .i64 (fk S m)) ∧ Below v.heap.size v w') := fun v g => layerWith_any a cap S m v hA.fit.len ((hA.on g).ys)
  have HCL : Hid (GoodK S → ∀ v, Below w.heap.size w v → Calls Try.prog 35 #[.agg #[.slice a S.length cap]] v fun e w' => e = .returned (.int .i64 (lastM S)) ∧ Below v.heap.size v w') := fun hg v g => lastMark_any a cap S v hg.1 (by have := hg.2.1; omega) ((hA.on g).ys)
  clear hA
  obtain ⟨o, ho⟩ : ∃ o, drpO S m = o := ⟨_, rfl⟩
  rw [ho]
  have HO := hid ho
  clear ho
  generalize hW : (w.alloc (.cells #[.slice a S.length cap] 31)).alloc (.cells #[.slice none 0 0] 31) = W at *
  obtain ⟨x0, -, -⟩ := HB.out.cells
  go_enter Try.func15, Try.ntmps15
  go_wp2_with fail
  clear hW
  refine (HCG.out _ HB.out.below).mono ?_
  rintro e w2 ⟨rfl, b2⟩
  have HB2 := hid (HB.out.on b2)
  clear b2 x0 HCG HB
  obtain ⟨x0, z0, f0⟩ := HB2.out.cells
  have HNO : Hid (∀ v, B2 w (.slice a S.length cap) v → ¬ DrpOk S m → ∀ V, V = v.setCell ⟨w.heap.size + 1, 0, none⟩ (.slice none 0 0) → V.cell? ⟨w.heap.size + 1, 0, none⟩ = some (.slice none 0 0) ∧ MOut o w (.returned (.tuple #[.agg #[.slice none 0 0], .bool false])) V) := fun v hv hn V hV => by
    obtain ⟨x1, z1, f1⟩ := hv.cells
    rw [hV, ← HO.out, drpO_no hn]
    exact ⟨World.cell?_setCell_same _ _ _ z1, rfl, setB hv.below (w.heap.size + 1) 0 (by omega) (.slice none 0 0)⟩
  by_cases hg : GoodK S
  case neg =>
    have hg' := goodK_no hg
    obtain ⟨e0, hM⟩ := HNO.out w2 HB2.out (fun h => hg h.1) _ rfl
    have HM := hid hM
    rw [hg']
    clear hg hg' HCH HCF HCL hM HNO HO
    go_wp2_with fail
    generalize w2.setCell ⟨w.heap.size + 1, 0, none⟩ (.slice none 0 0) = XX at *
    exact bodyPost_ret (v := .tuple #[.agg #[.slice none 0 0], .bool false]) (by simp [results, Try.results15, go_sem, e0]) rfl HM.out
  have HGK := hid hg
  rw [goodK_iff.2 hg]
  clear hg z0 f0
  go_wp2_with fail
  refine (HCH.out _ HB2.out.below).mono ?_
  rintro e w3 ⟨rfl, b3⟩
  have HB3 := hid (HB2.out.on b3)
  clear b3 x0 HCH HB2
  obtain ⟨x0, z0, f0⟩ := HB3.out.cells
  by_cases hf : fndK S m < S.length
  case neg =>
    obtain ⟨e0, hM⟩ := HNO.out w3 HB3.out (fun h => hf (by have := h.2; omega)) _ rfl
    have HM := hid hM
    rw [decide_eq_false hf]
    clear hf HCF HCL hM HNO HO
    go_wp2_with fail
    generalize w3.setCell ⟨w.heap.size + 1, 0, none⟩ (.slice none 0 0) = XX at *
    exact bodyPost_ret (v := .tuple #[.agg #[.slice none 0 0], .bool false]) (by simp [results, Try.results15, go_sem, e0]) rfl HM.out
  rw [decide_eq_true hf]
  have HLST := hid (fnd_last HGK.out hf)
  clear hf z0 f0
  have HCL := hid (HCL.out HGK.out)
  obtain ⟨lm, hlm⟩ : ∃ lm, lastM S = lm := ⟨_, rfl⟩
  rw [hlm] at HLST HCL
  clear hlm
  go_wp2_with fail
  refine (HCL.out _ HB3.out.below).mono ?_
  rintro e w4 ⟨rfl, b4⟩
  have HB4 := hid (HB3.out.on b4)
  clear b4 x0 HCL HB3
  obtain ⟨x0, z0, f0⟩ := HB4.out.cells
  by_cases hl : m = lm
  case pos =>
    obtain ⟨e0, hM⟩ := HNO.out w4 HB4.out (fun h => (HLST.out.1 hl) h.2) _ rfl
    have HM := hid hM
    have hq1 : decide (m = lm) = true := decide_eq_true hl
    have hq2 : (m == lm) = true := by simpa using hl
    clear hl HCF hM HNO HO
    go_wp2_with fail
    generalize w4.setCell ⟨w.heap.size + 1, 0, none⟩ (.slice none 0 0) = XX at *
    exact bodyPost_ret (v := .tuple #[.agg #[.slice none 0 0], .bool false]) (by simp [results, Try.results15, go_sem, e0]) rfl HM.out
  have hD : DrpOk S m := ⟨HGK.out, Classical.byContradiction fun h => hl (HLST.out.2 h)⟩
  have hq1 : decide (m = lm) = false := decide_eq_false hl
  have hq2 : (m == lm) = false := by simpa using hl
  have HD := hid hD
  clear hl hD z0 f0 HNO HLST
  go_wp2_with fail
  refine (HCF.out _ HB4.out.below).mono ?_
  rintro e w5 ⟨rfl, b5⟩
  have HB5 := hid (HB4.out.on b5)
  clear b5 x0 HCF HB4 hq1 hq2
  obtain ⟨S1, y0, y1, S2, rfl, hk1⟩ := drp_split HD.out.2
  rw [fk_at (by have := HD.out.2; omega), ← hk1]
  have HK1 := hid hk1
  have hlen : (S1 ++ y0 :: y1 :: S2).length = S1.length + (S2.length + 2) := by simp
  have h8 := HGK.out.2.1
  have hcap := HA.out.cap
  obtain ⟨b, off, rfl, hb, -⟩ := (HA.out.on HB5.out.below).ys (by omega)
  have HY : Hid (∀ v, Below w5.heap.size w5 v → Ys w5.heap.size (some ⟨b, off, none⟩) (S1 ++ y0 :: y1 :: S2) v) := fun v g => (HA.out.on HB5.out.below).ys.below g
  obtain ⟨x0, z0, f0⟩ := HB5.out.cells
  rw [hlen] at x0 h8 hcap
  have HL := hid hlen
  obtain ⟨n, hn⟩ : ∃ n, S1.length = n := ⟨_, rfl⟩
  have HN := hid hn
  obtain ⟨r, hr⟩ : ∃ r, S2.length = r := ⟨_, rfl⟩
  have HR := hid hr
  rw [hn, hr] at x0 h8 hcap
  rw [hn]
  clear hn hr hlen hk1 z0 f0
  have hw64 : wrap64 ((n : Int) + 2) = ((n + 2 : Nat) : Int) := by unfold wrap64; omega
  have hc1 : n + 2 ≤ cap := by omega
  have hc2 : n ≤ cap := by omega
  have hc3 : ¬ cap = n := by omega
  have hc4 : n ≤ n + 2 := by omega
  have hc5 : n + 2 - n = 2 := by omega
  have hS1 : Hid (∀ v, Below w5.heap.size w5 v → Calls Try.prog 37 #[.slice (some ⟨b, off, none⟩) n cap] v fun e w' => CpK S1 v e w') := fun v g => by
    have := copyLayers_any (some ⟨b, off, none⟩) cap S1 v (SmallK.mid (S1 := []) (good_small HGK.out)) (((Ys.mid (S1 := []) (HY.out v g)).mono g.size |> fun h => by simpa using h))
    rw [HN.out] at this
    exact this
  go_wp2_with fail
  refine (hS1.out _ (Below.refl _ _)).mono ?_
  rintro e w6 ⟨v1, L1, rfl, hL1, hG6, b6⟩
  have HB6 := hid (HB5.out.on b6)
  have HL1 : Hid (L1.length = n) := by show _ = n; rw [← HN.out, ← hL1]; simp
  have HLM := hid hL1
  have HBB := hid b6
  have HLO : Hid (w5.heap.size ≤ w6.drew.heap.size) := b6.size
  have HG6 : Hid (KG w5.heap.size v1 L1 w6.drew) := hG6.on (Below.refl _ _).drew
  have HLY : Hid (lyOk y0 ∧ lyOk y1) := by
    have k0 := HGK.out.2.2 S1.length (by simp)
    have k1 := HGK.out.2.2 (S1.length + 1) (by simp)
    have a0 : (S1 ++ y0 :: y1 :: S2)[S1.length]'(by simp) = y0 := by simp
    have a1 : (S1 ++ y0 :: y1 :: S2)[S1.length + 1]'(by simp) = y1 := by
      rw [List.getElem_append_right (by omega)]; simp
    rw [a0] at k0
    rw [a1] at k1
    exact ⟨k0.2.2.2, k1.2.2.2⟩
  have HLY2 : Hid (∀ k (h : k < [y0, y1].length), [y0, y1][k].bl.length ≤ 1048576 ∧ lyOk [y0, y1][k]) := fun k hk => by
    have h2 : k < 2 := hk
    rcases (show k = 0 ∨ k = 1 by omega) with rfl | rfl
    · exact ⟨by have := rise_few HLY.out.1.1; show y0.bl.length ≤ _; omega, HLY.out.1⟩
    · exact ⟨by have := rise_few HLY.out.2.1; show y1.bl.length ≤ _; omega, HLY.out.2⟩
  have BD : Hid (Below w6.heap.size w6 w6.drew) := (Below.refl _ _).drew
  have HYB : Hid (∀ v, Below w6.drew.heap.size w6.drew v → Ys v.heap.size (some ⟨b, off + n * 3, none⟩) [y0, y1] v) := fun v g => by
    have g5 : Below w5.heap.size w5 v := HBB.out.trans ((BD.out.trans (g.mono BD.out.size)).mono HBB.out.size)
    have := Ys.mid (S1 := S1) (M := [y0, y1]) (S2 := S2) (HY.out v g5)
    rw [HN.out] at this
    exact this.mono g5.size
  have HMK : Hid (∀ v, Below w6.drew.heap.size w6.drew v → v.cell? ⟨b, off + n * 3 + 3, none⟩ = some (.int .i64 y1.mark)) := fun v g => by
    obtain ⟨b', o', e, -, hc⟩ := HYB.out v g (by simp)
    injection e with e
    injection e with e1 e2 _
    subst e1 e2
    obtain ⟨_, _, _, _, c0, -⟩ := hc 1 (by simp)
    exact c0
  have HYE : Hid ((⟨y1.mark, (dropY y0 y1).bl, (dropY y0 y1).dt⟩ : Ly) = dropY y0 y1) := by
    show _ = _
    rw [← dropY_mark y0 y1 HLY.out.1 HLY.out.2]
  have hmix : Try.prog.follows .mixedOrders = true := by kernel_rfl
  clear hL1 hG6 b6 x0 hS1 hw64 hc1 hc2 hc3 hc4 HCL
  rw [hc5]
  go_upto_region 6 with fail
  generalize (Value.agg #[Value.slice (some ⟨b, off, none⟩) (S1.length + (S2.length + 1 + 1)) cap]) = AG
  refine Code.wp_mono (Q := fun e a' W' => e = .normal ∧ ∃ u39 u40 u41 u42 u43 u44 u45 u46 u47 u48 u49 u8 : Value, a' = { tmps := #[AG, .int .i64 m, .pointer (some ⟨w.heap.size, 0, none⟩), undef, .pointer (some ⟨w.heap.size + 1, 0, none⟩), .bool false, .int .i64 (n : Int), .slice (some ⟨b, off + n * 3, none⟩) 2 (cap - n), u8, AG, .bool true, .bool false, .bool false, AG, .int .i64 m, .bool true, .bool false, .bool false, .bool false, .int .i64 m, AG, .int .i64 lm, .bool false, .bool false, undef, AG, .int .i64 m, .int .i64 (n : Int), .pointer (some ⟨w.heap.size, 0, none⟩), .slice (some ⟨b, off, none⟩) (n + (r + 2)) cap, .int .i64 (n : Int), .int .i64 (n : Int), .int .i64 ((n : Int) + 2), .slice (some ⟨b, off + n * 3, none⟩) 2 (cap - n), .pointer (some ⟨w.heap.size, 0, none⟩), .slice (some ⟨b, off, none⟩) (n + (r + 2)) cap, .int .i64 (n : Int), .slice (some ⟨b, off, none⟩) n cap, v1, u39, u40, u41, u42, u43, u44, u45, u46, u47, u48, u49, undef, undef, undef, undef, undef, undef, undef, undef, undef], defers := [] } ∧ R6 w5.heap.size v1 L1 y0 y1 (.slice (some ⟨b, off + n * 3, none⟩) 2 (cap - n)) (.pointer (some ⟨b, off + n * 3 + 3, none⟩)) w6.drew (fun _ => true) u39 u40 u41 u42 u43 u44 u45 u46 u47 u48 u49 u8 W') ?_ ?_
  case refine_2 =>
    refine wp_region_inv2 (I := fun d a' v => ∃ u39 u40 u41 u42 u43 u44 u45 u46 u47 u48 u49 u8 : Value, a' = { tmps := #[AG, .int .i64 m, .pointer (some ⟨w.heap.size, 0, none⟩), undef, .pointer (some ⟨w.heap.size + 1, 0, none⟩), .bool false, .int .i64 (n : Int), .slice (some ⟨b, off + n * 3, none⟩) 2 (cap - n), u8, AG, .bool true, .bool false, .bool false, AG, .int .i64 m, .bool true, .bool false, .bool false, .bool false, .int .i64 m, AG, .int .i64 lm, .bool false, .bool false, undef, AG, .int .i64 m, .int .i64 (n : Int), .pointer (some ⟨w.heap.size, 0, none⟩), .slice (some ⟨b, off, none⟩) (n + (r + 2)) cap, .int .i64 (n : Int), .int .i64 (n : Int), .int .i64 ((n : Int) + 2), .slice (some ⟨b, off + n * 3, none⟩) 2 (cap - n), .pointer (some ⟨w.heap.size, 0, none⟩), .slice (some ⟨b, off, none⟩) (n + (r + 2)) cap, .int .i64 (n : Int), .slice (some ⟨b, off, none⟩) n cap, v1, u39, u40, u41, u42, u43, u44, u45, u46, u47, u48, u49, undef, undef, undef, undef, undef, undef, undef, undef, undef], defers := [] } ∧ R6 w5.heap.size v1 L1 y0 y1 (.slice (some ⟨b, off + n * 3, none⟩) 2 (cap - n)) (.pointer (some ⟨b, off + n * 3 + 3, none⟩)) w6.drew d u39 u40 u41 u42 u43 u44 u45 u46 u47 u48 u49 u8 v) hmix (by kernel_rfl) ?h0 ?hs ?he
    case h0 =>
      refine ⟨undef, undef, undef, undef, undef, undef, undef, undef, undef, undef, undef, v1, rfl, ?_⟩
      constructor
      · exact fun _ => Below.refl _ _
      all_goals (intro e; first | (cases e; done) | rfl)
    case he =>
      rintro d a' v hall ⟨u39, u40, u41, u42, u43, u44, u45, u46, u47, u48, u49, u8, rfl, hR⟩
      have ed : ∀ k, k < 12 → d k = true := fun k hk => hall k hk
      have hf : ∀ {p : Prop}, (fun _ : Nat => true) 10 = false → p := fun e => by cases e
      refine ⟨rfl, u39, u40, u41, u42, u43, u44, u45, u46, u47, u48, u49, u8, rfl, ⟨fun e => hf e, fun _ => hR.v0 (ed 0 (by omega)), fun _ => hR.v1 (ed 1 (by omega)), fun _ => hR.v2 (ed 2 (by omega)), fun _ => hR.v3 (ed 3 (by omega)), fun _ => hR.v4 (ed 4 (by omega)), fun _ => hR.v5 (ed 5 (by omega)), fun _ => ?_, fun _ => ?_, fun _ => ?_, fun _ => ?_, fun _ => hR.v10 (ed 10 (by omega)), fun _ => hR.v11 (ed 11 (by omega)), fun e => by cases e⟩⟩
      · obtain ⟨P, h1, h2⟩ := hR.v6 (ed 6 (by omega)); exact ⟨P, h1, fun e => hf e⟩
      · obtain ⟨M, N, D, h1, h2, h3⟩ := hR.v7 (ed 7 (by omega)); exact ⟨M, N, D, h1, fun e => hf e, h3⟩
      · obtain ⟨p1, c1, p2, c2, h1, h2⟩ := hR.v8 (ed 8 (by omega)); exact ⟨p1, c1, p2, c2, h1, fun e => hf e⟩
      · obtain ⟨X, p1, c1, p2, c2, h1, h2⟩ := hR.v9 (ed 9 (by omega)); exact ⟨X, p1, c1, p2, c2, h1, fun e => hf e⟩
    case hs =>
      intro j hj d a' v hup hd hnd hI
      have hj12 : j < 12 := hj
      clear hj
      obtain (rfl | rfl | rfl | rfl | rfl | rfl | rfl | rfl | rfl | rfl | rfl | rfl) : j = 0 ∨ j = 1 ∨ j = 2 ∨ j = 3 ∨ j = 4 ∨ j = 5 ∨ j = 6 ∨ j = 7 ∨ j = 8 ∨ j = 9 ∨ j = 10 ∨ j = 11 := by omega
      · skip
        obtain ⟨u39, u40, u41, u42, u43, u44, u45, u46, u47, u48, u49, u8, rfl, hR⟩ := hI
        have hd10 : d 10 = false := Bool.eq_false_iff.2 fun e => by have := hup 12 10 e 0 (of_decide_eq_true (by kernel_rfl)); rw [hnd] at this; cases this
        have hb := hR.b hd10
        obtain rfl := hR.n11 (Bool.eq_false_iff.2 fun e => by have := hup 12 11 e 0 (of_decide_eq_true (by kernel_rfl)); rw [hnd] at this; cases this)
        refine wpOp_step rfl (fun K hK0 => ?_)
        have hK := hid hK0
        clear hK0
        rw [if_pos (by rfl)]
        go_simp
        exact hK.out _ _ ⟨_, _, _, _, _, _, _, _, _, _, _, _, rfl, { hR with v0 := fun _ => rfl }⟩
      · skip
        obtain ⟨u39, u40, u41, u42, u43, u44, u45, u46, u47, u48, u49, u8, rfl, hR⟩ := hI
        have hd10 : d 10 = false := Bool.eq_false_iff.2 fun e => by have := hup 12 10 e 1 (of_decide_eq_true (by kernel_rfl)); rw [hnd] at this; cases this
        have hb := hR.b hd10
        refine wpOp_step rfl (fun K hK0 => ?_)
        have hK := hid hK0
        clear hK0
        rw [if_pos (by rfl)]
        go_simp
        exact hK.out _ _ ⟨_, _, _, _, _, _, _, _, _, _, _, _, rfl, { hR with v1 := fun _ => rfl }⟩
      · skip
        obtain ⟨u39, u40, u41, u42, u43, u44, u45, u46, u47, u48, u49, u8, rfl, hR⟩ := hI
        have hd10 : d 10 = false := Bool.eq_false_iff.2 fun e => by have := hup 12 10 e 2 (of_decide_eq_true (by kernel_rfl)); rw [hnd] at this; cases this
        have hb := hR.b hd10
        obtain rfl := hR.v1 (hd 1 (of_decide_eq_true (by kernel_rfl)))
        refine wpOp_step rfl (fun K hK0 => ?_)
        have hK := hid hK0
        clear hK0
        rw [if_pos (by rfl)]
        go_simp
        exact hK.out _ _ ⟨_, _, _, _, _, _, _, _, _, _, _, _, rfl, { hR with v2 := fun _ => rfl }⟩
      · skip
        obtain ⟨u39, u40, u41, u42, u43, u44, u45, u46, u47, u48, u49, u8, rfl, hR⟩ := hI
        have hd10 : d 10 = false := Bool.eq_false_iff.2 fun e => by have := hup 12 10 e 3 (of_decide_eq_true (by kernel_rfl)); rw [hnd] at this; cases this
        have hb := hR.b hd10
        obtain rfl := hR.v2 (hd 2 (of_decide_eq_true (by kernel_rfl)))
        refine wpOp_step rfl (fun K hK0 => ?_)
        have hK := hid hK0
        clear hK0
        rw [if_pos (by rfl)]
        go_simp
        exact hK.out _ _ ⟨_, _, _, _, _, _, _, _, _, _, _, _, rfl, { hR with v3 := fun _ => rfl }⟩
      · skip
        obtain ⟨u39, u40, u41, u42, u43, u44, u45, u46, u47, u48, u49, u8, rfl, hR⟩ := hI
        have hd10 : d 10 = false := Bool.eq_false_iff.2 fun e => by have := hup 12 10 e 4 (of_decide_eq_true (by kernel_rfl)); rw [hnd] at this; cases this
        have hb := hR.b hd10
        obtain rfl := hR.v3 (hd 3 (of_decide_eq_true (by kernel_rfl)))
        have y0c := HMK.out _ hb
        refine wpOp_step rfl (fun K hK0 => ?_)
        have hK := hid hK0
        clear hK0
        rw [if_pos (by rfl)]
        go_simp
        exact hK.out _ _ ⟨_, _, _, _, _, _, _, _, _, _, _, _, rfl, { hR with v4 := fun _ => rfl }⟩
      · skip
        obtain ⟨u39, u40, u41, u42, u43, u44, u45, u46, u47, u48, u49, u8, rfl, hR⟩ := hI
        have hd10 : d 10 = false := Bool.eq_false_iff.2 fun e => by have := hup 12 10 e 5 (of_decide_eq_true (by kernel_rfl)); rw [hnd] at this; cases this
        have hb := hR.b hd10
        refine wpOp_step rfl (fun K hK0 => ?_)
        have hK := hid hK0
        clear hK0
        rw [if_pos (by rfl)]
        go_simp
        exact hK.out _ _ ⟨_, _, _, _, _, _, _, _, _, _, _, _, rfl, { hR with v5 := fun _ => rfl }⟩
      · skip
        obtain ⟨u39, u40, u41, u42, u43, u44, u45, u46, u47, u48, u49, u8, rfl, hR⟩ := hI
        have hd10 : d 10 = false := Bool.eq_false_iff.2 fun e => by have := hup 12 10 e 6 (of_decide_eq_true (by kernel_rfl)); rw [hnd] at this; cases this
        have hb := hR.b hd10
        obtain rfl := hR.v5 (hd 5 (of_decide_eq_true (by kernel_rfl)))
        have HC := values_any (some ⟨b, off + n * 3, none⟩) (cap - n) 2 v
        refine wpOp_step rfl (fun K hK0 => ?_)
        have hK := hid hK0
        clear hK0
        rw [if_pos (by rfl)]
        go_simp
        go_wp2_with (go_at_call 39; refine HC.mono ?_; rintro e v2 ⟨rfl, hv2⟩)
        have g1 := boxB v (.cells #[.slice (some ⟨b, off + n * 3, none⟩) 2 (cap - n)] 29)
        have k1 := heap_last v (.cells #[.slice (some ⟨b, off + n * 3, none⟩) 2 (cap - n)] 29)
        have hR2 := hR.grow hd10 g1
        exact hK.out _ _ ⟨_, _, _, _, _, _, _, _, _, _, _, _, rfl, { hR2 with v6 := fun _ => ⟨v.heap.size, rfl, fun _ => k1⟩ }⟩
      · skip
        obtain ⟨u39, u40, u41, u42, u43, u44, u45, u46, u47, u48, u49, u8, rfl, hR⟩ := hI
        have hd10 : d 10 = false := Bool.eq_false_iff.2 fun e => by have := hup 12 10 e 7 (of_decide_eq_true (by kernel_rfl)); rw [hnd] at this; cases this
        have hb := hR.b hd10
        obtain ⟨P, rfl, hP⟩ := hR.v6 (hd 6 (of_decide_eq_true (by kernel_rfl)))
        have HC := overVK_any P (some ⟨b, off + n * 3, none⟩) (cap - n) [y0, y1] v (by simp) (by simp) HLY2.out (kboxS (hP hd10)) (box_cell (hP hd10) 0) (HYB.out _ hb)
        refine wpOp_step rfl (fun K hK0 => ?_)
        have hK := hid hK0
        clear hK0
        rw [if_pos (by rfl)]
        go_simp
        go_wp2_with (go_at_call 24; refine HC.mono ?_; rintro e v2 ⟨rfl, ⟨D, N, h1, h2, h3⟩, g2⟩)
        have hR2 := hR.grow hd10 g2
        exact hK.out _ _ ⟨_, _, _, _, _, _, _, _, _, _, _, _, rfl, { hR2 with v7 := fun _ => ⟨v.heap.size, N, D, rfl, fun _ => h1, h3⟩ }⟩
      · skip
        obtain ⟨u39, u40, u41, u42, u43, u44, u45, u46, u47, u48, u49, u8, rfl, hR⟩ := hI
        have hd10 : d 10 = false := Bool.eq_false_iff.2 fun e => by have := hup 12 10 e 8 (of_decide_eq_true (by kernel_rfl)); rw [hnd] at this; cases this
        have hb := hR.b hd10
        obtain rfl := hR.v4 (hd 4 (of_decide_eq_true (by kernel_rfl)))
        obtain ⟨M, N, D, rfl, hM, hT⟩ := hR.v7 (hd 7 (of_decide_eq_true (by kernel_rfl)))
        have HC := layer_two HLY.out.1 HLY.out.2 M N D v (hM hd10) hT
        refine wpOp_step rfl (fun K hK0 => ?_)
        have hK := hid hK0
        clear hK0
        rw [if_pos (by rfl)]
        go_simp
        go_wp2_with (go_at_call 38; refine HC.mono ?_; rintro e v2 ⟨p1, c1, p2, c2, rfl, h1, g2⟩)
        have hR2 := hR.grow hd10 g2
        exact hK.out _ _ ⟨_, _, _, _, _, _, _, _, _, _, _, _, rfl, { hR2 with v8 := fun _ => ⟨p1, c1, p2, c2, rfl, fun _ => h1.low hb.size⟩ }⟩
      · skip
        obtain ⟨u39, u40, u41, u42, u43, u44, u45, u46, u47, u48, u49, u8, rfl, hR⟩ := hI
        have hd10 : d 10 = false := Bool.eq_false_iff.2 fun e => by have := hup 12 10 e 9 (of_decide_eq_true (by kernel_rfl)); rw [hnd] at this; cases this
        have hb := hR.b hd10
        obtain ⟨p1, c1, p2, c2, rfl, h8⟩ := hR.v8 (hd 8 (of_decide_eq_true (by kernel_rfl)))
        refine wpOp_step rfl (fun K hK0 => ?_)
        have hK := hid hK0
        clear hK0
        rw [if_pos (by rfl)]
        go_simp
        have g2 := boxB v (.cells #[.int .i64 y1.mark, .slice p1 (dropY y0 y1).bl.length c1, .slice p2 (dropY y0 y1).dt.length c2] 64)
        have k2 := heap_last v (.cells #[.int .i64 y1.mark, .slice p1 (dropY y0 y1).bl.length c1, .slice p2 (dropY y0 y1).dt.length c2] 64)
        have hR2 := hR.grow hd10 g2
        exact hK.out _ _ ⟨_, _, _, _, _, _, _, _, _, _, _, _, rfl, { hR2 with v9 := fun _ => ⟨v.heap.size, p1, c1, p2, c2, rfl, fun _ => ⟨k2, (h8 hd10).on g2 (Nat.le_refl _)⟩⟩ }⟩
      · skip
        obtain ⟨u39, u40, u41, u42, u43, u44, u45, u46, u47, u48, u49, u8, rfl, hR⟩ := hI
        have hb := hR.b hnd
        obtain rfl := hR.v0 (hd 0 (of_decide_eq_true (by kernel_rfl)))
        obtain ⟨X, p1, c1, p2, c2, rfl, h9⟩ := hR.v9 (hd 9 (of_decide_eq_true (by kernel_rfl)))
        obtain ⟨v', v3, z, rn, G3, gr3, b3⟩ := HG6.out.growZ HLO.out hb X 1 y1.mark p1 p2 (dropY y0 y1).bl (dropY y0 y1).dt c1 c2 (h9 hnd).1 (h9 hnd).2 (by have := HL1.out; omega)
        rw [HYE.out] at G3
        refine wpOp_step rfl (fun K hK0 => ?_)
        have hK := hid hK0
        clear hK0
        rw [if_pos (by rfl)]
        refine wp_append_op (.tmp 39) (.tmp 48) 29 rfl _ _ rfl rfl _ _ rn ?_
        exact hK.out _ _ ⟨_, _, _, _, _, _, _, _, _, _, _, _, rfl, { hR with b := fun e => (by cases e), v6 := (fun e => by obtain ⟨P, q1, _⟩ := hR.v6 e; exact ⟨P, q1, fun e => by cases e⟩), v7 := (fun e => by obtain ⟨M, N, D, q1, _, q3⟩ := hR.v7 e; exact ⟨M, N, D, q1, (fun e => by cases e), q3⟩), v8 := (fun e => by obtain ⟨p1, c1, p2, c2, q1, _⟩ := hR.v8 e; exact ⟨p1, c1, p2, c2, q1, fun e => by cases e⟩), v9 := (fun e => ⟨X, p1, c1, p2, c2, rfl, fun e => by cases e⟩), v10 := (fun _ => ⟨⟨z, G3⟩, (hb.mono HLO.out).trans b3, Nat.le_trans hb.size gr3.size⟩), v11 := fun e => by have := hup 12 11 e 10 (of_decide_eq_true (by kernel_rfl)); rw [hnd] at this; cases this }⟩
      · skip
        obtain ⟨u39, u40, u41, u42, u43, u44, u45, u46, u47, u48, u49, u8, rfl, hR⟩ := hI
        refine wpOp_step rfl (fun K hK0 => ?_)
        have hK := hid hK0
        clear hK0
        rw [if_pos (by rfl)]
        go_simp
        exact hK.out _ _ ⟨_, _, _, _, _, _, _, _, _, _, _, _, rfl, { hR with v11 := fun _ => rfl, n11 := (fun e => by cases e) }⟩
  rintro e a7 w7 ⟨rfl, u39, u40, u41, u42, u43, u44, u45, u46, u47, u48, u49, u8, rfl, hR⟩
  obtain rfl := hR.v11 rfl
  obtain rfl := hR.v0 rfl
  obtain rfl := hR.v1 rfl
  obtain rfl := hR.v2 rfl
  obtain rfl := hR.v3 rfl
  obtain rfl := hR.v4 rfl
  obtain rfl := hR.v5 rfl
  obtain ⟨P, rfl, -⟩ := hR.v6 rfl
  obtain ⟨M, N, D, rfl, -, -⟩ := hR.v7 rfl
  obtain ⟨p1, c1, p2, c2, rfl, -⟩ := hR.v8 rfl
  obtain ⟨X, -, -, -, -, rfl, -⟩ := hR.v9 rfl
  obtain ⟨⟨z, hG7⟩, hb7, hs7⟩ := hR.v10 rfl
  have hl5 := HB5.out.size
  have g67 : Below w5.heap.size w6 w7 := (BD.out.mono HBB.out.size).trans hb7
  have HB7 : Hid (B2 w (.slice (some ⟨b, off, none⟩) (S1 ++ y0 :: y1 :: S2).length cap) w7) := ⟨HB6.out.below.trans (g67.mono (by omega)), (g67.block _ (by omega)).trans HB6.out.x, (g67.block _ (by omega)).trans HB6.out.z⟩
  have HG7 := hid hG7
  have HB57 : Hid (Below w5.heap.size w5 w7) := HBB.out.trans g67
  obtain ⟨x0, z0, f0⟩ := HB7.out.cells
  rw [HL.out, HN.out, HR.out] at x0
  have HL2 : Hid ((L1 ++ [(dropY y0 y1, z)]).length = n + 1) := by show (L1 ++ [(dropY y0 y1, z)]).length = _; rw [List.length_append, HL1.out]; rfl
  have HLM2 : Hid ((L1 ++ [(dropY y0 y1, z)]).map (·.1) = S1 ++ [dropY y0 y1]) := by show (L1 ++ [(dropY y0 y1, z)]).map (·.1) = _; rw [List.map_append, HLM.out]; rfl
  generalize L1 ++ [(dropY y0 y1, z)] = L7 at *
  clear hR hG7 hb7 hs7 g67 z0 f0 HMK HYB HYE HLY2 HG6 HLO HB6 HBB BD HLM HL1
  have hw64 : wrap64 ((n : Int) + 2) = ((n + 2 : Nat) : Int) := by unfold wrap64; omega
  have hd1 : n + 2 ≤ n + (r + 2) := by omega
  have hd2 : n + (r + 2) ≤ cap := by omega
  have hd3 : n + (r + 2) - (n + 2) = r := by omega
  have HGN := hid (good_small HGK.out)
  by_cases hc : cap = n + 2
  · have hr0 : r = 0 := by omega
    have HCC : Hid (Calls Try.prog 37 #[.slice (some ⟨b, off, none⟩) r 0] w7 fun e w' => CpK S2 w7 e w') := by
      show Calls Try.prog 37 #[.slice (some ⟨b, off, none⟩) r 0] w7 fun e w' => CpK S2 w7 e w'
      rw [hr0]
      obtain rfl : S2 = [] := List.eq_nil_of_length_eq_zero (by rw [HR.out, hr0])
      exact copyLayers_any (some ⟨b, off, none⟩) 0 [] w7 (SmallK.mid (S1 := S1 ++ [y0, y1]) (M := []) (S2 := []) (by simpa using HGN.out)) (fun h => absurd h (by simp))
    clear hr0
    go_wp2_with fail
    refine HCC.out.mono ?_
    rintro e w8 ⟨v2, L2, rfl, hL2, hG2, b8⟩
    have hl2 : L2.length = r := by rw [← HR.out, ← hL2]; simp
    have hlt : L7.length + L2.length ≤ 10000 := by have := HL2.out; omega
    obtain ⟨v9, w9, rn, G9, b9, gr9⟩ := HG7.out.join HB57.out.size b8 hG2 hlt
    obtain ⟨p, c, rfl, hO9, hc9⟩ := G9.own
    have hlen9 : (L7 ++ L2).length = n + 1 + r := by rw [List.length_append, HL2.out, hl2]
    have hmap9 : (L7 ++ L2).map (·.1) = S1 ++ dropY y0 y1 :: S2 := by rw [List.map_append, HLM2.out, hL2]; simp
    rw [hlen9] at rn hc9
    rw [hmap9] at hO9
    have h57 := HB57.out.size
    have h78 := b8.size
    have h89 := b9.size
    have HB8 := HB7.out.on b8
    have HB9 : Hid (B2 w (.slice (some ⟨b, off, none⟩) (S1 ++ y0 :: y1 :: S2).length cap) w9) := ⟨HB8.below.trans (b9.mono (by omega)), (b9.block _ (by omega)).trans HB8.x, (b9.block _ (by omega)).trans HB8.z⟩
    obtain ⟨-, z9, f9⟩ := HB9.out.cells
    have e9 : (w9.setCell ⟨w.heap.size + 1, 0, none⟩ (.slice p (n + 1 + r) c)).cell? ⟨w.heap.size + 1, 0, none⟩ = some (.slice p (n + 1 + r) c) := World.cell?_setCell_same _ _ _ z9
    have HE : Hid (MOut o w (.returned (.tuple #[.agg #[.slice p (n + 1 + r) c], .bool true])) (w9.setCell ⟨w.heap.size + 1, 0, none⟩ (.slice p (n + 1 + r) c))) := by
      show MOut o w _ _
      rw [← HO.out, drpO_yes HD.out, drpK_yes HD.out HK1.out.symm]
      have hl : (S1 ++ dropY y0 y1 :: S2).length = n + 1 + r := by simp [HN.out, HR.out]; omega
      have hz : (w9.setCell ⟨w.heap.size + 1, 0, none⟩ (.slice p (n + 1 + r) c)).heap.size = w9.heap.size := by simp [World.setCell]
      refine ⟨p, c, by rw [hl], ?_, setB HB9.out.below (w.heap.size + 1) 0 (by omega) _, by rw [hl]; exact hc9⟩
      exact ((hO9.set (w.heap.size + 1) 0 (.slice p (n + 1 + r) c) (Or.inl (by omega))).low (by omega)).high (by omega) (Nat.le_refl _)
    clear hG2 hL2 b8 G9 b9 gr9 hO9 hc9 hmap9 hlen9 hlt hl2 HB8 HB9 HCC x0
    go_wp2_with (at_builtin; refine wpList_append_run rfl (.tmp 50) (.tmp 56) 29 rfl _ _ rfl rfl _ _ rn ?_)
    generalize w9.setCell ⟨w.heap.size + 1, 0, none⟩ (.slice p (n + 1 + r) c) = XX at *
    exact bodyPost_ret (v := .tuple #[.agg #[.slice p (n + 1 + r) c], .bool true]) (by simp [results, Try.results15, go_sem, e9]) rfl HE.out
  · have HCC : Hid (Calls Try.prog 37 #[.slice (some ⟨b, off + (n + 2) * 3, none⟩) r (cap - (n + 2))] w7 fun e w' => CpK S2 w7 e w') := by
      have h1 := Ys.mid (S1 := S1 ++ [y0, y1]) (M := S2) (S2 := []) (by simpa using HY.out w7 HB57.out)
      have hl : (S1 ++ [y0, y1]).length = n + 2 := by rw [List.length_append, HN.out]; rfl
      rw [hl] at h1
      have := copyLayers_any (some ⟨b, off + (n + 2) * 3, none⟩) (cap - (n + 2)) S2 w7 (SmallK.mid (S1 := S1 ++ [y0, y1]) (M := S2) (S2 := []) (by simpa using HGN.out)) (h1.mono HB57.out.size)
      rw [HR.out] at this
      exact this
    go_wp2_with fail
    refine HCC.out.mono ?_
    rintro e w8 ⟨v2, L2, rfl, hL2, hG2, b8⟩
    have hl2 : L2.length = r := by rw [← HR.out, ← hL2]; simp
    have hlt : L7.length + L2.length ≤ 10000 := by have := HL2.out; omega
    obtain ⟨v9, w9, rn, G9, b9, gr9⟩ := HG7.out.join HB57.out.size b8 hG2 hlt
    obtain ⟨p, c, rfl, hO9, hc9⟩ := G9.own
    have hlen9 : (L7 ++ L2).length = n + 1 + r := by rw [List.length_append, HL2.out, hl2]
    have hmap9 : (L7 ++ L2).map (·.1) = S1 ++ dropY y0 y1 :: S2 := by rw [List.map_append, HLM2.out, hL2]; simp
    rw [hlen9] at rn hc9
    rw [hmap9] at hO9
    have h57 := HB57.out.size
    have h78 := b8.size
    have h89 := b9.size
    have HB8 := HB7.out.on b8
    have HB9 : Hid (B2 w (.slice (some ⟨b, off, none⟩) (S1 ++ y0 :: y1 :: S2).length cap) w9) := ⟨HB8.below.trans (b9.mono (by omega)), (b9.block _ (by omega)).trans HB8.x, (b9.block _ (by omega)).trans HB8.z⟩
    obtain ⟨-, z9, f9⟩ := HB9.out.cells
    have e9 : (w9.setCell ⟨w.heap.size + 1, 0, none⟩ (.slice p (n + 1 + r) c)).cell? ⟨w.heap.size + 1, 0, none⟩ = some (.slice p (n + 1 + r) c) := World.cell?_setCell_same _ _ _ z9
    have HE : Hid (MOut o w (.returned (.tuple #[.agg #[.slice p (n + 1 + r) c], .bool true])) (w9.setCell ⟨w.heap.size + 1, 0, none⟩ (.slice p (n + 1 + r) c))) := by
      show MOut o w _ _
      rw [← HO.out, drpO_yes HD.out, drpK_yes HD.out HK1.out.symm]
      have hl : (S1 ++ dropY y0 y1 :: S2).length = n + 1 + r := by simp [HN.out, HR.out]; omega
      have hz : (w9.setCell ⟨w.heap.size + 1, 0, none⟩ (.slice p (n + 1 + r) c)).heap.size = w9.heap.size := by simp [World.setCell]
      refine ⟨p, c, by rw [hl], ?_, setB HB9.out.below (w.heap.size + 1) 0 (by omega) _, by rw [hl]; exact hc9⟩
      exact ((hO9.set (w.heap.size + 1) 0 (.slice p (n + 1 + r) c) (Or.inl (by omega))).low (by omega)).high (by omega) (Nat.le_refl _)
    clear hG2 hL2 b8 G9 b9 gr9 hO9 hc9 hmap9 hlen9 hlt hl2 HB8 HB9 HCC x0
    go_wp2_with (at_builtin; refine wpList_append_run rfl (.tmp 50) (.tmp 56) 29 rfl _ _ rfl rfl _ _ rn ?_)
    generalize w9.setCell ⟨w.heap.size + 1, 0, none⟩ (.slice p (n + 1 + r) c) = XX at *
    exact bodyPost_ret (v := .tuple #[.agg #[.slice p (n + 1 + r) c], .bool true]) (by simp [results, Try.results15, go_sem, e9]) rfl HE.out
end Go.Proofs.Ytmbkdollakbigaa
