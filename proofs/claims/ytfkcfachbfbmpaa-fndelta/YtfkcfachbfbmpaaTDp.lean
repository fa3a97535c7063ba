/- Deltas found, in plain lists. -/
import Derived.Test.YtfkcfachbfbmpaaTPl
import Derived.Test.YtfkcfachbfbmpaaTPm
namespace Go.Proofs.Ytfkcfachbfbmpaa
set_option maxRecDepth 100000
open Go Go.RowKit
/-- how many first ones two lists have alike -/
def alkL : List UInt8 → List UInt8 → Nat
  | x :: a, y :: b => if x = y then alkL a b + 1 else 0
  | _, _ => 0
theorem alkL_is (a b : List UInt8) (n : Nat) (h1 : n ≤ a.length) (h2 : n ≤ b.length) (h3 : ∀ j, j < n → a[j]? = b[j]?) (h4 : n = a.length ∨ n = b.length ∨ a[n]? ≠ b[n]?) : alkL a b = n := by
  induction a generalizing b n with
  | nil =>
    have : n = 0 := by simpa using h1
    subst this
    cases b <;> rfl
  | cons x a ih =>
    cases b with
    | nil =>
      have : n = 0 := by simpa using h2
      subst this
      rfl
    | cons y b =>
      cases n with
      | zero =>
        have : x ≠ y := by
          intro e
          subst e
          rcases h4 with h | h | h
          · simp at h
          · simp at h
          · simp at h
        simp [alkL, this]
      | succ n =>
        have e0 := h3 0 (by omega)
        simp at e0
        subst e0
        have := ih b n (by simpa using h1) (by simpa using h2) (fun j hj => by have := h3 (j + 1) (by omega); simpa using this) (by simpa using h4)
        simp [alkL, this]
/-- the sign of two texts that are alike, as the walk has it -/
def eqT (a b : ByteArray) : Bool := a.toList == b.toList
theorem eqT_iff (a b : ByteArray) : eqT a b = true ↔ a = b := by
  unfold eqT
  rw [beq_iff_eq, ByteArray.toList_eq, ByteArray.toList_eq]
  constructor
  · intro h
    apply ByteArray.ext
    exact Array.toList_inj.1 h
  · intro h
    rw [h]
/-- the block k of a text -/
def blk (s : ByteArray) (k : Nat) : ByteArray := s.extract (4 * k) (4 * k + 4)
/-- the first block that is a text; as many as there are, where there is none -/
def findB (old E : ByteArray) : Nat := (List.range (old.size / 4)).findIdx fun k => eqT (blk old k) E
theorem findB_le (old E : ByteArray) : findB old E ≤ old.size / 4 := by
  have := List.findIdx_le_length (p := fun k => eqT (blk old k) E) (xs := List.range (old.size / 4))
  simpa [findB] using this
theorem findB_is (old E : ByteArray) (k : Nat) (hk : k < old.size / 4) (h1 : eqT (blk old k) E = true) (h2 : ∀ j, j < k → eqT (blk old j) E = false) : findB old E = k := by
  unfold findB
  rw [List.findIdx_eq (by simpa using hk)]
  refine ⟨by simpa using h1, fun j hj => by simpa using h2 j hj⟩
theorem findB_none (old E : ByteArray) (h : ∀ j, j < old.size / 4 → eqT (blk old j) E = false) : findB old E = old.size / 4 := by
  have := (List.findIdx_eq_length (p := fun k => eqT (blk old k) E) (xs := List.range (old.size / 4))).2 (fun x hx => by
    have := h x (by simpa using hx)
    simpa using this)
  simpa [findB] using this
theorem findB_hit (old E : ByteArray) (h : findB old E < old.size / 4) : eqT (blk old (findB old E)) E = true := by
  have := List.findIdx_getElem (p := fun k => eqT (blk old k) E) (xs := List.range (old.size / 4)) (w := by simpa [findB] using h)
  simpa [findB] using this
/-- a part that is a text, where there is some -/
def txtP (s : ByteArray) (i j : Nat) : List Pt := if i < j then [⟨0, 0, s.extract i j⟩] else []
/-- how far old and s go on alike from p and q on -/
def alk (old : ByteArray) (p : Nat) (s : ByteArray) (q : Nat) : Nat := alkL (old.data.toList.drop p) (s.data.toList.drop q)
/-- the delta, from place i on; acc: what is found, told: how far it goes -/
def dlt (old s : ByteArray) (acc : List Pt) (told i : Nat) : List Pt :=
  if h : i + 4 ≤ s.size then
    if findB old (s.extract i (i + 4)) < old.size / 4 then
      dlt old s (acc ++ txtP s told i ++ [⟨((4 * findB old (s.extract i (i + 4)) : Nat) : Int), ((alk old (4 * findB old (s.extract i (i + 4))) s i : Nat) : Int), ByteArray.empty⟩])
        (i + max 1 (alk old (4 * findB old (s.extract i (i + 4))) s i)) (i + max 1 (alk old (4 * findB old (s.extract i (i + 4))) s i))
    else dlt old s acc told (i + 1)
  else acc ++ txtP s told s.size
termination_by s.size - i
theorem dlt_end {old s : ByteArray} {acc : List Pt} {told i : Nat} (h : ¬ i + 4 ≤ s.size) : dlt old s acc told i = acc ++ txtP s told s.size := by
  rw [dlt, dif_neg h]
theorem dlt_miss {old s : ByteArray} {acc : List Pt} {told i : Nat} (h : i + 4 ≤ s.size) (g : findB old (s.extract i (i + 4)) = old.size / 4) : dlt old s acc told i = dlt old s acc told (i + 1) := by
  rw [dlt, dif_pos h, if_neg (by omega)]
theorem dlt_hit {old s : ByteArray} {acc : List Pt} {told i k n : Nat} (h : i + 4 ≤ s.size) (hk : k < old.size / 4) (g : findB old (s.extract i (i + 4)) = k) (hn : alk old (4 * k) s i = n) (h4 : 1 ≤ n) :
    dlt old s acc told i = dlt old s (acc ++ txtP s told i ++ [⟨((4 * k : Nat) : Int), (n : Int), ByteArray.empty⟩]) (i + n) (i + n) := by
  subst g hn
  rw [dlt, dif_pos h, if_pos hk, Nat.max_eq_right h4]
theorem txtP_len (s : ByteArray) (i j : Nat) : (txtP s i j).length ≤ 1 := by unfold txtP; split <;> simp
theorem get_opt (s : ByteArray) (j : Nat) (h : j < s.size) : s.data.toList[j]? = some s[j] := by
  rw [List.getElem?_eq_getElem (by rw [bytes_size]; exact h)]
  rfl
/-- the count that a walk along both texts comes to -/
theorem alk_is {old s : ByteArray} {p q n : Nat} (h1 : p + n ≤ old.size) (h2 : q + n ≤ s.size) (h3 : ∀ j (a : p + j < old.size) (b : q + j < s.size), j < n → old[p + j] = s[q + j])
    (h4 : p + n = old.size ∨ q + n = s.size ∨ ∃ (a : p + n < old.size) (b : q + n < s.size), old[p + n] ≠ s[q + n]) : alk old p s q = n := by
  unfold alk
  apply alkL_is
  · rw [List.length_drop, bytes_size]; omega
  · rw [List.length_drop, bytes_size]; omega
  · intro j hj
    rw [List.getElem?_drop, List.getElem?_drop, get_opt old _ (by omega), get_opt s _ (by omega), h3 j (by omega) (by omega) hj]
  · rw [List.length_drop, List.length_drop, bytes_size, bytes_size, List.getElem?_drop, List.getElem?_drop]
    rcases h4 with h | h | ⟨a, b, h⟩
    · exact Or.inl (by omega)
    · exact Or.inr (Or.inl (by omega))
    · refine Or.inr (Or.inr ?_)
      rw [get_opt old _ a, get_opt s _ b]
      simpa using h
/-- what is within an extract -/
theorem ext_at (s : ByteArray) (i j k : Nat) (hj : j ≤ s.size) (hk : i + k < j) (h : k < (s.extract i j).size) : (s.extract i j)[k] = s[i + k]'(by omega) := by
  have a := get_opt (s.extract i j) k h
  rw [ext_list, List.getElem?_take_of_lt (by omega), List.getElem?_drop, get_opt s _ (by omega)] at a
  exact (Option.some.inj a).symm
theorem blk_eq {old s : ByteArray} {k i : Nat} (hk : 4 * k + 4 ≤ old.size) (hi : i + 4 ≤ s.size) (h : eqT (blk old k) (s.extract i (i + 4)) = true) (j : Nat) (hj : j < 4) : old[4 * k + j]'(by omega) = s[i + j]'(by omega) := by
  have e := (eqT_iff _ _).1 h
  have a := ext_at old (4 * k) (4 * k + 4) j hk (by omega) (by rw [ext_size _ _ _ (by omega) hk]; omega)
  have b := ext_at s i (i + 4) j hi (by omega) (by rw [ext_size _ _ _ (by omega) hi]; omega)
  rw [← a, ← b]
  unfold blk at e
  simp only [e]
theorem dlt_len (old s : ByteArray) : ∀ (n : Nat) (acc : List Pt) (told i : Nat), s.size - i ≤ n → (dlt old s acc told i).length ≤ acc.length + 2 * n + 1
  | n, acc, told, i, hn => by
    by_cases h : i + 4 ≤ s.size
    · cases n with
      | zero => omega
      | succ n =>
        by_cases g : findB old (s.extract i (i + 4)) < old.size / 4
        · rw [dlt, dif_pos h, if_pos g]
          refine Nat.le_trans (dlt_len old s n _ _ _ (by omega)) ?_
          have := txtP_len s told i
          simp only [List.length_append, List.length_cons, List.length_nil]
          omega
        · rw [dlt, dif_pos h, if_neg g]
          refine Nat.le_trans (dlt_len old s n _ _ _ (by omega)) ?_
          omega
    · rw [dlt_end h, List.length_append]
      have := txtP_len s told s.size
      omega
end Go.Proofs.Ytfkcfachbfbmpaa
