/- What a delta that was found makes, and how long it is. -/
import Derived.Test.YtfkcfachbfbmpaaTDd
import Derived.Test.YtfkcfachbfbmpaaTAp
import Derived.Test.YtfkcfachbfbmpaaTCo
import Derived.Test.YtfkcfachbfbmpaaTTh
namespace Go.Proofs.Ytfkcfachbfbmpaa
set_option maxRecDepth 100000
open Go Go.RowKit
theorem alkL_le (a b : List UInt8) : alkL a b ≤ a.length ∧ alkL a b ≤ b.length := by
  induction a generalizing b with
  | nil => cases b <;> simp [alkL]
  | cons x a ih =>
    cases b with
    | nil => simp [alkL]
    | cons y b =>
      have := ih b
      simp only [alkL]
      split <;> simp <;> omega
theorem alkL_take (a b : List UInt8) : a.take (alkL a b) = b.take (alkL a b) := by
  induction a generalizing b with
  | nil => cases b <;> simp [alkL]
  | cons x a ih =>
    cases b with
    | nil => simp [alkL]
    | cons y b =>
      simp only [alkL]
      split
      · rename_i e
        subst e
        simp [ih b]
      · simp
theorem alkL_self (a : List UInt8) : alkL a a = a.length := by
  induction a with
  | nil => rfl
  | cons x a ih => simp [alkL, ih]
theorem alk_le (old : ByteArray) (p : Nat) (s : ByteArray) (i : Nat) (hp : p ≤ old.size) (hi : i ≤ s.size) : p + alk old p s i ≤ old.size ∧ i + alk old p s i ≤ s.size := by
  have := alkL_le (old.data.toList.drop p) (s.data.toList.drop i)
  rw [List.length_drop, List.length_drop, bytes_size, bytes_size] at this
  unfold alk
  omega
theorem ba_list {a b : ByteArray} (h : a.data.toList = b.data.toList) : a = b := by
  apply ByteArray.ext
  exact Array.toList_inj.1 h
theorem alk_ext (old : ByteArray) (p : Nat) (s : ByteArray) (i : Nat) : old.extract p (p + alk old p s i) = s.extract i (i + alk old p s i) := by
  apply ba_list
  rw [ext_list, ext_list, Nat.add_sub_cancel_left, Nat.add_sub_cancel_left]
  exact alkL_take _ _
/-- what is found so far -/
structure Sofar (old s : ByteArray) (acc : List Pt) (told : Nat) : Prop where
  ok : ∀ p ∈ acc, partOk old.size p = true
  ap : applyL old acc = s.extract 0 told
  co : costD acc ≤ 2 * told
  ln : 5 * acc.length ≤ 2 * told
theorem costD_app (l m : List Pt) : costD (l ++ m) = costD l + costD m := by
  induction l with
  | nil => simp [costD]
  | cons q l ih => simp only [List.cons_append, costD, ih]; omega
theorem applyL_app (s : ByteArray) (l m : List Pt) : applyL s (l ++ m) = applyL s l ++ applyL s m := by
  induction l with
  | nil => simp [applyL]
  | cons q l ih => simp only [List.cons_append, applyL, ih, ByteArray.append_assoc]
/-- a text behind -/
theorem Sofar.txt {old s : ByteArray} {acc : List Pt} {told i : Nat} (h : Sofar old s acc told) (h1 : told ≤ i) (h2 : i ≤ s.size) (hs : s.size ≤ 120) :
    (∀ p ∈ acc ++ txtP s told i, partOk old.size p = true) ∧ applyL old (acc ++ txtP s told i) = s.extract 0 i ∧ costD (acc ++ txtP s told i) ≤ 2 * i ∧ 5 * (acc ++ txtP s told i).length ≤ 2 * i + 3 := by
  have ho := h.co
  have hl := h.ln
  by_cases ht : told < i
  · have hz := ext_size s told i h1 h2
    rw [txtP_some ht]
    refine ⟨fun p hp => ?_, ?_, ?_, ?_⟩
    · rcases List.mem_append.1 hp with hp | hp
      · exact h.ok p hp
      · obtain rfl := List.mem_singleton.1 hp
        rw [partOk_text _ _ _ (by omega)]
        exact decide_eq_true ⟨rfl, rfl, by omega⟩
    · rw [applyL_snoc, h.ap]
      unfold pieceP
      simp only
      rw [if_neg (by omega)]
      exact ext_app s 0 told i (Nat.zero_le _) h1
    · rw [costD_snoc]
      unfold costP
      simp only
      rw [if_neg (by omega)]
      omega
    · rw [List.length_append]
      simp only [List.length_cons, List.length_nil]
      omega
  · rw [txtP_none ht, List.append_nil]
    have e : told = i := by omega
    subst e
    exact ⟨h.ok, h.ap, ho, by omega⟩
/-- a part of the old text behind -/
theorem Sofar.hit {old s : ByteArray} {acc : List Pt} {told i k : Nat} (h : Sofar old s acc told) (h1 : told ≤ i) (h2 : i + 4 ≤ s.size) (hs : s.size ≤ 120) (hk : k < old.size / 4) (hf : eqT (blk old k) (s.extract i (i + 4)) = true) :
    4 ≤ alk old (4 * k) s i ∧ i + alk old (4 * k) s i ≤ s.size ∧ Sofar old s (acc ++ txtP s told i ++ [⟨((4 * k : Nat) : Int), ((alk old (4 * k) s i : Nat) : Int), ByteArray.empty⟩]) (i + alk old (4 * k) s i) := by
  obtain ⟨h4, h5⟩ := alk_four (by omega) h2 hf
  have h6 := (alk_le old (4 * k) s i (by omega) (by omega)).1
  obtain ⟨t1, t2, t3, t4⟩ := h.txt h1 (by omega) hs
  have hx := alk_ext old (4 * k) s i
  generalize alk old (4 * k) s i = n at *
  refine ⟨h4, h5, fun p hp => ?_, ?_, ?_, ?_⟩
  · rcases List.mem_append.1 hp with hp | hp
    · exact t1 p hp
    · obtain rfl := List.mem_singleton.1 hp
      rw [partOk_copy]
      exact decide_eq_true (by omega)
  · rw [applyL_snoc, t2]
    unfold pieceP
    simp only
    rw [if_pos (show ByteArray.empty.size = 0 from rfl), Int.toNat_natCast, Int.toNat_natCast, hx]
    exact ext_app s 0 i (i + n) (Nat.zero_le _) (by omega)
  · rw [costD_snoc]
    unfold costP
    simp only
    rw [if_pos (show ByteArray.empty.size = 0 from rfl)]
    omega
  · rw [List.length_append]
    simp only [List.length_cons, List.length_nil]
    omega
/-- what holds of the whole -/
structure Found (old s : ByteArray) (d : List Pt) : Prop where
  ok : ∀ p ∈ d, partOk old.size p = true
  ap : applyL old d = s
  co : costD d ≤ 2 * s.size
  ln : 5 * d.length ≤ 2 * s.size + 3
theorem ext_all (s : ByteArray) : s.extract 0 s.size = s := by
  apply ba_list
  rw [ext_list, List.drop_zero, List.take_of_length_le (by rw [bytes_size]; omega)]
theorem dlt_found (old s : ByteArray) (hs : s.size ≤ 120) : ∀ (n : Nat) (acc : List Pt) (told i : Nat), s.size - i ≤ n → told ≤ i → i ≤ s.size → Sofar old s acc told → Found old s (dlt old s acc told i)
  | n, acc, told, i, hn, h1, h2, hS => by
    by_cases h : i + 4 ≤ s.size
    · cases n with
      | zero => omega
      | succ n =>
        by_cases g : findB old (s.extract i (i + 4)) < old.size / 4
        · obtain ⟨a1, a2, a3⟩ := hS.hit h1 h hs g (findB_hit old _ g)
          rw [dlt_hit h g rfl rfl (by omega)]
          exact dlt_found old s hs n _ _ _ (by omega) (Nat.le_refl _) a2 a3
        · rw [dlt_miss h (by have := findB_le old (s.extract i (i + 4)); omega)]
          exact dlt_found old s hs n _ _ _ (by omega) (by omega) (by omega) hS
    · rw [dlt_end h]
      obtain ⟨t1, t2, t3, t4⟩ := hS.txt (by omega) (Nat.le_refl _) hs
      rw [ext_all] at t2
      exact ⟨t1, t2, t3, t4⟩
theorem found_of (old s : ByteArray) (hs : s.size ≤ 120) : Found old s (dlt old s [] 0 0) :=
  dlt_found old s hs s.size [] 0 0 (by omega) (Nat.le_refl _) (Nat.zero_le _) ⟨(fun _ h => by cases h), (by rw [ext_nil]; rfl), Nat.le_refl _, Nat.le_refl _⟩
theorem Found.good {old s : ByteArray} {d : List Pt} (h : Found old s d) (ho : old.size ≤ 120) (hs : s.size ≤ 120) : goodD old d = true := by
  have hl := h.ln
  have hz := applyL_size (s := old) d h.ok
  rw [h.ap] at hz
  unfold goodD
  rw [decide_eq_true ho, decide_eq_true (show d.length ≤ 60 by omega), List.all_eq_true.2 h.ok, decide_eq_true (show lenD d ≤ 120 by omega)]
  rfl
/-- a text of whole blocks is one part of itself -/
theorem dlt_self (s : ByteArray) (h4 : 4 ≤ s.size) : (dlt s s [] 0 0).length = 1 := by
  have e : eqT (blk s 0) (s.extract 0 (0 + 4)) = true := (eqT_iff _ _).2 rfl
  have hf : findB s (s.extract 0 (0 + 4)) = 0 := findB_is s _ 0 (by omega) e (fun j hj => absurd hj (Nat.not_lt_zero _))
  have ha : alk s (4 * 0) s 0 = s.size := by
    show alkL (s.data.toList.drop 0) (s.data.toList.drop 0) = s.size
    rw [alkL_self, List.length_drop, bytes_size]
    rfl
  rw [dlt_hit (k := 0) (n := s.size) (by omega) (by omega) hf ha (by omega), dlt_end (by omega), txtP_none (by omega), txtP_none (by omega)]
  rfl
/-- a part with small numbers -/
def SmP (p : Pt) : Prop := (-10 ≤ p.fr ∧ p.fr ≤ 1000) ∧ (-10 ≤ p.lg ∧ p.lg ≤ 1000) ∧ p.tx.size ≤ 1000
theorem smp_ok {n : Nat} {p : Pt} (hn : n ≤ 120) (h : partOk n p = true) : SmP p := by
  rcases part_two h with ⟨e0, f, g, e1, e2, e3⟩ | ⟨e0, e1, e2, e3⟩
  · unfold SmP
    rw [e0, e1, e2]
    exact ⟨⟨by omega, by omega⟩, ⟨by omega, by omega⟩, by decide⟩
  · unfold SmP
    rw [e1, e2]
    exact ⟨⟨by omega, by omega⟩, ⟨by omega, by omega⟩, by omega⟩
theorem dltV_small (old s : ByteArray) : ∀ p ∈ dltV old s, SmP p := by
  by_cases h : old.size ≤ 120 ∧ s.size ≤ 120
  · rw [(dltV_yes h.1 h.2).2]
    exact fun p hp => smp_ok h.1 ((found_of old s h.2).ok p hp)
  · rw [(dltV_no h).2]
    exact fun p hp => by cases hp
end Go.Proofs.Ytfkcfachbfbmpaa
