/- Heaps by lists. -/
import Derived.Test.YtbomcppkgpfjjaaTab
namespace Go.Proofs.Ytbomcppkgpfjjaa
set_option maxRecDepth 100000
open Go Go.RowKit G00541
structure Sg where
  bl : List Int
  age : Int
/-- each block of a segment and whether it is live -/
def prs (s : Sg) (v : List Bool) : List (Int × Bool) := s.bl.zip v
def allP (S : List Sg) (L : List (List Bool)) : List (Int × Bool) := (List.zipWith prs S L).flatten
def liveN (P : List (Int × Bool)) (b : Nat) : Nat := P.countP fun p => p.1 == (b : Int) && p.2
def everB (P : List (Int × Bool)) (b : Nat) : Bool := P.any fun p => p.1 == (b : Int)
def okB (P : List (Int × Bool)) (b : Nat) : Bool := decide (liveN P b ≤ 1 ∧ (everB P b = true → liveN P b ≠ 0))
def inBl (l : List Int) : Bool := l.all fun x => decide (0 ≤ x ∧ x ≤ 15)
def goodS (s : Sg) (v : List Bool) : Bool := decide (s.bl.length ≤ 6) && inBl s.bl && decide (0 ≤ s.age ∧ s.age ≤ 1000) && decide (v.length = s.bl.length)
def goodH (S : List Sg) (L : List (List Bool)) : Bool := decide (2 ≤ S.length ∧ S.length ≤ 8) && decide (L.length = S.length) && (List.zipWith goodS S L).all id && (List.range 16).all (okB (allP S L))
def liveL (P : List (Int × Bool)) : List Int := tab fun b => (liveN P b : Int)
def everL (P : List (Int × Bool)) : List Bool := (List.range 16).map (everB P)
theorem liveL_len (P : List (Int × Bool)) : (liveL P).length = 16 := tab_len _
theorem everL_len (P : List (Int × Bool)) : (everL P).length = 16 := by simp [everL]
theorem liveL_at (P : List (Int × Bool)) (b : Nat) (h : b < (liveL P).length) : (liveL P)[b] = (liveN P b : Int) := tab_at _ b h
theorem everL_at (P : List (Int × Bool)) (b : Nat) (h : b < (everL P).length) : (everL P)[b] = everB P b := by simp [everL]
theorem liveL_nil : liveL [] = List.replicate 16 0 := by decide
theorem everL_nil : everL [] = List.replicate 16 false := by decide
theorem everL_snoc (P : List (Int × Bool)) (b : Nat) (v : Bool) : everL (P ++ [((b : Int), v)]) = (everL P).set b true := by
  apply List.ext_getElem
  · rw [List.length_set, everL_len, everL_len]
  · intro i h1 h2
    rw [everL_at, List.getElem_set]
    unfold everB
    rw [List.any_append]
    split
    · rename_i e; subst e; simp
    · rename_i e
      rw [everL_at]
      have : (((b : Int) == (i : Int))) = false := beq_eq_false_iff_ne.2 (by omega)
      simp [everB, this]
theorem liveL_no (P : List (Int × Bool)) (b : Int) : liveL (P ++ [(b, false)]) = liveL P := by
  unfold liveL
  refine tab_ext _ _ fun i _ => ?_
  unfold liveN
  simp
theorem liveL_yes (P : List (Int × Bool)) (b : Nat) (hb : b < (liveL P).length) : liveL (P ++ [((b : Int), true)]) = (liveL P).set b ((liveL P)[b] + 1) := by
  apply List.ext_getElem
  · rw [List.length_set, liveL_len, liveL_len]
  · intro i h1 h2
    rw [liveL_at, List.getElem_set]
    unfold liveN
    rw [List.countP_append]
    split
    · rename_i e; subst e
      rw [liveL_at]
      simp [liveN]
    · rename_i e
      rw [liveL_at]
      have : (((b : Int) == (i : Int))) = false := beq_eq_false_iff_ne.2 (by omega)
      simp [liveN, this]
theorem allP_take (S : List Sg) (L : List (List Bool)) (k : Nat) (h : k < S.length) (g : k < L.length) : allP (S.take (k + 1)) (L.take (k + 1)) = allP (S.take k) (L.take k) ++ prs S[k] L[k] := by
  unfold allP
  rw [List.take_succ_eq_append_getElem h, List.take_succ_eq_append_getElem g, List.zipWith_append (by simp; omega), List.flatten_append]
  simp
theorem prs_take (s : Sg) (v : List Bool) (i : Nat) (h : i < s.bl.length) (g : i < v.length) : (prs s v).take (i + 1) = (prs s v).take i ++ [(s.bl[i], v[i])] := by
  unfold prs
  rw [List.take_succ_eq_append_getElem (by simp; omega)]
  simp
theorem prs_len (s : Sg) (v : List Bool) (h : v.length = s.bl.length) : (prs s v).length = s.bl.length := by simp [prs, h]
theorem liveN_le (P : List (Int × Bool)) (b : Nat) : liveN P b ≤ P.length := List.countP_le_length
theorem goodS_iff (s : Sg) (v : List Bool) : goodS s v = true ↔ s.bl.length ≤ 6 ∧ (∀ x ∈ s.bl, 0 ≤ x ∧ x ≤ 15) ∧ 0 ≤ s.age ∧ s.age ≤ 1000 ∧ v.length = s.bl.length := by
  unfold goodS inBl
  simp [and_assoc]
/-- where the lengths are alike: each segment good, each block fine -/
theorem goodH_iff (S : List Sg) (L : List (List Bool)) (hl : L.length = S.length) : goodH S L = true ↔ (2 ≤ S.length ∧ S.length ≤ 8) ∧ (∀ k (h : k < S.length), goodS S[k] (L[k]'(by omega)) = true) ∧ ∀ b, b < 16 → okB (allP S L) b = true := by
  unfold goodH
  simp only [Bool.and_eq_true, decide_eq_true_iff, List.all_eq_true, List.mem_range, hl, and_true, id]
  constructor
  · rintro ⟨⟨h1, h2⟩, h3⟩
    refine ⟨h1, fun k h => ?_, h3⟩
    refine h2 _ ?_
    rw [List.mem_iff_getElem]
    exact ⟨k, by simp; omega, by simp⟩
  · rintro ⟨h1, h2, h3⟩
    refine ⟨⟨h1, fun x hx => ?_⟩, h3⟩
    obtain ⟨k, hk, rfl⟩ := List.getElem_of_mem hx
    have hk' : k < S.length := by simp at hk; omega
    have := h2 k hk'
    simpa using this
theorem goodH_len (S : List Sg) (L : List (List Bool)) (h : ¬ L.length = S.length) : goodH S L = false := by
  unfold goodH
  rw [decide_eq_false h]; simp
theorem goodH_many (S : List Sg) (L : List (List Bool)) (h : ¬ (2 ≤ S.length ∧ S.length ≤ 8)) : goodH S L = false := by
  unfold goodH
  rw [decide_eq_false h]; simp
theorem goodH_seg (S : List Sg) (L : List (List Bool)) (hl : L.length = S.length) (k : Nat) (h : k < S.length) (hb : goodS S[k] (L[k]'(by omega)) = false) : goodH S L = false := by
  cases e : goodH S L
  · rfl
  · have := ((goodH_iff S L hl).1 e).2.1 k h
    rw [hb] at this; cases this
theorem goodH_block (S : List Sg) (L : List (List Bool)) (hl : L.length = S.length) (b : Nat) (h : b < 16) (hb : okB (allP S L) b = false) : goodH S L = false := by
  cases e : goodH S L
  · rfl
  · have := ((goodH_iff S L hl).1 e).2.2 b h
    rw [hb] at this; cases this
end Go.Proofs.Ytbomcppkgpfjjaa
