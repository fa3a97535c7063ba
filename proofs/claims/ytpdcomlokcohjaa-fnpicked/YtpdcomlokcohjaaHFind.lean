/- The first that is so: plain. -/
import Derived.Test.YtpdcomlokcohjaaHA
namespace Go.Proofs.Ytpdcomlokcohjaa
open G00541
theorem find_at (n : Nat) (p : Nat → Bool) (k : Nat) (hk : k < n) (hp : p k = true) (hn : ∀ j, j < k → p j = false) : (List.range n).find? p = some k := by
  rw [List.find?_range_eq_some]
  exact ⟨hp, List.mem_range.2 hk, fun j hj => by rw [hn j hj]; rfl⟩
theorem find_no (n : Nat) (p : Nat → Bool) (h : ∀ j, j < n → p j = false) : (List.range n).find? p = none := by
  rw [List.find?_range_eq_none]
  intro j hj
  rw [h j hj]; rfl
def optI : Option Nat → Int
  | some k => k
  | none => -1
def lenAt (S : List Sg) (k : Nat) : Nat := (S.getD k ⟨[], 0⟩).bl.length
theorem lenAt_eq (S : List Sg) (k : Nat) (h : k < S.length) : lenAt S k = S[k].bl.length := by
  unfold lenAt
  rw [List.getD_eq_getElem?_getD, List.getElem?_eq_getElem h]; rfl
/-- the segment that the next block goes to, but for one -/
def roomP (S : List Sg) (no : Int) (k : Nat) : Bool := decide ((k : Int) ≠ no ∧ 1 ≤ lenAt S k ∧ lenAt S k ≤ 5)
def roomQ (S : List Sg) (no : Int) (k : Nat) : Bool := decide ((k : Int) ≠ no ∧ lenAt S k = 0)
def roomH (S : List Sg) (no : Int) : Option Nat := ((List.range S.length).find? (roomP S no)).or ((List.range S.length).find? (roomQ S no))
theorem roomH_p (S : List Sg) (no : Int) (k : Nat) (hk : k < S.length) (hp : roomP S no k = true) (hn : ∀ j, j < k → roomP S no j = false) : roomH S no = some k := by
  unfold roomH
  rw [find_at _ _ k hk hp hn]; rfl
theorem roomH_q (S : List Sg) (no : Int) (h : ∀ j, j < S.length → roomP S no j = false) (k : Nat) (hk : k < S.length) (hp : roomQ S no k = true) (hn : ∀ j, j < k → roomQ S no j = false) : roomH S no = some k := by
  unfold roomH
  rw [find_no _ _ h, find_at _ _ k hk hp hn]; rfl
theorem roomH_no (S : List Sg) (no : Int) (h : ∀ j, j < S.length → roomP S no j = false) (g : ∀ j, j < S.length → roomQ S no j = false) : roomH S no = none := by
  unfold roomH
  rw [find_no _ _ h, find_no _ _ g]; rfl
/-- where a block is live within a segment -/
def atP (s : Sg) (v : List Bool) (x : Int) (i : Nat) : Bool := s.bl.getD i 0 == x && v.getD i false
def whereS (s : Sg) (v : List Bool) (x : Int) : Option Nat := (List.range s.bl.length).find? (atP s v x)
def segW (S : List Sg) (L : List (List Bool)) (x : Int) (k : Nat) : Option Nat := whereS (S.getD k ⟨[], 0⟩) (L.getD k []) x
def whereH (S : List Sg) (L : List (List Bool)) (x : Int) : Option (Nat × Nat) := (List.range S.length).findSome? fun k => (segW S L x k).map fun i => (k, i)
theorem findSome_at {α : Type} (n : Nat) (f : Nat → Option α) (k : Nat) (a : α) (hk : k < n) (hp : f k = some a) (hn : ∀ j, j < k → f j = none) : (List.range n).findSome? f = some a := by
  induction n with
  | zero => omega
  | succ n ih =>
    rw [List.range_succ, List.findSome?_append]
    by_cases h : k < n
    · rw [ih h]; rfl
    · obtain rfl : k = n := by omega
      have : (List.range k).findSome? f = none := by
        rw [List.findSome?_eq_none_iff]
        intro x hx
        exact hn x (List.mem_range.1 hx)
      rw [this]
      simp [hp]
theorem findSome_no {α : Type} (n : Nat) (f : Nat → Option α) (h : ∀ j, j < n → f j = none) : (List.range n).findSome? f = none := by
  rw [List.findSome?_eq_none_iff]
  intro x hx
  exact h x (List.mem_range.1 hx)
theorem segW_eq (S : List Sg) (L : List (List Bool)) (x : Int) (k : Nat) (h : k < S.length) (g : k < L.length) : segW S L x k = whereS S[k] L[k] x := by
  unfold segW
  rw [List.getD_eq_getElem?_getD, List.getElem?_eq_getElem h, List.getD_eq_getElem?_getD, List.getElem?_eq_getElem g]; rfl
theorem whereH_at (S : List Sg) (L : List (List Bool)) (x : Int) (k i : Nat) (hk : k < S.length) (hp : segW S L x k = some i) (hn : ∀ j, j < k → segW S L x j = none) : whereH S L x = some (k, i) :=
  findSome_at _ _ k (k, i) hk (by rw [hp]; rfl) (fun j hj => by rw [hn j hj]; rfl)
theorem whereH_no (S : List Sg) (L : List (List Bool)) (x : Int) (h : ∀ j, j < S.length → segW S L x j = none) : whereH S L x = none := findSome_no _ _ fun j hj => by rw [h j hj]; rfl
theorem atP_eq (s : Sg) (v : List Bool) (x : Int) (i : Nat) (h : i < s.bl.length) (g : i < v.length) : atP s v x i = (s.bl[i] == x && v[i]) := by
  unfold atP
  rw [List.getD_eq_getElem?_getD, List.getElem?_eq_getElem h, List.getD_eq_getElem?_getD, List.getElem?_eq_getElem g]; rfl
def wI : Option (Nat × Nat) → Int × Int
  | some (k, i) => (k, i)
  | none => (-1, -1)
end Go.Proofs.Ytpdcomlokcohjaa
