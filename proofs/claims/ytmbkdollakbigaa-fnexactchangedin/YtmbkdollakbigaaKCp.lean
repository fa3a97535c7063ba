/- Blocks that two tellings have unlike: plain. -/
import Derived.Test.YtmbkdollakbigaaKReadS
namespace Go.Proofs.Ytmbkdollakbigaa
set_option maxRecDepth 100000
open Go Go.ChangeShapes Go.WideShapes Go.ChangeAt Go.RowKit
/-- of the first k blocks those that two tellings have unlike -/
def unl (T U : Int → ByteArray) : Nat → List Int
  | 0 => []
  | k + 1 => if T (k : Int) = U (k : Int) then unl T U k else unl T U k ++ [(k : Int)]
theorem unl_yes {T U : Int → ByteArray} {k : Nat} (h : T (k : Int) = U (k : Int)) : unl T U (k + 1) = unl T U k := if_pos h
theorem unl_no {T U : Int → ByteArray} {k : Nat} (h : ¬ T (k : Int) = U (k : Int)) : unl T U (k + 1) = unl T U k ++ [(k : Int)] := if_neg h
theorem unl_len (T U : Int → ByteArray) : ∀ k, (unl T U k).length ≤ k
  | 0 => Nat.le_refl _
  | k + 1 => by
    have ih := unl_len T U k
    by_cases h : T (k : Int) = U (k : Int)
    · rw [unl_yes h]; omega
    · rw [unl_no h, List.length_append, List.length_singleton]; omega
theorem unl_mem (T U : Int → ByteArray) (x : Int) : ∀ k, x ∈ unl T U k ↔ (0 ≤ x ∧ x < (k : Int)) ∧ ¬ T x = U x
  | 0 => by
    constructor
    · intro h; exact absurd h (by simp [unl])
    · rintro ⟨⟨h1, h2⟩, -⟩; omega
  | k + 1 => by
    have ih := unl_mem T U x k
    by_cases h : T (k : Int) = U (k : Int)
    · rw [unl_yes h, ih]
      constructor
      · rintro ⟨⟨h1, h2⟩, h3⟩; exact ⟨⟨h1, by omega⟩, h3⟩
      · rintro ⟨⟨h1, h2⟩, h3⟩
        have hne : x ≠ (k : Int) := fun e => h3 (by rw [e]; exact h)
        exact ⟨⟨h1, by omega⟩, h3⟩
    · rw [unl_no h, List.mem_append, ih, List.mem_singleton]
      constructor
      · rintro (⟨⟨h1, h2⟩, h3⟩ | rfl)
        · exact ⟨⟨h1, by omega⟩, h3⟩
        · exact ⟨⟨by omega, by omega⟩, h⟩
      · rintro ⟨⟨h1, h2⟩, h3⟩
        by_cases e : x = (k : Int)
        · exact Or.inr e
        · exact Or.inl ⟨⟨h1, by omega⟩, h3⟩
theorem unl_strict (T U : Int → ByteArray) : ∀ k, (unl T U k).Pairwise (· < ·)
  | 0 => List.Pairwise.nil
  | k + 1 => by
    have ih := unl_strict T U k
    by_cases h : T (k : Int) = U (k : Int)
    · rw [unl_yes h]; exact ih
    · rw [unl_no h, List.pairwise_append]
      refine ⟨ih, List.pairwise_singleton _ _, fun x hx y hy => ?_⟩
      obtain rfl : y = (k : Int) := by simpa using hy
      exact ((unl_mem T U x k).1 hx).1.2
theorem strictC {a b : List Int} (ha : a.Pairwise (· < ·)) (hb : b.Pairwise (· < ·)) (h : ∀ x, x ∈ a ↔ x ∈ b) : a = b := by
  have na : a.Nodup := ha.imp (fun h => Int.ne_of_lt h)
  have nb : b.Nodup := hb.imp (fun h => Int.ne_of_lt h)
  have hp : a.Perm b := (List.perm_ext_iff_of_nodup na nb).2 h
  exact List.Perm.eq_of_pairwise (le := fun x y : Int => x < y) (fun x y _ _ h1 h2 => absurd h1 (Int.not_lt.2 (Int.le_of_lt h2))) ha hb hp
/-- a rising list that has all blocks unlike: what is unlike of it -/
theorem unl_of {T U : Int → ByteArray} {L : List Int} (hs : L.Pairwise (· < ·)) (hb : ∀ x ∈ L, 0 ≤ x ∧ x < 16) (hn : ∀ x, ¬ T x = U x → x ∈ L) : L.filter (fun x => decide (¬ T x = U x)) = unl T U 16 := by
  refine strictC (hs.filter _) (unl_strict T U 16) fun x => ?_
  rw [List.mem_filter, unl_mem]
  constructor
  · rintro ⟨h1, h2⟩
    have := hb x h1
    exact ⟨⟨this.1, by have := this.2; omega⟩, of_decide_eq_true h2⟩
  · rintro ⟨-, h3⟩
    exact ⟨hn x h3, decide_eq_true h3⟩
/-- a block at the k-th layer -/
def atF (S : List Ly) (k : Nat) (x : Int) : ByteArray := atL S x (k + 1)
/-- ChangedIn answers -/
def ChgOk (S : List Ly) (m n : Int) : Prop := GoodK S ∧ fndK S m < S.length ∧ fndK S n < S.length
instance (S : List Ly) (m n : Int) : Decidable (ChgOk S m n) := by unfold ChgOk; infer_instance
def chgP (S : List Ly) (m n : Int) : List Int := unl (atF S (fndK S m)) (atF S (fndK S n)) 16
def chgV (S : List Ly) (m n : Int) : List Int := if ChgOk S m n then chgP S m n else []
theorem chgV_len (S : List Ly) (m n : Int) : (chgV S m n).length ≤ 16 := by
  unfold chgV
  split
  · exact unl_len _ _ _
  · simp
end Go.Proofs.Ytmbkdollakbigaa
