/- What is the same at a mark, plain; a block of sixteen texts. -/
import Derived.Test.YtlifhakgboekfabSyGw
namespace Go.Proofs.Ytlifhakgboekfab
set_option maxRecDepth 100000
open Go Go.ChangeShapes Go.WideShapes Go.ChangeAt Go.RowKit
/-- a block at a mark -/
def atM (S : List Ly) (m : Int) (k : Nat) : ByteArray := atL S (k : Int) (fndK S m + 1)
/-- all blocks are alike at a mark -/
def sameK (A B : List Ly) (m : Int) : Bool := decide (∀ k : Fin 16, atM A m k.1 = atM B m k.1)
def BothOk (A B : List Ly) (m : Int) : Prop := (GoodK A ∧ GoodK B) ∧ fndK A m < A.length ∧ fndK B m < B.length
instance (A B : List Ly) (m : Int) : Decidable (BothOk A B m) := by unfold BothOk; infer_instance
theorem alloc3 (w : World) (a b c : Obj) : ((((w.alloc a).alloc b).alloc c).heap[w.heap.size]? = some a ∧ (((w.alloc a).alloc b).alloc c).heap[w.heap.size + 1]? = some b ∧ (((w.alloc a).alloc b).alloc c).heap[w.heap.size + 1 + 1]? = some c) ∧ (((w.alloc a).alloc b).alloc c).heap.size = w.heap.size + 1 + 1 + 1 := by
  have z1 : (w.alloc a).heap.size = w.heap.size + 1 := heap_size _ _
  have z2 : ((w.alloc a).alloc b).heap.size = w.heap.size + 1 + 1 := by rw [heap_size, z1]
  have z3 : (((w.alloc a).alloc b).alloc c).heap.size = w.heap.size + 1 + 1 + 1 := by rw [heap_size, z2]
  have h1 := heap_last w a
  have h2 := heap_last (w.alloc a) b
  have h3 := heap_last ((w.alloc a).alloc b) c
  rw [z1] at h2
  rw [z2] at h3
  have g2 := boxB (w.alloc a) b
  have g3 := boxB ((w.alloc a).alloc b) c
  exact ⟨⟨(g3.block _ (by omega)).trans ((g2.block _ (by omega)).trans h1), (g3.block _ (by omega)).trans h2, h3⟩, z3⟩
/-- the first k of sixteen texts -/
def arrS (T : Nat → ByteArray) (k : Nat) : Array Value := Array.ofFn (n := 16) fun i => .string (if i.1 < k then T i.1 else (⟨#[]⟩ : ByteArray))
theorem arrS_zero (T : Nat → ByteArray) : arrS T 0 = #[.string ⟨#[]⟩, .string ⟨#[]⟩, .string ⟨#[]⟩, .string ⟨#[]⟩, .string ⟨#[]⟩, .string ⟨#[]⟩, .string ⟨#[]⟩, .string ⟨#[]⟩, .string ⟨#[]⟩, .string ⟨#[]⟩, .string ⟨#[]⟩, .string ⟨#[]⟩, .string ⟨#[]⟩, .string ⟨#[]⟩, .string ⟨#[]⟩, .string ⟨#[]⟩] := rfl
theorem arrS_all (T : Nat → ByteArray) : arrS T 16 = #[.string (T 0), .string (T 1), .string (T 2), .string (T 3), .string (T 4), .string (T 5), .string (T 6), .string (T 7), .string (T 8), .string (T 9), .string (T 10), .string (T 11), .string (T 12), .string (T 13), .string (T 14), .string (T 15)] := rfl
theorem arrS_size (T : Nat → ByteArray) (k : Nat) : (arrS T k).size = 16 := by unfold arrS; simp
theorem arrS_at (T : Nat → ByteArray) (k i : Nat) (h : i < (arrS T k).size) : (arrS T k)[i] = .string (if i < k then T i else (⟨#[]⟩ : ByteArray)) := by
  have e : ∀ (X : Array Value) (hX : X = Array.ofFn (n := 16) fun i => .string (if i.1 < k then T i.1 else (⟨#[]⟩ : ByteArray))) (hi : i < X.size), X[i] = .string (if i < k then T i else (⟨#[]⟩ : ByteArray)) := fun X hX hi => by
    subst hX
    rw [Array.getElem_ofFn]
  exact e _ rfl h
theorem arrS_set (T : Nat → ByteArray) (k : Nat) : (arrS T k).setIfInBounds k (.string (T k)) = arrS T (k + 1) := by
  apply Array.ext
  · rw [Array.size_setIfInBounds, arrS_size, arrS_size]
  · intro i h1 h2
    rw [Array.getElem_setIfInBounds (by rw [Array.size_setIfInBounds] at h1; exact h1), arrS_at, arrS_at]
    by_cases e : k = i
    · subst e; rw [if_pos rfl, if_pos (by omega)]
    · rw [if_neg e]
      by_cases g : i < k
      · rw [if_pos g, if_pos (by omega)]
      · rw [if_neg g, if_neg (by omega)]
end Go.Proofs.Ytlifhakgboekfab
