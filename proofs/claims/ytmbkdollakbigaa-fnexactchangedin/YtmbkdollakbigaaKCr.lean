/- The program's ChangedIn: the region that makes two maps, by one invariant. -/
import Derived.Test.YtmbkdollakbigaaKCv
import Derived.Test.YtmbkdollakbigaaKLow
import Derived.Test.YtmbkdollakbigaaKIv
namespace Go.Proofs.Ytmbkdollakbigaa
set_option maxRecDepth 100000
open Go Go.ChangeShapes Go.WideShapes Go.ChangeAt Go.RowKit Go.Shelf Go.Maps Go.Sort
/-- what stands in the region, by what is done -/
structure R3 (A : List Ly) (a : Option Addr) (c : Nat) (m n : Int) (w0 : World) (d : Nat → Bool) (u28 u29 u30 u31 u32 u33 u34 u35 u8 u9 : Value) (v : World) : Prop where
  b : Below w0.heap.size w0 v
  v0 : d 0 = true → u28 = .agg #[.slice a A.length c]
  v1 : d 1 = true → u29 = .int .i64 m
  v2 : d 2 = true → ∃ P, u30 = .func (.func 47) #[] #[.pointer (some ⟨P, 0, none⟩), .pointer (some ⟨P + 1, 0, none⟩)] ∧ v.heap[P]? = some (.cells #[.slice a A.length c] 31 (0, 0)) ∧ v.heap[P + 1]? = some (.cells #[.int .i64 m] 3 (0, 0))
  v3 : d 3 = true → ∃ (M N : Nat) (D : DataW Unit), u31 = .map (some M) ∧ w0.heap.size ≤ M ∧ v.ownsMap Try.prog 3 keptE M N D ∧ N ≤ 16777216 ∧ TellsK D (TU A m) (KU A m)
  v4 : d 4 = true → u32 = .agg #[.slice a A.length c]
  v5 : d 5 = true → u33 = .int .i64 n
  v6 : d 6 = true → ∃ P, u34 = .func (.func 47) #[] #[.pointer (some ⟨P, 0, none⟩), .pointer (some ⟨P + 1, 0, none⟩)] ∧ v.heap[P]? = some (.cells #[.slice a A.length c] 31 (0, 0)) ∧ v.heap[P + 1]? = some (.cells #[.int .i64 n] 3 (0, 0))
  v7 : d 7 = true → ∃ (M N : Nat) (D : DataW Unit), u35 = .map (some M) ∧ w0.heap.size ≤ M ∧ v.ownsMap Try.prog 3 keptE M N D ∧ N ≤ 16777216 ∧ TellsK D (TU A n) (KU A n)
  v8 : d 8 = true → ∃ (X : Nat) (z : Value), u8 = .pointer (some ⟨X, 0, none⟩) ∧ w0.heap.size ≤ X ∧ v.heap[X]? = some (.cells #[z] 46 (0, 0)) ∧ (d 10 = true → z = u31)
  v9 : d 9 = true → ∃ (X : Nat) (z : Value), u9 = .pointer (some ⟨X, 0, none⟩) ∧ w0.heap.size ≤ X ∧ v.heap[X]? = some (.cells #[z] 46 (0, 0)) ∧ (d 11 = true → z = u35)
  ne : d 8 = true → d 9 = true → u8 ≠ u9
  o10 : d 10 = true → d 3 = true
  o11 : d 11 = true → d 7 = true
  p10 : d 10 = true → d 8 = true
  p11 : d 11 = true → d 9 = true
theorem R3.grow {A : List Ly} {a : Option Addr} {c : Nat} {m n : Int} {w0 : World} {d : Nat → Bool} {u28 u29 u30 u31 u32 u33 u34 u35 u8 u9 : Value} {v v' : World} (h : R3 A a c m n w0 d u28 u29 u30 u31 u32 u33 u34 u35 u8 u9 v) (g : Below v.heap.size v v') : R3 A a c m n w0 d u28 u29 u30 u31 u32 u33 u34 u35 u8 u9 v' := by
  have hk : ∀ {k : Nat} {o : Obj}, v.heap[k]? = some o → v'.heap[k]? = some o := fun hk => (g.block _ (Array.getElem?_eq_some_iff.1 hk).1).trans hk
  have hs : ∀ {u : Value} {mk : Int}, (∃ P, u = .func (.func 47) #[] #[.pointer (some ⟨P, 0, none⟩), .pointer (some ⟨P + 1, 0, none⟩)] ∧ v.heap[P]? = some (.cells #[.slice a A.length c] 31 (0, 0)) ∧ v.heap[P + 1]? = some (.cells #[.int .i64 mk] 3 (0, 0))) → ∃ P, u = .func (.func 47) #[] #[.pointer (some ⟨P, 0, none⟩), .pointer (some ⟨P + 1, 0, none⟩)] ∧ v'.heap[P]? = some (.cells #[.slice a A.length c] 31 (0, 0)) ∧ v'.heap[P + 1]? = some (.cells #[.int .i64 mk] 3 (0, 0)) := fun ⟨P, h1, h2, h3⟩ => ⟨P, h1, hk h2, hk h3⟩
  have hm : ∀ {u : Value} {mk : Int}, (∃ (M N : Nat) (D : DataW Unit), u = .map (some M) ∧ w0.heap.size ≤ M ∧ v.ownsMap Try.prog 3 keptE M N D ∧ N ≤ 16777216 ∧ TellsK D (TU A mk) (KU A mk)) → ∃ (M N : Nat) (D : DataW Unit), u = .map (some M) ∧ w0.heap.size ≤ M ∧ v'.ownsMap Try.prog 3 keptE M N D ∧ N ≤ 16777216 ∧ TellsK D (TU A mk) (KU A mk) := fun ⟨M, N, D, h1, h2, h3, h4, h5⟩ => ⟨M, N, D, h1, h2, ownsMap_sameK h3 (g.block M h3.lt), h4, h5⟩
  exact ⟨h.b.trans (g.mono h.b.size), h.v0, h.v1, fun e => hs (h.v2 e), fun e => hm (h.v3 e), h.v4, h.v5, fun e => hs (h.v6 e), fun e => hm (h.v7 e),
    fun e => by obtain ⟨X, z, h1, h2, h3, h4⟩ := h.v8 e; exact ⟨X, z, h1, h2, hk h3, h4⟩,
    fun e => by obtain ⟨X, z, h1, h2, h3, h4⟩ := h.v9 e; exact ⟨X, z, h1, h2, hk h3, h4⟩, h.ne, h.o10, h.o11, h.p10, h.p11⟩
/-- a store into one of the boxes leaves all else -/
theorem keep3 {v : World} {X : Nat} {z y : Value} (hX : v.heap[X]? = some (.cells #[z] 46 (0, 0))) : (∀ {k : Nat} {cs : Array Value} {t : TypeId}, v.heap[k]? = some (.cells cs t (0, 0)) → t ≠ 46 → (v.setCell ⟨X, 0, none⟩ y).heap[k]? = some (.cells cs t (0, 0))) ∧ (∀ {M N : Nat} {D : DataW Unit}, v.ownsMap Try.prog 3 keptE M N D → (v.setCell ⟨X, 0, none⟩ y).ownsMap Try.prog 3 keptE M N D) ∧ (v.setCell ⟨X, 0, none⟩ y).heap[X]? = some (.cells #[y] 46 (0, 0)) := by
  refine ⟨fun {k cs t} hk ht => (keepB _ _ _ _ _ (fun e => ?_)).trans hk, fun {M N D} h => ?_, ?_⟩
  · subst e
    rw [hX] at hk
    cases hk
    exact ht rfl
  · refine ownsMap_sameK h (keepB _ _ _ _ _ (fun e => ?_))
    subst e
    obtain ⟨es, clock, h1, h2⟩ := h
    rw [hX] at h1
    cases h1
  · have := box_set hX 0 y
    simpa using this
end Go.Proofs.Ytmbkdollakbigaa
