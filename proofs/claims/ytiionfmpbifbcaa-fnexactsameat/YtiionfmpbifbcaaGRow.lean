/- Rows of structs in memory: of each the cells of its fields. -/
import Derived.WalkKit
import Derived.Laws.MakeOwn
namespace Go.Proofs.Ytiionfmpbifbcaa
open Go Go.RowKit
theorem heap_last (w : World) (o : Obj) : (w.alloc o).heap[w.heap.size]? = some o := by
  show (w.heap.push o)[w.heap.size]? = _
  rw [Array.getElem?_push_size]
theorem heap_size (w : World) (o : Obj) : (w.alloc o).heap.size = w.heap.size + 1 := by simp
theorem heap_last2 (w : World) (a o : Obj) : ((w.alloc a).alloc o).heap[w.heap.size + 1]? = some o := by
  rw [← heap_size w a]; exact heap_last _ _
theorem heap_mid2 (w : World) (a o : Obj) : ((w.alloc a).alloc o).heap[w.heap.size]? = some a := by
  rw [Below.heap_alloc _ _ _ (by rw [heap_size]; omega)]; exact heap_last _ _
theorem heap_last3 (w : World) (a b o : Obj) : (((w.alloc a).alloc b).alloc o).heap[w.heap.size + 1 + 1]? = some o := by
  rw [← heap_size w a, ← heap_size (w.alloc a) b]; exact heap_last _ _
theorem heap_mid3 (w : World) (a b o : Obj) : (((w.alloc a).alloc b).alloc o).heap[w.heap.size + 1]? = some b := by
  rw [Below.heap_alloc _ _ _ (by rw [heap_size, heap_size]; omega)]; exact heap_last2 _ _ _
/-- a row that a call itself has made, at block R: s cells an element -/
structure GRow (R s : Nat) (rows : List (List Value)) (w : World) : Prop where
  lt : R < w.heap.size
  wide : ∀ i (hi : i < rows.length), rows[i].length = s
  cell : ∀ i (hi : i < rows.length) j, j < s → w.cell? ⟨R, i * s + j, none⟩ = rows[i][j]?
  free : ∀ j, j < rows.length * s → w.frozen? ⟨R, j, none⟩ = false
theorem at_inj {s i j k l : Nat} (hj : j < s) (hl : l < s) (h : i * s + j = k * s + l) : i = k ∧ j = l := by
  have h1 : (i * s + j) / s = i := by rw [Nat.mul_comm, Nat.mul_add_div (by omega), Nat.div_eq_of_lt hj]; rfl
  have h2 : (k * s + l) / s = k := by rw [Nat.mul_comm, Nat.mul_add_div (by omega), Nat.div_eq_of_lt hl]; rfl
  have e : i = k := by rw [← h1, h, h2]
  subst e
  omega
theorem at_lt {s i j n : Nat} (hi : i < n) (hj : j < s) : i * s + j < n * s := by
  have : (i + 1) * s ≤ n * s := Nat.mul_le_mul_right s hi
  rw [Nat.add_mul, Nat.one_mul] at this
  omega
theorem GRow.set {R s : Nat} {rows : List (List Value)} {w : World} (h : GRow R s rows w) (k j : Nat) (hk : k < rows.length) (hj : j < s) (v : Value) :
    GRow R s (rows.set k (rows[k].set j v)) (w.setCell ⟨R, k * s + j, none⟩ v) := by
  refine ⟨by simpa [World.setCell] using h.lt, ?_, ?_, ?_⟩
  · intro i hi
    have hi' : i < rows.length := by simpa using hi
    rw [List.getElem_set]
    split
    · rw [List.length_set]; exact h.wide k hk
    · exact h.wide i hi'
  · intro i hi l hl
    have hi' : i < rows.length := by simpa using hi
    by_cases e : i = k
    · subst e
      have hkey : (rows.set i (rows[i].set j v))[i] = rows[i].set j v := List.getElem_set_self _
      rw [hkey]
      by_cases e2 : l = j
      · subst e2
        have hw := h.wide i hi'
        have hc := h.cell i hi' l hl
        rw [List.getElem?_eq_getElem (by omega)] at hc
        rw [World.cell?_setCell_same _ _ _ hc, List.getElem?_set_self (by omega)]
      · rw [List.getElem?_set_ne (fun e3 => e2 e3.symm), ← h.cell i hi' l hl]
        exact World.cell?_setCell_other _ _ _ _ (fun e3 => by
          have h3 : i * s + j = i * s + l := congrArg Addr.off e3
          omega)
    · have hkey : (rows.set k (rows[k].set j v))[i] = rows[i] := List.getElem_set_ne (fun e3 => e e3.symm) _
      rw [hkey, ← h.cell i hi' l hl]
      exact World.cell?_setCell_other _ _ _ _ (fun e3 => by
        have h3 : k * s + j = i * s + l := congrArg Addr.off e3
        exact e (at_inj hj hl h3).1.symm)
  · intro l hl
    rw [World.frozen?_setCell]
    exact h.free l (by simpa using hl)
theorem GRow.drew {R s : Nat} {rows : List (List Value)} {w : World} (h : GRow R s rows w) : GRow R s rows w.drew := ⟨h.lt, h.wide, h.cell, h.free⟩
theorem GRow.below {R s : Nat} {rows : List (List Value)} {w w' : World} (h : GRow R s rows w) (hb : Below w.heap.size w w') : GRow R s rows w' :=
  ⟨Nat.lt_of_lt_of_le h.lt hb.size, h.wide, fun i hi j hj => (hb.cell (p := ⟨R, _, none⟩) h.lt).trans (h.cell i hi j hj), fun j hj => (hb.frozen (p := ⟨R, _, none⟩) h.lt).trans (h.free j hj)⟩
/-- nothing of block R has turned -/
theorem GRow.same {R s : Nat} {rows : List (List Value)} {w w' : World} (h : GRow R s rows w) (hs : w.heap.size ≤ w'.heap.size) (hb : w'.heap[R]? = w.heap[R]?) : GRow R s rows w' := by
  have hc : ∀ o, w'.cell? ⟨R, o, none⟩ = w.cell? ⟨R, o, none⟩ := fun o => by unfold World.cell?; simp only [hb]
  have hf : ∀ o, w'.frozen? ⟨R, o, none⟩ = w.frozen? ⟨R, o, none⟩ := fun o => by unfold World.frozen?; simp only [hb]
  exact ⟨Nat.lt_of_lt_of_le h.lt hs, h.wide, fun i hi j hj => (hc _).trans (h.cell i hi j hj), fun j hj => (hf _).trans (h.free j hj)⟩
/-- the row behind 'make([]T, n)': n elements, each its type's zero value -/
theorem GRow.made (w : World) (T : TypeId) (n : Nat) (z : Array Value) : GRow w.heap.size z.size (List.replicate n z.toList) (w.alloc (.cells (madeCells z (n * z.size)) T)) := by
  refine ⟨by go_simp, ?_, ?_, ?_⟩
  · intro i hi
    rw [List.getElem_replicate]; simp
  · intro i hi j hj
    have hi' : i < n := by simpa using hi
    have hlt := at_lt hi' hj
    rw [World.cell?_alloc_new, List.getElem_replicate]
    have e : (i * z.size + j) % z.size = j := by rw [Nat.mul_comm, Nat.mul_add_mod, Nat.mod_eq_of_lt hj]
    simp [madeCells, hlt, e, hj]
  · intro j hj
    go_simp
/-- a slice of structs that came in, in memory below block B -/
structure GSl (B s : Nat) (a : Option Addr) (rows : List (List Value)) (w : World) : Prop where
  cell : 0 < rows.length → ∃ b off, a = some ⟨b, off, none⟩ ∧ b < B ∧ ∀ i (hi : i < rows.length) j, j < s → w.cell? ⟨b, off + i * s + j, none⟩ = rows[i][j]?
theorem GSl.below {B s : Nat} {a : Option Addr} {rows : List (List Value)} {w w' : World} (h : GSl B s a rows w) (g : Below B w w') : GSl B s a rows w' := by
  refine ⟨fun h0 => ?_⟩
  obtain ⟨b, off, e, hb, hc⟩ := h.cell h0
  exact ⟨b, off, e, hb, fun i hi j hj => (g.cell (p := ⟨b, _, none⟩) hb).trans (hc i hi j hj)⟩
theorem GSl.mono {B B' s : Nat} {a : Option Addr} {rows : List (List Value)} {w : World} (h : GSl B s a rows w) (hB : B ≤ B') : GSl B' s a rows w :=
  ⟨fun h0 => by obtain ⟨b, off, e, hb, hc⟩ := h.cell h0; exact ⟨b, off, e, by omega, hc⟩⟩
/-- a made row read as a slice -/
theorem GRow.sl {R s B : Nat} {rows : List (List Value)} {w : World} (h : GRow R s rows w) (hB : R < B) : GSl B s (some ⟨R, 0, none⟩) rows w :=
  ⟨fun _ => ⟨R, 0, rfl, hB, fun i hi j hj => by rw [Nat.zero_add]; exact h.cell i hi j hj⟩⟩
end Go.Proofs.Ytiionfmpbifbcaa
