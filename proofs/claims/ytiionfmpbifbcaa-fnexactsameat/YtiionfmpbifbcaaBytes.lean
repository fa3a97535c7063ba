/- A row of bytes that a call itself has made, and what stores do to it. -/
import Derived.WalkKit
import Derived.Laws.IdiomStrings
import Derived.Laws.MakeOwn
import Derived.Lib.ConvBytes
namespace Go.Proofs.Ytiionfmpbifbcaa
open Go Go.RowKit
structure ByteRow (B : Nat) (l : List UInt8) (w : World) : Prop where
  lt : B < w.heap.size
  cell : ∀ j (hj : j < l.length), w.cell? ⟨B, j, none⟩ = some (.int .u8 (l[j].toNat : Int))
  free : ∀ j, j < l.length → w.frozen? ⟨B, j, none⟩ = false
theorem ByteRow.drew {B : Nat} {l : List UInt8} {w : World} (h : ByteRow B l w) : ByteRow B l w.drew :=
  ⟨by go_simp; exact h.lt, fun j hj => by go_simp; exact h.cell j hj, fun j hj => by go_simp; exact h.free j hj⟩
theorem ByteRow.set {B : Nat} {l : List UInt8} {w : World} (h : ByteRow B l w) (k : Nat) (hk : k < l.length) (x : UInt8) : ByteRow B (l.set k x) (w.setCell ⟨B, k, none⟩ (.int .u8 (x.toNat : Int))) := by
  refine ⟨?_, ?_, ?_⟩
  · go_simp; exact h.lt
  · intro j hj
    have hj' : j < l.length := by simpa using hj
    by_cases e : k = j
    · subst e
      rw [List.getElem_set_self]
      exact World.cell?_setCell_same _ _ _ (h.cell k hk)
    · rw [List.getElem_set_ne e, ← h.cell j hj']
      exact World.cell?_setCell_other _ _ _ _ (by simp only [ne_eq, Addr.mk.injEq, true_and, and_true]; exact e)
  · intro j hj
    have hj' : j < l.length := by simpa using hj
    rw [World.frozen?_setCell]
    exact h.free j hj'
theorem ByteRow.below {B : Nat} {l : List UInt8} {w w' : World} (h : ByteRow B l w) (hb : Below w.heap.size w w') : ByteRow B l w' :=
  ⟨Nat.lt_of_lt_of_le h.lt hb.size, fun j hj => (hb.cell (p := ⟨B, j, none⟩) h.lt).trans (h.cell j hj), fun j hj => (hb.frozen (p := ⟨B, j, none⟩) h.lt).trans (h.free j hj)⟩
/-- the row behind '[]byte(s)' -/
theorem ByteRow.ofString (w : World) (s : ByteArray) : ByteRow w.heap.size s.data.toList (Lib.bytesWorld w 5 s) := by
  refine ⟨by rw [Lib.bytesWorld_size]; omega, fun j hj => ?_, fun j hj => ?_⟩
  · rw [Lib.bytesWorld_cell w 5 s j (by simpa using hj), List.getD_eq_getElem?_getD, List.getElem?_eq_getElem hj]; rfl
  · have hc : j < (Lib.bytesCells w 5 s).size := by
      simp [Lib.bytesCells]
      have : j < s.size := by simpa using hj
      omega
    unfold World.frozen?
    rw [Lib.bytesWorld_at_new]
    simp
    omega
theorem bytesWorld_below (w : World) (s : ByteArray) : Below w.heap.size w (Lib.bytesWorld w 5 s) :=
  ⟨rfl, rfl, rfl, by rw [Lib.bytesWorld_size]; omega, fun k hk => Lib.bytesWorld_at_old w 5 s k hk⟩
theorem made_get (n j : Nat) (hj : j < n) : (madeCells (Value.int .u8 0).cells n)[j]? = some (.int .u8 0) := by
  simp [madeCells, hj, Value.cells]
  rw [Nat.mod_one]
  rfl
/-- the row behind 'make([]byte, n)' -/
theorem ByteRow.made (w : World) (n : Nat) : ByteRow w.heap.size (List.replicate n 0) (w.alloc (.cells (madeCells (Value.int .u8 0).cells n) 5)) := by
  refine ⟨by go_simp, fun j hj => ?_, fun j hj => ?_⟩
  · have hj' : j < n := by simpa using hj
    rw [World.cell?_alloc_new, made_get n j hj']
    simp
  · go_simp
/-- two rows joined at a place, and the store that moves the place on -/
theorem mix_set (X Y : List UInt8) (k : Nat) (hX : k < X.length) (hY : Y.length = X.length) : (X.take k ++ Y.drop k).set k (X[k]) = X.take (k + 1) ++ Y.drop (k + 1) := by
  apply List.ext_getElem?
  intro i
  rw [List.getElem?_set]
  by_cases e : k = i
  · subst e
    have h1 : k < (X.take k ++ Y.drop k).length := by simp; omega
    rw [if_pos rfl, if_pos h1, List.getElem?_append_left (by simp; omega), List.getElem?_take, if_pos (by omega), List.getElem?_eq_getElem hX]
  · rw [if_neg e]
    by_cases hi : i < k
    · rw [List.getElem?_append_left (by simp; omega), List.getElem?_append_left (by simp; omega), List.getElem?_take, List.getElem?_take, if_pos hi, if_pos (by omega)]
    · rw [List.getElem?_append_right (by simp; omega), List.getElem?_append_right (by simp; omega), List.getElem?_drop, List.getElem?_drop]
      congr 1
      simp
      omega
theorem mix_length (X Y : List UInt8) (k : Nat) (hk : k ≤ X.length) (hY : Y.length = X.length) : (X.take k ++ Y.drop k).length = X.length := by simp; omega
theorem mix_at (X Y : List UInt8) (k : Nat) (hk : k < X.length) (hY : Y.length = X.length) (h : k < (X.take k ++ Y.drop k).length) : (X.take k ++ Y.drop k)[k] = Y[k] := by
  rw [List.getElem_append_right (by simp; omega), List.getElem_drop]
  congr 1
  simp
  omega
theorem ByteRow.step {B : Nat} {X Y : List UInt8} {k : Nat} {w : World} (h : ByteRow B (X.take k ++ Y.drop k) w) (hX : k < X.length) (hY : Y.length = X.length) {v : Int} (hv : v = (X[k].toNat : Int)) :
    ByteRow B (X.take (k + 1) ++ Y.drop (k + 1)) (w.setCell ⟨B, k, none⟩ (.int .u8 v)).drew := by
  rw [hv, ← mix_set X Y k hX hY]
  exact (h.set k (by rw [mix_length X Y k (by omega) hY]; exact hX) _).drew
theorem ByteRow.back {P : Program} {B n cap : Nat} {l : List UInt8} {w : World} (h : ByteRow B l w) (hn : n = l.length) (src dst : TypeId)
    (hs : P.underlying src = some (.slice 5)) (he : P.underlying 5 = some (.int .u8)) (hd : P.underlying dst = some .string) :
    Sem.run P (convert src dst (.slice (some ⟨B, 0, none⟩) n cap)) w = .ok (.string ⟨l.toArray⟩) w := by
  subst hn
  refine run_convert_bytes_back w src dst 5 ⟨B, 0, none⟩ cap l hs he hd (fun j hj => ?_)
  have e : (⟨B, 0, none⟩ : Addr).add j = ⟨B, j, none⟩ := by simp [Addr.add]; omega
  rw [e]
  exact h.cell j hj
theorem mix_end (X Y : List UInt8) (k : Nat) (h : X.length ≤ k) (hY : Y.length = X.length) : X.take k ++ Y.drop k = X := by
  rw [List.take_of_length_le h, List.drop_of_length_le (by omega), List.append_nil]
theorem xor_u8 (x y : UInt8) : bits .xor .u8 (x.toNat : Int) (y.toNat : Int) = ((x ^^^ y).toNat : Int) := by
  have hx := x.toNat_lt
  have hy := y.toNat_lt
  rw [u8_xor_nat _ _ (by omega) (by omega), UInt8.toNat_xor]
end Go.Proofs.Ytiionfmpbifbcaa
