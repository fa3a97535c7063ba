/- Small texts that the others stand on, in one. -/
import Derived.WalkKit
import Derived.Laws.IdiomStrings
import Derived.Laws.MakeOwn
import Derived.Lib.ConvBytes
import Derived.ProofKit
import Derived.OpenShut
import Derived.SizedLaws
import Derived.Test.YtohkhcjdjjlfbaaChecked
import Derived.RegionTactic
import Derived.Deep.QuietTactic
import Derived.BigQuiet
import Derived.Laws.AppendOwn
import Derived.Deep.RegionWith
namespace Go.Proofs.Ytohkhcjdjjlfbaa
open Go Go.RowKit
structure ByteRow (B : Nat) (l : List UInt8) (w : World) : Prop where
  lt : B < w.heap.size
  cell : ∀ j (hj : j < l.length), w.cell? ⟨B, j, none⟩ = some (.int .u8 (l[j].toNat : Int))
  free : ∀ j, j < l.length → w.frozen? ⟨B, j, none⟩ = false
theorem ByteRow.drew {B : Nat} {l : List UInt8} {w : World} (h : ByteRow B l w) : ByteRow B l w.drew :=
  ⟨by go_simp; exact h.lt, fun j hj => by go_simp; exact h.cell j hj, fun j hj => by go_simp; exact h.free j hj⟩
theorem ByteRow.set {B : Nat} {l : List UInt8} {w : World} (h : ByteRow B l w) (k : Nat) (hk : k < l.length) (x : UInt8) : ByteRow B (l.set k x) (w.setCell ⟨B, k, none⟩ (.int .u8 (x.toNat : Int))) := by
  refine ⟨?_, ?_, ?_⟩
  · go_simp; exact h.lt
  · intro j hj
    have hj' : j < l.length := by simpa using hj
    by_cases e : k = j
    · subst e
      rw [List.getElem_set_self]
      exact World.cell?_setCell_same _ _ _ (h.cell k hk)
    · rw [List.getElem_set_ne e, ← h.cell j hj']
      exact World.cell?_setCell_other _ _ _ _ (by simp only [ne_eq, Addr.mk.injEq, true_and, and_true]; exact e)
  · intro j hj
    have hj' : j < l.length := by simpa using hj
    rw [World.frozen?_setCell]
    exact h.free j hj'
theorem ByteRow.below {B : Nat} {l : List UInt8} {w w' : World} (h : ByteRow B l w) (hb : Below w.heap.size w w') : ByteRow B l w' :=
  ⟨Nat.lt_of_lt_of_le h.lt hb.size, fun j hj => (hb.cell (p := ⟨B, j, none⟩) h.lt).trans (h.cell j hj), fun j hj => (hb.frozen (p := ⟨B, j, none⟩) h.lt).trans (h.free j hj)⟩
/-- the row behind '[]byte(s)' -/
theorem ByteRow.ofString (w : World) (s : ByteArray) : ByteRow w.heap.size s.data.toList (Lib.bytesWorld w 5 s) := by
  refine ⟨by rw [Lib.bytesWorld_size]; omega, fun j hj => ?_, fun j hj => ?_⟩
  · rw [Lib.bytesWorld_cell w 5 s j (by simpa using hj), List.getD_eq_getElem?_getD, List.getElem?_eq_getElem hj]; rfl
  · have hc : j < (Lib.bytesCells w 5 s).size := by
      simp [Lib.bytesCells]
      have : j < s.size := by simpa using hj
      omega
    unfold World.frozen?
    rw [Lib.bytesWorld_at_new]
    simp
    omega
theorem bytesWorld_below (w : World) (s : ByteArray) : Below w.heap.size w (Lib.bytesWorld w 5 s) :=
  ⟨rfl, rfl, rfl, by rw [Lib.bytesWorld_size]; omega, fun k hk => Lib.bytesWorld_at_old w 5 s k hk⟩
theorem made_get (n j : Nat) (hj : j < n) : (madeCells (Value.int .u8 0).cells n)[j]? = some (.int .u8 0) := by
  simp [madeCells, hj, Value.cells]
  rw [Nat.mod_one]
  rfl
/-- the row behind 'make([]byte, n)' -/
theorem ByteRow.made (w : World) (n : Nat) : ByteRow w.heap.size (List.replicate n 0) (w.alloc (.cells (madeCells (Value.int .u8 0).cells n) 5)) := by
  refine ⟨by go_simp, fun j hj => ?_, fun j hj => ?_⟩
  · have hj' : j < n := by simpa using hj
    rw [World.cell?_alloc_new, made_get n j hj']
    simp
  · go_simp
/-- two rows joined at a place, and the store that moves the place on -/
theorem mix_set (X Y : List UInt8) (k : Nat) (hX : k < X.length) (hY : Y.length = X.length) : (X.take k ++ Y.drop k).set k (X[k]) = X.take (k + 1) ++ Y.drop (k + 1) := by
  apply List.ext_getElem?
  intro i
  rw [List.getElem?_set]
  by_cases e : k = i
  · subst e
    have h1 : k < (X.take k ++ Y.drop k).length := by simp; omega
    rw [if_pos rfl, if_pos h1, List.getElem?_append_left (by simp; omega), List.getElem?_take, if_pos (by omega), List.getElem?_eq_getElem hX]
  · rw [if_neg e]
    by_cases hi : i < k
    · rw [List.getElem?_append_left (by simp; omega), List.getElem?_append_left (by simp; omega), List.getElem?_take, List.getElem?_take, if_pos hi, if_pos (by omega)]
    · rw [List.getElem?_append_right (by simp; omega), List.getElem?_append_right (by simp; omega), List.getElem?_drop, List.getElem?_drop]
      congr 1
      simp
      omega
theorem mix_length (X Y : List UInt8) (k : Nat) (hk : k ≤ X.length) (hY : Y.length = X.length) : (X.take k ++ Y.drop k).length = X.length := by simp; omega
theorem mix_at (X Y : List UInt8) (k : Nat) (hk : k < X.length) (hY : Y.length = X.length) (h : k < (X.take k ++ Y.drop k).length) : (X.take k ++ Y.drop k)[k] = Y[k] := by
  rw [List.getElem_append_right (by simp; omega), List.getElem_drop]
  congr 1
  simp
  omega
theorem ByteRow.step {B : Nat} {X Y : List UInt8} {k : Nat} {w : World} (h : ByteRow B (X.take k ++ Y.drop k) w) (hX : k < X.length) (hY : Y.length = X.length) {v : Int} (hv : v = (X[k].toNat : Int)) :
    ByteRow B (X.take (k + 1) ++ Y.drop (k + 1)) (w.setCell ⟨B, k, none⟩ (.int .u8 v)).drew := by
  rw [hv, ← mix_set X Y k hX hY]
  exact (h.set k (by rw [mix_length X Y k (by omega) hY]; exact hX) _).drew
theorem ByteRow.back {P : Program} {B n cap : Nat} {l : List UInt8} {w : World} (h : ByteRow B l w) (hn : n = l.length) (src dst : TypeId)
    (hs : P.underlying src = some (.slice 5)) (he : P.underlying 5 = some (.int .u8)) (hd : P.underlying dst = some .string) :
    Sem.run P (convert src dst (.slice (some ⟨B, 0, none⟩) n cap)) w = .ok (.string ⟨l.toArray⟩) w := by
  subst hn
  refine run_convert_bytes_back w src dst 5 ⟨B, 0, none⟩ cap l hs he hd (fun j hj => ?_)
  have e : (⟨B, 0, none⟩ : Addr).add j = ⟨B, j, none⟩ := by simp [Addr.add]; omega
  rw [e]
  exact h.cell j hj
theorem mix_end (X Y : List UInt8) (k : Nat) (h : X.length ≤ k) (hY : Y.length = X.length) : X.take k ++ Y.drop k = X := by
  rw [List.take_of_length_le h, List.drop_of_length_le (by omega), List.append_nil]
theorem xor_u8 (x y : UInt8) : bits .xor .u8 (x.toNat : Int) (y.toNat : Int) = ((x ^^^ y).toNat : Int) := by
  have hx := x.toNat_lt
  have hy := y.toNat_lt
  rw [u8_xor_nat _ _ (by omega) (by omega), UInt8.toNat_xor]
end Go.Proofs.Ytohkhcjdjjlfbaa
namespace Go.Proofs.Ytohkhcjdjjlfbaa
open Go Go.RowKit
/-- what was there stands as it stood, but for block B -/
structure But (B : Nat) (w w' : World) : Prop where
  os : w'.os = w.os
  tape : w'.tape = w.tape
  output : w'.output = w.output
  size : w.heap.size ≤ w'.heap.size
  block : ∀ k, k < w.heap.size → k ≠ B → w'.heap[k]? = w.heap[k]?
theorem But.refl (B : Nat) (w : World) : But B w w := ⟨rfl, rfl, rfl, Nat.le_refl _, fun _ _ _ => rfl⟩
theorem But.trans {B : Nat} {w w1 w2 : World} (h : But B w w1) (g : But B w1 w2) : But B w w2 :=
  ⟨g.os.trans h.os, g.tape.trans h.tape, g.output.trans h.output, Nat.le_trans h.size g.size, fun k hk hB => (g.block k (Nat.lt_of_lt_of_le hk h.size) hB).trans (h.block k hk hB)⟩
theorem But.ofBelow {B : Nat} {w w' : World} (h : Below w.heap.size w w') : But B w w' :=
  ⟨h.os, h.tape, h.output, h.size, fun k hk _ => h.block k hk⟩
theorem But.below {B B0 : Nat} {w w' : World} (h : But B w w') (h1 : B0 ≤ B) (h2 : B0 ≤ w.heap.size) : Below B0 w w' :=
  ⟨h.os, h.tape, h.output, h.size, fun k hk => h.block k (by omega) (by omega)⟩
theorem But.setCell {B : Nat} {w w' : World} (h : But B w w') (i : Nat) (v : Value) : But B w (w'.setCell ⟨B, i, none⟩ v) :=
  ⟨by rw [← h.os]; rfl, by rw [← h.tape]; rfl, by rw [← h.output]; rfl, by have := h.size; simpa [World.setCell] using this, fun k hk hB => by
    rw [← h.block k hk hB]
    have : B ≠ k := fun e => hB e.symm
    simp [World.setCell, Array.getElem?_modify, this]⟩
theorem But.drew {B : Nat} {w w' : World} (h : But B w w') : But B w w'.drew := ⟨h.os, h.tape, h.output, h.size, h.block⟩
theorem But.alloc {B : Nat} {w w' : World} (h : But B w w') (o : Obj) : But B w (w'.alloc o) :=
  ⟨h.os, h.tape, h.output, by have := h.size; simp; omega, fun k hk hB => (Below.heap_alloc _ _ _ (Nat.lt_of_lt_of_le hk h.size)).trans (h.block k hk hB)⟩
theorem But.setNew {B R : Nat} {w w' : World} (h : But B w w') (hR : w.heap.size ≤ R) (i : Nat) (v : Value) : But B w (w'.setCell ⟨R, i, none⟩ v) :=
  ⟨h.os, h.tape, h.output, by have := h.size; simpa [World.setCell] using this, fun k hk hB => (Below.heap_setCell _ _ _ _ (by show k ≠ R; omega)).trans (h.block k hk hB)⟩
theorem byte_of (v : Int) (h0 : 0 ≤ v) (h1 : v < 256) : ∃ x : UInt8, v = (x.toNat : Int) :=
  ⟨UInt8.ofNat v.toNat, by rw [UInt8.toNat_ofNat_of_lt' (by show v.toNat < 256; omega)]; omega⟩
theorem But.cell {B : Nat} {w w' : World} (h : But B w w') (k i : Nat) (hk : k < w.heap.size) (hB : k ≠ B) : w'.cell? ⟨k, i, none⟩ = w.cell? ⟨k, i, none⟩ := by
  have := h.block k hk hB
  unfold World.cell?
  simp only [this]
theorem But.frozen {B : Nat} {w w' : World} (h : But B w w') (k i : Nat) (hk : k < w.heap.size) (hB : k ≠ B) : w'.frozen? ⟨k, i, none⟩ = w.frozen? ⟨k, i, none⟩ := by
  have := h.block k hk hB
  unfold World.frozen?
  simp only [this]
theorem ByteRow.but {R B : Nat} {l : List UInt8} {w w' : World} (h : ByteRow R l w) (g : But B w w') (hR : R ≠ B) : ByteRow R l w' :=
  ⟨Nat.lt_of_lt_of_le h.lt g.size, fun j hj => (g.cell R j h.lt hR).trans (h.cell j hj), fun j hj => (g.frozen R j h.lt hR).trans (h.free j hj)⟩
/-- a cursor at block B: the code, the place, the seed; the place at most N -/
structure Cur (B N : Nat) (sv : Value) (w : World) : Prop where
  lt : B < w.heap.size
  code : w.cell? ⟨B, 0, none⟩ = some sv
  place : ∃ p : Int, 0 ≤ p ∧ p ≤ N ∧ w.cell? ⟨B, 1, none⟩ = some (.int .i64 p)
  seed : ∃ s : Int, 0 ≤ s ∧ s < 18446744073709551616 ∧ w.cell? ⟨B, 2, none⟩ = some (.int .u64 s)
  free1 : w.frozen? ⟨B, 1, none⟩ = false
  free2 : w.frozen? ⟨B, 2, none⟩ = false
/-- a slice of bytes in memory below block B -/
structure Code (B len cap : Nat) (a : Option Addr) (w : World) : Prop where
  small : len ≤ 1048576
  cell : 0 < len → ∃ b off, a = some ⟨b, off, none⟩ ∧ b < B ∧ ∀ i, i < len → ∃ z : Int, 0 ≤ z ∧ z < 256 ∧ w.cell? ⟨b, off + i, none⟩ = some (.int .u8 z)
theorem Code.but {B B' len cap : Nat} {a : Option Addr} {w w' : World} (h : Code B len cap a w) (g : But B' w w') (h1 : B ≤ B') (h2 : B ≤ w.heap.size) : Code B len cap a w' := by
  refine ⟨h.small, fun h0 => ?_⟩
  obtain ⟨b, off, e, hb, hc⟩ := h.cell h0
  refine ⟨b, off, e, hb, fun i hi => ?_⟩
  obtain ⟨z, z0, z1, hz⟩ := hc i hi
  exact ⟨z, z0, z1, (g.cell b (off + i) (by omega) (by omega)).trans hz⟩
theorem Cur.below {B N : Nat} {sv : Value} {w w' : World} (h : Cur B N sv w) (g : Below w.heap.size w w') : Cur B N sv w' := by
  have hc : ∀ i, w'.cell? ⟨B, i, none⟩ = w.cell? ⟨B, i, none⟩ := fun i => g.cell (p := ⟨B, i, none⟩) h.lt
  have hf : ∀ i, w'.frozen? ⟨B, i, none⟩ = w.frozen? ⟨B, i, none⟩ := fun i => g.frozen (p := ⟨B, i, none⟩) h.lt
  obtain ⟨p, p0, p1, hp⟩ := h.place
  obtain ⟨s, s0, s1, hs⟩ := h.seed
  exact ⟨Nat.lt_of_lt_of_le h.lt g.size, (hc 0).trans h.code, ⟨p, p0, p1, (hc 1).trans hp⟩, ⟨s, s0, s1, (hc 2).trans hs⟩, (hf 1).trans h.free1, (hf 2).trans h.free2⟩
theorem Cur.but {B B' N : Nat} {sv : Value} {w w' : World} (h : Cur B N sv w) (g : But B' w w') (hB : B ≠ B') : Cur B N sv w' := by
  have hc : ∀ i, w'.cell? ⟨B, i, none⟩ = w.cell? ⟨B, i, none⟩ := fun i => g.cell B i h.lt hB
  have hf : ∀ i, w'.frozen? ⟨B, i, none⟩ = w.frozen? ⟨B, i, none⟩ := fun i => g.frozen B i h.lt hB
  obtain ⟨p, p0, p1, hp⟩ := h.place
  obtain ⟨s, s0, s1, hs⟩ := h.seed
  exact ⟨Nat.lt_of_lt_of_le h.lt g.size, (hc 0).trans h.code, ⟨p, p0, p1, (hc 1).trans hp⟩, ⟨s, s0, s1, (hc 2).trans hs⟩, (hf 1).trans h.free1, (hf 2).trans h.free2⟩
theorem Cur.mono {B N N' : Nat} {sv : Value} {w : World} (h : Cur B N sv w) (hN : N ≤ N') : Cur B N' sv w := by
  obtain ⟨p, p0, p1, hp⟩ := h.place
  exact ⟨h.lt, h.code, ⟨p, p0, by omega, hp⟩, h.seed, h.free1, h.free2⟩
theorem Cur.setOther {B N R : Nat} {sv : Value} {w : World} (h : Cur B N sv w) (hR : R ≠ B) (i : Nat) (v : Value) : Cur B N sv (w.setCell ⟨R, i, none⟩ v) :=
  h.but ((But.refl R w).setCell i v) (fun e => hR e.symm)
theorem Cur.alloc {B N : Nat} {sv : Value} {w : World} (h : Cur B N sv w) (o : Obj) : Cur B N sv (w.alloc o) := h.below ((Below.refl _ _).alloc (Nat.le_refl _) o)
/-- the cursor goes a place on -/
theorem Cur.step {B N : Nat} {sv : Value} {w : World} (h : Cur B N sv w) (p s : Int) (p0 : 0 ≤ p) (p1 : p ≤ N) (s0 : 0 ≤ s) (s1 : s < 18446744073709551616) :
    Cur B (N + 1) sv ((w.setCell ⟨B, 1, none⟩ (.int .i64 (p + 1))).setCell ⟨B, 2, none⟩ (.int .u64 s)) := by
  obtain ⟨q, _, _, hq⟩ := h.place
  obtain ⟨r, _, _, hr⟩ := h.seed
  have e12 : (⟨B, 1, none⟩ : Addr) ≠ ⟨B, 2, none⟩ := by simp
  have e10 : (⟨B, 1, none⟩ : Addr) ≠ ⟨B, 0, none⟩ := by simp
  have e20 : (⟨B, 2, none⟩ : Addr) ≠ ⟨B, 0, none⟩ := by simp
  have e21 : (⟨B, 2, none⟩ : Addr) ≠ ⟨B, 1, none⟩ := by simp
  refine ⟨by simpa [World.setCell] using h.lt, ?_, ⟨p + 1, by omega, by omega, ?_⟩, ⟨s, s0, s1, ?_⟩, ?_, ?_⟩
  · rw [World.cell?_setCell_other _ _ _ _ e20, World.cell?_setCell_other _ _ _ _ e10]; exact h.code
  · rw [World.cell?_setCell_other _ _ _ _ e21]; exact World.cell?_setCell_same _ _ _ hq
  · exact World.cell?_setCell_same _ _ _ ((World.cell?_setCell_other _ _ _ _ e12).trans hr)
  · rw [World.frozen?_setCell, World.frozen?_setCell]; exact h.free1
  · rw [World.frozen?_setCell, World.frozen?_setCell]; exact h.free2
theorem Cur.drew {B N : Nat} {sv : Value} {w : World} (h : Cur B N sv w) : Cur B N sv w.drew := ⟨h.lt, h.code, h.place, h.seed, h.free1, h.free2⟩
theorem Cur.start (sv : Value) (T : TypeId) (w : World) : Cur w.heap.size 0 sv (w.alloc (.cells #[sv, .int .i64 0, .int .u64 0] T)) :=
  ⟨by simp, by rw [World.cell?_alloc_new]; rfl, ⟨0, by omega, by omega, by rw [World.cell?_alloc_new]; rfl⟩, ⟨0, by omega, by omega, by rw [World.cell?_alloc_new]; rfl⟩, by go_simp, by go_simp⟩
theorem Code.start {len cap : Nat} {a : Option Addr} {w : World} (h : Code w.heap.size len cap a w) (o : Obj) : Code w.heap.size len cap a (w.alloc o) :=
  h.but ((But.refl w.heap.size _).alloc o) (Nat.le_refl _) (Nat.le_refl _)
theorem Code.below {B len cap : Nat} {a : Option Addr} {w w' : World} (h : Code B len cap a w) (g : Below B w w') : Code B len cap a w' := by
  refine ⟨h.small, fun h0 => ?_⟩
  obtain ⟨b, off, e, hb, hc⟩ := h.cell h0
  refine ⟨b, off, e, hb, fun i hi => ?_⟩
  obtain ⟨z, z0, z1, hz⟩ := hc i hi
  exact ⟨z, z0, z1, (g.cell (p := ⟨b, off + i, none⟩) hb).trans hz⟩
theorem Code.mono {B B' len cap : Nat} {a : Option Addr} {w : World} (h : Code B len cap a w) (hB : B ≤ B') : Code B' len cap a w :=
  ⟨h.small, fun h0 => by obtain ⟨b, off, e, hb, hc⟩ := h.cell h0; exact ⟨b, off, e, by omega, hc⟩⟩
theorem But.done {w w' : World} {o : Obj} (h : But w.heap.size (w.alloc o) w') : Below w.heap.size w w' :=
  ((Below.refl _ _).alloc (Nat.le_refl _) o).trans (h.below (Nat.le_refl _) (by simp))
end Go.Proofs.Ytohkhcjdjjlfbaa
namespace Go.Proofs.Ytohkhcjdjjlfbaa
open Go Go.ChangeShapes Go.WideShapes Go.ChangeAt Go.RowKit
theorem code_of {H : Type} {enc : TypeId × Value → H} {P : Program} {t : TypeId} (ht : P.underlying t = some (.slice 5)) (he : P.underlying 5 = some (.int .u8)) (hc : P.cellsOf 5 = 1)
    {W : World} {a : Option Addr} {len cap : Nat} {d : DataW H} {p : List MemPlace} (h : DataW.Trod enc P W 0 (fun _ => true) true t (.slice a len cap) d p) :
    (len = 0 ∨ ∃ zs : List Int, zs.length = cap ∧ len ≤ cap ∧ d = .slice (lits .u8 (zs.take len)) (lits .u8 (zs.drop len))) ∧ (len ≤ 1048576 → Code W.heap.size len cap a W) := by
  obtain ⟨fuel, hf⟩ := h
  rcases open_ints ht he hc hf with ⟨hcs, hx⟩ | ⟨x, l, c, zs, hcs, _, hl, hm, hz, hx, hcell, hwz⟩
  · simp [Value.cells] at hcs
    obtain ⟨rfl, rfl, rfl⟩ := hcs
    exact ⟨Or.inl rfl, fun _ => ⟨by omega, fun h0 => absurd h0 (Nat.lt_irrefl _)⟩⟩
  · simp [Value.cells] at hcs
    obtain ⟨rfl, rfl, rfl⟩ := hcs
    have hz' : zs.length = cap := by simpa using hz
    have hd : d = .slice (lits .u8 (zs.take len)) (lits .u8 (zs.drop len)) := congrArg Prod.fst hx
    refine ⟨Or.inr ⟨zs, hz', hl, hd⟩, fun hs => ⟨hs, fun h0 => ?_⟩⟩
    obtain ⟨b, off, rfl, hc2⟩ := ints_at hcell (by omega)
    refine ⟨b, off, rfl, World.block_lt_of_cell? _ _ (hc2 0 (by omega)), fun i hi => ?_⟩
    have hm2 : zs.getD i 0 ∈ zs := by
      rw [List.getD_eq_getElem?_getD, List.getElem?_eq_getElem (by omega)]
      exact List.getElem_mem _
    have hb := bounds_u8 (hwz _ hm2)
    exact ⟨zs.getD i 0, by omega, by omega, hc2 i (by omega)⟩
theorem code_len {H : Type} {P : Program} {ts : List TypeId} {ds : List (DataW H)} (h : (DataW.weightsEach P ts ds).all (· ≤ reachBytes) = true) {j : Nat} {t : TypeId} {len cap : Nat} {zs : List Int}
    (hz : zs.length = cap) (hl : len ≤ cap) (ht : ts[j]? = some t) (hd : ds[j]? = some (.slice (lits .u8 (zs.take len)) (lits .u8 (zs.drop len)))) (hu : P.underlying t = some (.slice 5)) (hb : P.bytesOf 5 = 1) : len ≤ 4611686018427387903 := by
  have := sized_slice h ht hd hu
  have hr := reachBytes_lt
  rw [hb] at this
  simp [lits] at this
  omega
end Go.Proofs.Ytohkhcjdjjlfbaa
namespace Go.Proofs.Ytohkhcjdjjlfbaa
open Go Go.RowKit
theorem heap_last (w : World) (o : Obj) : (w.alloc o).heap[w.heap.size]? = some o := by
  show (w.heap.push o)[w.heap.size]? = _
  rw [Array.getElem?_push_size]
theorem heap_size (w : World) (o : Obj) : (w.alloc o).heap.size = w.heap.size + 1 := by simp
theorem heap_last2 (w : World) (a o : Obj) : ((w.alloc a).alloc o).heap[w.heap.size + 1]? = some o := by
  rw [← heap_size w a]; exact heap_last _ _
theorem heap_mid2 (w : World) (a o : Obj) : ((w.alloc a).alloc o).heap[w.heap.size]? = some a := by
  rw [Below.heap_alloc _ _ _ (by rw [heap_size]; omega)]; exact heap_last _ _
theorem heap_last3 (w : World) (a b o : Obj) : (((w.alloc a).alloc b).alloc o).heap[w.heap.size + 1 + 1]? = some o := by
  rw [← heap_size w a, ← heap_size (w.alloc a) b]; exact heap_last _ _
theorem heap_mid3 (w : World) (a b o : Obj) : (((w.alloc a).alloc b).alloc o).heap[w.heap.size + 1]? = some b := by
  rw [Below.heap_alloc _ _ _ (by rw [heap_size, heap_size]; omega)]; exact heap_last2 _ _ _
/-- a row that a call itself has made, at block R: s cells an element -/
structure GRow (R s : Nat) (rows : List (List Value)) (w : World) : Prop where
  lt : R < w.heap.size
  wide : ∀ i (hi : i < rows.length), rows[i].length = s
  cell : ∀ i (hi : i < rows.length) j, j < s → w.cell? ⟨R, i * s + j, none⟩ = rows[i][j]?
  free : ∀ j, j < rows.length * s → w.frozen? ⟨R, j, none⟩ = false
theorem at_inj {s i j k l : Nat} (hj : j < s) (hl : l < s) (h : i * s + j = k * s + l) : i = k ∧ j = l := by
  have h1 : (i * s + j) / s = i := by rw [Nat.mul_comm, Nat.mul_add_div (by omega), Nat.div_eq_of_lt hj]; rfl
  have h2 : (k * s + l) / s = k := by rw [Nat.mul_comm, Nat.mul_add_div (by omega), Nat.div_eq_of_lt hl]; rfl
  have e : i = k := by rw [← h1, h, h2]
  subst e
  omega
theorem at_lt {s i j n : Nat} (hi : i < n) (hj : j < s) : i * s + j < n * s := by
  have : (i + 1) * s ≤ n * s := Nat.mul_le_mul_right s hi
  rw [Nat.add_mul, Nat.one_mul] at this
  omega
theorem GRow.set {R s : Nat} {rows : List (List Value)} {w : World} (h : GRow R s rows w) (k j : Nat) (hk : k < rows.length) (hj : j < s) (v : Value) :
    GRow R s (rows.set k (rows[k].set j v)) (w.setCell ⟨R, k * s + j, none⟩ v) := by
  refine ⟨by simpa [World.setCell] using h.lt, ?_, ?_, ?_⟩
  · intro i hi
    have hi' : i < rows.length := by simpa using hi
    rw [List.getElem_set]
    split
    · rw [List.length_set]; exact h.wide k hk
    · exact h.wide i hi'
  · intro i hi l hl
    have hi' : i < rows.length := by simpa using hi
    by_cases e : i = k
    · subst e
      have hkey : (rows.set i (rows[i].set j v))[i] = rows[i].set j v := List.getElem_set_self _
      rw [hkey]
      by_cases e2 : l = j
      · subst e2
        have hw := h.wide i hi'
        have hc := h.cell i hi' l hl
        rw [List.getElem?_eq_getElem (by omega)] at hc
        rw [World.cell?_setCell_same _ _ _ hc, List.getElem?_set_self (by omega)]
      · rw [List.getElem?_set_ne (fun e3 => e2 e3.symm), ← h.cell i hi' l hl]
        exact World.cell?_setCell_other _ _ _ _ (fun e3 => by
          have h3 : i * s + j = i * s + l := congrArg Addr.off e3
          omega)
    · have hkey : (rows.set k (rows[k].set j v))[i] = rows[i] := List.getElem_set_ne (fun e3 => e e3.symm) _
      rw [hkey, ← h.cell i hi' l hl]
      exact World.cell?_setCell_other _ _ _ _ (fun e3 => by
        have h3 : k * s + j = i * s + l := congrArg Addr.off e3
        exact e (at_inj hj hl h3).1.symm)
  · intro l hl
    rw [World.frozen?_setCell]
    exact h.free l (by simpa using hl)
theorem GRow.drew {R s : Nat} {rows : List (List Value)} {w : World} (h : GRow R s rows w) : GRow R s rows w.drew := ⟨h.lt, h.wide, h.cell, h.free⟩
theorem GRow.below {R s : Nat} {rows : List (List Value)} {w w' : World} (h : GRow R s rows w) (hb : Below w.heap.size w w') : GRow R s rows w' :=
  ⟨Nat.lt_of_lt_of_le h.lt hb.size, h.wide, fun i hi j hj => (hb.cell (p := ⟨R, _, none⟩) h.lt).trans (h.cell i hi j hj), fun j hj => (hb.frozen (p := ⟨R, _, none⟩) h.lt).trans (h.free j hj)⟩
/-- nothing of block R has turned -/
theorem GRow.same {R s : Nat} {rows : List (List Value)} {w w' : World} (h : GRow R s rows w) (hs : w.heap.size ≤ w'.heap.size) (hb : w'.heap[R]? = w.heap[R]?) : GRow R s rows w' := by
  have hc : ∀ o, w'.cell? ⟨R, o, none⟩ = w.cell? ⟨R, o, none⟩ := fun o => by unfold World.cell?; simp only [hb]
  have hf : ∀ o, w'.frozen? ⟨R, o, none⟩ = w.frozen? ⟨R, o, none⟩ := fun o => by unfold World.frozen?; simp only [hb]
  exact ⟨Nat.lt_of_lt_of_le h.lt hs, h.wide, fun i hi j hj => (hc _).trans (h.cell i hi j hj), fun j hj => (hf _).trans (h.free j hj)⟩
/-- the row behind 'make([]T, n)': n elements, each its type's zero value -/
theorem GRow.made (w : World) (T : TypeId) (n : Nat) (z : Array Value) : GRow w.heap.size z.size (List.replicate n z.toList) (w.alloc (.cells (madeCells z (n * z.size)) T)) := by
  refine ⟨by go_simp, ?_, ?_, ?_⟩
  · intro i hi
    rw [List.getElem_replicate]; simp
  · intro i hi j hj
    have hi' : i < n := by simpa using hi
    have hlt := at_lt hi' hj
    rw [World.cell?_alloc_new, List.getElem_replicate]
    have e : (i * z.size + j) % z.size = j := by rw [Nat.mul_comm, Nat.mul_add_mod, Nat.mod_eq_of_lt hj]
    simp [madeCells, hlt, e, hj]
  · intro j hj
    go_simp
/-- a slice of structs that came in, in memory below block B -/
structure GSl (B s : Nat) (a : Option Addr) (rows : List (List Value)) (w : World) : Prop where
  cell : 0 < rows.length → ∃ b off, a = some ⟨b, off, none⟩ ∧ b < B ∧ ∀ i (hi : i < rows.length) j, j < s → w.cell? ⟨b, off + i * s + j, none⟩ = rows[i][j]?
theorem GSl.below {B s : Nat} {a : Option Addr} {rows : List (List Value)} {w w' : World} (h : GSl B s a rows w) (g : Below B w w') : GSl B s a rows w' := by
  refine ⟨fun h0 => ?_⟩
  obtain ⟨b, off, e, hb, hc⟩ := h.cell h0
  exact ⟨b, off, e, hb, fun i hi j hj => (g.cell (p := ⟨b, _, none⟩) hb).trans (hc i hi j hj)⟩
theorem GSl.mono {B B' s : Nat} {a : Option Addr} {rows : List (List Value)} {w : World} (h : GSl B s a rows w) (hB : B ≤ B') : GSl B' s a rows w :=
  ⟨fun h0 => by obtain ⟨b, off, e, hb, hc⟩ := h.cell h0; exact ⟨b, off, e, by omega, hc⟩⟩
/-- a made row read as a slice -/
theorem GRow.sl {R s B : Nat} {rows : List (List Value)} {w : World} (h : GRow R s rows w) (hB : R < B) : GSl B s (some ⟨R, 0, none⟩) rows w :=
  ⟨fun _ => ⟨R, 0, rfl, hB, fun i hi j hj => by rw [Nat.zero_add]; exact h.cell i hi j hj⟩⟩
end Go.Proofs.Ytohkhcjdjjlfbaa
namespace Go.Proofs.Ytohkhcjdjjlfbaa
open Go Go.RowKit
/-- what was there stands as it stood, but for the blocks lo .. hi - 1 -/
structure Out (lo hi : Nat) (w w' : World) : Prop where
  os : w'.os = w.os
  tape : w'.tape = w.tape
  output : w'.output = w.output
  size : w.heap.size ≤ w'.heap.size
  block : ∀ k, k < w.heap.size → (k < lo ∨ hi ≤ k) → w'.heap[k]? = w.heap[k]?
theorem Out.refl (lo hi : Nat) (w : World) : Out lo hi w w := ⟨rfl, rfl, rfl, Nat.le_refl _, fun _ _ _ => rfl⟩
theorem Out.ofBelow {lo hi : Nat} {w w' : World} (h : Below w.heap.size w w') : Out lo hi w w' := ⟨h.os, h.tape, h.output, h.size, fun k hk _ => h.block k hk⟩
theorem Out.ofBut {lo hi R : Nat} {w w' : World} (h : But R w w') (h1 : lo ≤ R) (h2 : R < hi) : Out lo hi w w' := ⟨h.os, h.tape, h.output, h.size, fun k hk hb => h.block k hk (by omega)⟩
theorem Out.trans {lo hi : Nat} {w w1 w2 : World} (h : Out lo hi w w1) (g : Out lo hi w1 w2) : Out lo hi w w2 :=
  ⟨g.os.trans h.os, g.tape.trans h.tape, g.output.trans h.output, Nat.le_trans h.size g.size, fun k hk hb => (g.block k (Nat.lt_of_lt_of_le hk h.size) hb).trans (h.block k hk hb)⟩
theorem Out.alloc {lo hi : Nat} {w w' : World} (h : Out lo hi w w') (o : Obj) : Out lo hi w (w'.alloc o) :=
  ⟨h.os, h.tape, h.output, by have := h.size; simp; omega, fun k hk hb => (Below.heap_alloc _ _ _ (Nat.lt_of_lt_of_le hk h.size)).trans (h.block k hk hb)⟩
theorem Out.below {lo hi B : Nat} {w w' : World} (h : Out lo hi w w') (h1 : B ≤ lo) (h2 : B ≤ w.heap.size) : Below B w w' :=
  ⟨h.os, h.tape, h.output, h.size, fun k hk => h.block k (by omega) (by omega)⟩
/-- cells of the law's own variables: each a block of one cell -/
def Loc (L : List (Nat × Value × TypeId)) (w : World) : Prop := ∀ x ∈ L, w.heap[x.1]? = some (.cells #[x.2.1] x.2.2)
theorem Loc.nil (w : World) : Loc [] w := fun _ h => by cases h
theorem Loc.cons {x : Nat × Value × TypeId} {L : List (Nat × Value × TypeId)} {w : World} (h : w.heap[x.1]? = some (.cells #[x.2.1] x.2.2)) (g : Loc L w) : Loc (x :: L) w := fun y hy => by
  rcases List.mem_cons.1 hy with rfl | hy
  · exact h
  · exact g y hy
theorem Loc.lt {L : List (Nat × Value × TypeId)} {w : World} (h : Loc L w) (x : Nat × Value × TypeId) (hx : x ∈ L) : x.1 < w.heap.size := by
  rcases Nat.lt_or_ge x.1 w.heap.size with h' | h'
  · exact h'
  · have := h x hx
    rw [Array.getElem?_eq_none h'] at this; cases this
theorem Loc.out {L : List (Nat × Value × TypeId)} {lo hi : Nat} {w w' : World} (h : Loc L w) (g : Out lo hi w w') (hL : ∀ x ∈ L, x.1 < lo ∨ hi ≤ x.1) : Loc L w' := fun x hx =>
  (g.block x.1 (h.lt x hx) (hL x hx)).trans (h x hx)
theorem Loc.below {L : List (Nat × Value × TypeId)} {w w' : World} (h : Loc L w) (g : Below w.heap.size w w') : Loc L w' := fun x hx =>
  (g.block x.1 (h.lt x hx)).trans (h x hx)
theorem Loc.alloc {L : List (Nat × Value × TypeId)} {w : World} (h : Loc L w) (v : Value) (t : TypeId) : Loc ((w.heap.size, v, t) :: L) (w.alloc (.cells #[v] t)) := by
  refine Loc.cons ?_ (h.below ((Below.refl _ _).alloc (Nat.le_refl _) _))
  show (w.heap.push _)[w.heap.size]? = _
  rw [Array.getElem?_push_size]
theorem Loc.cell {L : List (Nat × Value × TypeId)} {w : World} (h : Loc L w) (k : Nat) (v : Value) (t : TypeId) (hx : (k, v, t) ∈ L) : w.cell? ⟨k, 0, none⟩ = some v := by
  have := h _ hx
  unfold World.cell?
  rw [this]
  rfl
theorem Loc.free {L : List (Nat × Value × TypeId)} {w : World} (h : Loc L w) (k : Nat) (v : Value) (t : TypeId) (hx : (k, v, t) ∈ L) : w.frozen? ⟨k, 0, none⟩ = false := by
  have := h _ hx
  unfold World.frozen?
  rw [this]
  rfl
theorem Loc.set {L : List (Nat × Value × TypeId)} {w : World} (h : Loc L w) (R i : Nat) (v : Value) (hL : ∀ x ∈ L, x.1 ≠ R) : Loc L (w.setCell ⟨R, i, none⟩ v) := fun x hx =>
  (Below.heap_setCell _ _ _ _ (hL x hx)).trans (h x hx)
end Go.Proofs.Ytohkhcjdjjlfbaa
namespace Go.Proofs.Ytohkhcjdjjlfbaa
set_option maxRecDepth 100000
open Go Go.ChangeShapes Go.WideShapes Go.ChangeAt Go.RowKit
def icell (n : Int) : List Value := [.int .i64 n]
/-- a slice of numbers in memory below block B -/
def Is (B : Nat) (a : Option Addr) (l : List Int) (w : World) : Prop := GSl B 1 a (l.map icell) w
theorem Is.cell {B : Nat} {a : Option Addr} {l : List Int} {w : World} (h : Is B a l w) (h0 : 0 < l.length) : ∃ b off, a = some ⟨b, off, none⟩ ∧ b < B ∧ ∀ i (hi : i < l.length), w.cell? ⟨b, off + i, none⟩ = some (.int .i64 l[i]) := by
  obtain ⟨b, off, e, hb, hc⟩ := GSl.cell h (by simpa using h0)
  refine ⟨b, off, e, hb, fun i hi => ?_⟩
  have c0 := hc i (by simpa using hi) 0 (by decide)
  rw [List.getElem_map, Nat.mul_one, Nat.add_zero] at c0
  exact c0
theorem Is.below {B : Nat} {a : Option Addr} {l : List Int} {w w' : World} (h : Is B a l w) (g : Below B w w') : Is B a l w' := GSl.below h g
theorem Is.mono {B B' : Nat} {a : Option Addr} {l : List Int} {w : World} (h : Is B a l w) (hB : B ≤ B') : Is B' a l w := GSl.mono h hB
/-- a row of numbers that a call itself has made -/
def IRow (R : Nat) (l : List Int) (w : World) : Prop := GRow R 1 (l.map icell) w
theorem IRow.lt {R : Nat} {l : List Int} {w : World} (h : IRow R l w) : R < w.heap.size := GRow.lt h
theorem IRow.cell {R : Nat} {l : List Int} {w : World} (h : IRow R l w) (i : Nat) (hi : i < l.length) : w.cell? ⟨R, i, none⟩ = some (.int .i64 l[i]) := by
  have c0 := GRow.cell h i (by simpa using hi) 0 (by decide)
  rw [List.getElem_map, Nat.mul_one, Nat.add_zero] at c0
  exact c0
theorem IRow.free {R : Nat} {l : List Int} {w : World} (h : IRow R l w) (j : Nat) (hj : j < l.length) : w.frozen? ⟨R, j, none⟩ = false := GRow.free h j (by simpa using hj)
theorem IRow.below {R : Nat} {l : List Int} {w w' : World} (h : IRow R l w) (hb : Below w.heap.size w w') : IRow R l w' := GRow.below h hb
theorem IRow.same {R : Nat} {l : List Int} {w w' : World} (h : IRow R l w) (hs : w.heap.size ≤ w'.heap.size) (hb : w'.heap[R]? = w.heap[R]?) : IRow R l w' := GRow.same h hs hb
theorem IRow.sl {R B : Nat} {l : List Int} {w : World} (h : IRow R l w) (hB : R < B) : Is B (some ⟨R, 0, none⟩) l w := GRow.sl h hB
theorem IRow.set {R : Nat} {l : List Int} {w : World} (h : IRow R l w) (k : Nat) (hk : k < l.length) (n : Int) : IRow R (l.set k n) (w.setCell ⟨R, k, none⟩ (.int .i64 n)) := by
  have hk' : k < (l.map icell).length := by simpa using hk
  have := GRow.set h k 0 hk' (by decide) (.int .i64 n)
  rw [Nat.mul_one, Nat.add_zero] at this
  unfold IRow
  have e : (l.set k n).map icell = (l.map icell).set k ((l.map icell)[k].set 0 (.int .i64 n)) := by
    rw [List.map_set, List.getElem_map]; rfl
  rw [e]
  exact this
/-- numbers that are owned in blocks lo .. hi - 1 (or none) -/
def OwnI (lo hi : Nat) (a : Option Addr) (l : List Int) (w : World) : Prop := l = [] ∨ ∃ R, lo ≤ R ∧ R < hi ∧ a = some ⟨R, 0, none⟩ ∧ IRow R l w
theorem OwnI.out {lo hi l2 h2 : Nat} {a : Option Addr} {l : List Int} {w w' : World} (h : OwnI lo hi a l w) (g : Out l2 h2 w w') (hd : hi ≤ l2 ∨ h2 ≤ lo) : OwnI lo hi a l w' := by
  rcases h with h | ⟨R, h1, h3, e, hr⟩
  · exact Or.inl h
  · exact Or.inr ⟨R, h1, h3, e, hr.same g.size (g.block R hr.lt (by omega))⟩
theorem OwnI.below {lo hi : Nat} {a : Option Addr} {l : List Int} {w w' : World} (h : OwnI lo hi a l w) (g : Below w.heap.size w w') : OwnI lo hi a l w' := by
  rcases h with h | ⟨R, h1, h3, e, hr⟩
  · exact Or.inl h
  · exact Or.inr ⟨R, h1, h3, e, hr.below g⟩
theorem OwnI.is {lo hi : Nat} {a : Option Addr} {l : List Int} {w : World} (h : OwnI lo hi a l w) : Is w.heap.size a l w := by
  rcases h with rfl | ⟨R, h1, h3, rfl, hr⟩
  · exact ⟨fun h0 => absurd h0 (by simp)⟩
  · exact hr.sl hr.lt
end Go.Proofs.Ytohkhcjdjjlfbaa
namespace G00541
structure Sx where
  at_ : Int
  long : Int
  place : Int
deriving DecidableEq
def goodX (x : Sx) : Bool := decide (1 ≤ x.long ∧ x.long ≤ 16 ∧ 0 ≤ x.at_ ∧ x.at_ ≤ 16 - x.long ∧ 0 ≤ x.place ∧ x.place ≤ 10001 - x.long)
theorem goodX_iff (x : Sx) : goodX x = true ↔ (1 ≤ x.long ∧ x.long ≤ 16 ∧ 0 ≤ x.at_ ∧ x.at_ ≤ 16 - x.long ∧ 0 ≤ x.place ∧ x.place ≤ 10001 - x.long) := by
  unfold goodX; rw [decide_eq_true_iff]
/-- x may lie right behind y -/
def apart (y x : Sx) : Bool := decide (y.at_ + y.long ≤ x.at_ ∧ ¬ (x.at_ = y.at_ + y.long ∧ x.place = y.place + y.long))
theorem apart_iff (y x : Sx) : apart y x = true ↔ (y.at_ + y.long ≤ x.at_ ∧ ¬ (x.at_ = y.at_ + y.long ∧ x.place = y.place + y.long)) := by
  unfold apart; rw [decide_eq_true_iff]
def behind : Option Sx → Sx → Bool
  | none, _ => true
  | some y, x => apart y x
def chain : Option Sx → List Sx → Bool
  | _, [] => true
  | o, x :: l => goodX x && behind o x && chain (some x) l
def goodM (m : List Sx) : Bool := chain none m
/-- the last one of m, o where there is none -/
def lastO : Option Sx → List Sx → Option Sx
  | o, [] => o
  | _, x :: l => lastO (some x) l
theorem lastO_snoc : ∀ (o : Option Sx) (l : List Sx) (x : Sx), lastO o (l ++ [x]) = some x
  | _, [], _ => rfl
  | _, y :: l, x => lastO_snoc (some y) l x
theorem chain_snoc : ∀ (o : Option Sx) (l : List Sx) (x : Sx), chain o (l ++ [x]) = (chain o l && goodX x && behind (lastO o l) x)
  | o, [], x => by simp [chain, lastO]
  | o, y :: l, x => by
    show (goodX y && behind o y && chain (some y) (l ++ [x])) = (goodX y && behind o y && chain (some y) l && goodX x && behind (lastO (some y) l) x)
    rw [chain_snoc (some y) l x]
    simp only [Bool.and_assoc]
theorem goodM_snoc (l : List Sx) (x : Sx) : goodM (l ++ [x]) = (goodM l && goodX x && behind (lastO none l) x) := chain_snoc none l x
theorem snoc_of : ∀ (l : List Sx), l ≠ [] → ∃ L y, l = L ++ [y]
  | l, h => ⟨l.dropLast, l.getLast h, (List.dropLast_concat_getLast h).symm⟩
/-- the place of block b -/
def pl (m : List Sx) (b : Int) : Int := m.foldl (fun acc x => if x.at_ ≤ b ∧ b < x.at_ + x.long then x.place + (b - x.at_) else acc) (-1)
def plA (acc : Int) (m : List Sx) (b : Int) : Int := m.foldl (fun acc x => if x.at_ ≤ b ∧ b < x.at_ + x.long then x.place + (b - x.at_) else acc) acc
theorem pl_A (m : List Sx) (b : Int) : pl m b = plA (-1) m b := rfl
theorem pl_nil (b : Int) : pl [] b = -1 := rfl
theorem pl_snoc (m : List Sx) (x : Sx) (b : Int) : pl (m ++ [x]) b = if x.at_ ≤ b ∧ b < x.at_ + x.long then x.place + (b - x.at_) else pl m b := by
  unfold pl; rw [List.foldl_append]; rfl
theorem plA_cons (acc : Int) (x : Sx) (m : List Sx) (b : Int) : plA acc (x :: m) b = plA (if x.at_ ≤ b ∧ b < x.at_ + x.long then x.place + (b - x.at_) else acc) m b := rfl
theorem plA_none (acc : Int) : ∀ (m : List Sx) (b : Int), (∀ x ∈ m, b < x.at_) → plA acc m b = acc
  | [], _, _ => rfl
  | x :: m, b, h => by
    rw [plA_cons, if_neg (by have := h x List.mem_cons_self; omega)]
    exact plA_none acc m b fun y hy => h y (List.mem_cons_of_mem _ hy)
theorem chain_from : ∀ (o : Option Sx) (m : List Sx) (lo : Int), chain o m = true → (∀ y, o = some y → lo ≤ y.at_ + y.long) → (o = none → lo ≤ 0) → ∀ x ∈ m, lo ≤ x.at_
  | _, [], _, _, _, _, _, hx => by cases hx
  | o, x :: m, lo, h, ho, hn, z, hz => by
    unfold chain at h
    rw [Bool.and_eq_true, Bool.and_eq_true, goodX_iff] at h
    obtain ⟨⟨hg, hb⟩, hc⟩ := h
    have hx : lo ≤ x.at_ := by
      cases o with
      | none => have := hn rfl; omega
      | some y =>
        have := ho y rfl
        have hb' : apart y x = true := hb
        rw [apart_iff] at hb'
        omega
    rcases List.mem_cons.1 hz with rfl | hz
    · exact hx
    · exact chain_from (some x) m lo hc (fun y hy => by cases hy; omega) (fun h => by cases h) z hz
theorem chain_inj : ∀ (m n : List Sx) (o p : Option Sx) (lo : Int), chain o m = true → chain p n = true → (∀ x ∈ m, lo ≤ x.at_) → (∀ x ∈ n, lo ≤ x.at_) → (∀ b, lo ≤ b → plA (-1) m b = plA (-1) n b) → m = n
  | [], [], _, _, _, _, _, _, _, _ => rfl
  | [], y :: n, o, p, lo, _, hn, _, hl, h => by
    unfold chain at hn
    rw [Bool.and_eq_true, Bool.and_eq_true, goodX_iff] at hn
    have hy := hl y List.mem_cons_self
    have := h y.at_ hy
    rw [plA_cons, if_pos (by omega), plA_none _ n _ (fun z hz => by have := chain_from (some y) n (y.at_ + y.long) hn.2 (fun z hz => by cases hz; omega) (fun h => by cases h) z hz; omega)] at this
    have e : plA (-1) [] y.at_ = -1 := rfl
    omega
  | x :: m, [], o, p, lo, hm, _, hl, _, h => by
    unfold chain at hm
    rw [Bool.and_eq_true, Bool.and_eq_true, goodX_iff] at hm
    have hx := hl x List.mem_cons_self
    have := h x.at_ hx
    rw [plA_cons, if_pos (by omega), plA_none _ m _ (fun z hz => by have := chain_from (some x) m (x.at_ + x.long) hm.2 (fun z hz => by cases hz; omega) (fun h => by cases h) z hz; omega)] at this
    have e : plA (-1) [] x.at_ = -1 := rfl
    omega
  | x :: m, y :: n, o, p, lo, hm, hn, hl, hk, h => by
    unfold chain at hm hn
    rw [Bool.and_eq_true, Bool.and_eq_true, goodX_iff] at hm hn
    obtain ⟨⟨gx, _⟩, cm⟩ := hm
    obtain ⟨⟨gy, _⟩, cn⟩ := hn
    have fm := chain_from (some x) m (x.at_ + x.long) cm (fun z hz => by cases hz; omega) (fun h => by cases h)
    have fn := chain_from (some y) n (y.at_ + y.long) cn (fun z hz => by cases hz; omega) (fun h => by cases h)
    have hx := hl x List.mem_cons_self
    have hy := hk y List.mem_cons_self
    have e1 := h x.at_ hx
    have e2 := h y.at_ hy
    rw [plA_cons, if_pos (by omega), plA_none _ m _ (fun z hz => by have := fm z hz; omega)] at e1
    rw [plA_cons _ y, if_pos (by omega), plA_none _ n _ (fun z hz => by have := fn z hz; omega)] at e2
    have hat : x.at_ = y.at_ := by
      rcases Int.lt_trichotomy x.at_ y.at_ with hlt | heq | hlt
      · rw [plA_cons, if_neg (by omega), plA_none _ n _ (fun z hz => by have := fn z hz; omega)] at e1
        omega
      · exact heq
      · rw [plA_cons, if_neg (by omega), plA_none _ m _ (fun z hz => by have := fm z hz; omega)] at e2
        omega
    have hpl : x.place = y.place := by
      rw [plA_cons, if_pos (by omega), plA_none _ n _ (fun z hz => by have := fn z hz; omega)] at e1
      omega
    have key : ∀ (x y : Sx) (m : List Sx), (1 ≤ x.long ∧ x.long ≤ 16 ∧ 0 ≤ x.at_ ∧ x.at_ ≤ 16 - x.long ∧ 0 ≤ x.place ∧ x.place ≤ 10001 - x.long) → x.at_ = y.at_ → x.place = y.place → chain (some x) m = true → plA (-1) m (x.at_ + x.long) = y.place + x.long → False := by
      intro x y m gx hat hpl cm hv
      cases m with
      | nil =>
        have e : plA (-1) [] (x.at_ + x.long) = -1 := rfl
        omega
      | cons z m =>
        unfold chain at cm
        rw [Bool.and_eq_true, Bool.and_eq_true, goodX_iff] at cm
        obtain ⟨⟨gz, hb⟩, cz⟩ := cm
        have hb' : apart x z = true := hb
        rw [apart_iff] at hb'
        have fz := chain_from (some z) m (z.at_ + z.long) cz (fun z hz => by cases hz; omega) (fun h => by cases h)
        rw [plA_cons, plA_none _ m _ (fun u hu => by have := fz u hu; omega)] at hv
        split at hv <;> omega
    have hlong : x.long = y.long := by
      rcases Int.lt_trichotomy x.long y.long with hlt | heq | hlt
      · exfalso
        have e3 := h (x.at_ + x.long) (by omega)
        rw [plA_cons, if_neg (by omega), plA_cons, if_pos (by omega), plA_none _ n _ (fun z hz => by have := fn z hz; omega)] at e3
        exact key x y m gx hat hpl cm (by omega)
      · exact heq
      · exfalso
        have e3 := h (y.at_ + y.long) (by omega)
        rw [plA_cons, if_pos (by omega), plA_cons, if_neg (by omega), plA_none _ m _ (fun z hz => by have := fm z hz; omega)] at e3
        exact key y x n gy hat.symm hpl.symm cn (by omega)
    obtain rfl : x = y := by cases x; cases y; simp_all
    rw [chain_inj m n (some x) (some x) (x.at_ + x.long) cm cn fm fn (fun b hb => by
      have := h b (by omega)
      rw [plA_cons, if_neg (by omega), plA_cons, if_neg (by omega)] at this
      exact this)]
/-- the next block's place goes on from the last stretch, or begins one -/
def stepM (m : List Sx) (k p : Int) : List Sx :=
  if p < 0 then m else match lastO none m with
    | none => m ++ [⟨k, 1, p⟩]
    | some y => if y.at_ + y.long = k ∧ y.place + y.long = p then m.dropLast ++ [⟨y.at_, y.long + 1, y.place⟩] else m ++ [⟨k, 1, p⟩]
def mapF (f : Nat → Int) : Nat → List Sx
  | 0 => []
  | k + 1 => stepM (mapF f k) k (f k)
theorem stepM_none (m : List Sx) (k p : Int) (h : p < 0) : stepM m k p = m := by unfold stepM; rw [if_pos h]
theorem stepM_nil (k p : Int) (h : 0 ≤ p) : stepM [] k p = [⟨k, 1, p⟩] := by unfold stepM; rw [if_neg (by omega)]; rfl
theorem stepM_snoc (L : List Sx) (y : Sx) (k p : Int) (h : 0 ≤ p) : stepM (L ++ [y]) k p = if y.at_ + y.long = k ∧ y.place + y.long = p then L ++ [⟨y.at_, y.long + 1, y.place⟩] else L ++ [y] ++ [⟨k, 1, p⟩] := by
  unfold stepM; rw [if_neg (by omega), lastO_snoc]
  simp
/-- what mapF keeps -/
structure Kept (f : Nat → Int) (k : Nat) (m : List Sx) : Prop where
  good : goodM m = true
  ends : ∀ x ∈ m, x.at_ + x.long ≤ k
  told : ∀ b : Nat, b < k → pl m b = f b
  many : m.length ≤ k
theorem pl_beyond (b : Int) : ∀ (m : List Sx), (∀ x ∈ m, x.at_ + x.long ≤ b) → pl m b = -1 := by
  intro m h
  have : ∀ (acc : Int) (m : List Sx), (∀ x ∈ m, x.at_ + x.long ≤ b) → plA acc m b = acc := by
    intro acc m
    induction m generalizing acc with
    | nil => intro _; rfl
    | cons x m ih =>
      intro h
      rw [plA_cons, if_neg (by have := h x List.mem_cons_self; omega)]
      exact ih acc fun y hy => h y (List.mem_cons_of_mem _ hy)
  exact this (-1) m h
theorem kept (f : Nat → Int) (hf : ∀ b, b < 16 → -1 ≤ f b ∧ f b ≤ 10000) : ∀ k, k ≤ 16 → Kept f k (mapF f k)
  | 0, _ => ⟨rfl, (fun _ h => by cases h), (fun _ h => absurd h (Nat.not_lt_zero _)), Nat.le_refl _⟩
  | k + 1, hk => by
    have ih := kept f hf k (by omega)
    obtain ⟨b0, b1⟩ := hf k (by omega)
    show Kept f (k + 1) (stepM (mapF f k) k (f k))
    generalize mapF f k = m at ih
    by_cases hp : f k < 0
    · rw [stepM_none _ _ _ hp]
      refine ⟨ih.good, fun x hx => by have := ih.ends x hx; omega, fun b hb => ?_, by have := ih.many; omega⟩
      by_cases e : b = k
      · subst e
        rw [pl_beyond _ _ ih.ends]; omega
      · exact ih.told b (by omega)
    · have hnew : behind (lastO none m) ⟨k, 1, f k⟩ = true → Kept f (k + 1) (m ++ [⟨k, 1, f k⟩]) := fun hb => by
        refine ⟨?_, ?_, ?_, ?_⟩
        · rw [goodM_snoc, ih.good, hb, (goodX_iff _).2 (by simp only; omega)]; rfl
        · intro x hx
          rcases List.mem_append.1 hx with hx | hx
          · have := ih.ends x hx; omega
          · obtain rfl : x = ⟨k, 1, f k⟩ := by simpa using hx
            simp only; omega
        · intro b hb
          rw [pl_snoc]
          by_cases e : b = k
          · subst e
            rw [if_pos (by simp only; omega)]; simp only; omega
          · rw [if_neg (by simp only; omega)]; exact ih.told b (by omega)
        · have := ih.many; simp; omega
      by_cases hm : m = []
      · subst hm
        rw [stepM_nil _ _ (by omega)]
        exact hnew rfl
      · obtain ⟨L, y, rfl⟩ := snoc_of m hm
        rw [stepM_snoc _ _ _ _ (by omega)]
        have hg := ih.good
        rw [goodM_snoc, Bool.and_eq_true, Bool.and_eq_true, goodX_iff] at hg
        obtain ⟨⟨hL, gy⟩, hby⟩ := hg
        have hye := ih.ends y (by simp)
        split
        · rename_i hgo
          refine ⟨?_, ?_, ?_, ?_⟩
          · rw [goodM_snoc, hL, (goodX_iff _).2 (by simp only; omega), Bool.true_and, Bool.true_and]
            cases hl : lastO none L with
            | none => rfl
            | some z =>
              rw [hl] at hby
              have h1 : apart z y = true := hby
              rw [apart_iff] at h1
              exact (apart_iff _ _).2 h1
          · intro x hx
            rcases List.mem_append.1 hx with hx | hx
            · have := ih.ends x (List.mem_append_left _ hx); omega
            · obtain rfl : x = ⟨y.at_, y.long + 1, y.place⟩ := by simpa using hx
              simp only; omega
          · intro b hb
            rw [pl_snoc]
            by_cases e : b = k
            · subst e
              rw [if_pos (by simp only; omega)]; simp only; omega
            · have := ih.told b (by omega)
              rw [pl_snoc] at this
              simp only
              split at this
              · rw [if_pos (by omega)]; exact this
              · rw [if_neg (by omega)]; exact this
          · have := ih.many; simp at this ⊢; omega
        · rename_i hgo
          refine hnew ?_
          rw [lastO_snoc]
          exact (apart_iff _ _).2 ⟨by simp only; omega, by simp only; omega⟩
/-- the places of all blocks, each in 0 .. 10000 or -1 -/
theorem pl_range (m : List Sx) (h : ∀ x ∈ m, goodX x = true) (b : Int) : -1 ≤ pl m b ∧ pl m b ≤ 10000 := by
  have : ∀ (m : List Sx) (acc : Int), -1 ≤ acc → acc ≤ 10000 → (∀ x ∈ m, goodX x = true) → -1 ≤ plA acc m b ∧ plA acc m b ≤ 10000 := by
    intro m
    induction m with
    | nil => intro acc h0 h1 _; exact ⟨h0, h1⟩
    | cons x m ih =>
      intro acc h0 h1 h
      have gx := (goodX_iff x).1 (h x List.mem_cons_self)
      rw [plA_cons]
      split
      · exact ih _ (by omega) (by omega) fun y hy => h y (List.mem_cons_of_mem _ hy)
      · exact ih _ h0 h1 fun y hy => h y (List.mem_cons_of_mem _ hy)
  exact this m (-1) (by omega) (by omega) h
theorem chain_all : ∀ (o : Option Sx) (m : List Sx), chain o m = true → ∀ x ∈ m, goodX x = true
  | _, [], _, _, hx => by cases hx
  | o, y :: m, h, x, hx => by
    unfold chain at h
    rw [Bool.and_eq_true, Bool.and_eq_true] at h
    rcases List.mem_cons.1 hx with rfl | hx
    · exact h.1.1
    · exact chain_all (some y) m h.2 x hx
theorem pl_out (m : List Sx) (h : ∀ x ∈ m, goodX x = true) (b : Int) (hb : 16 ≤ b) : pl m b = -1 :=
  pl_beyond b m fun x hx => by have := (goodX_iff x).1 (h x hx); omega
def plN (m : List Sx) (b : Nat) : Int := pl m b
/-- a good map is the map of its own places -/
theorem map_back (m : List Sx) (h : goodM m = true) : mapF (plN m) 16 = m := by
  have ha := chain_all none m h
  have hk := kept (plN m) (fun b _ => pl_range m ha b) 16 (Nat.le_refl _)
  refine chain_inj _ m none none 0 hk.good h (chain_from none _ 0 hk.good (fun _ h => by cases h) (fun _ => Int.le_refl _)) (chain_from none m 0 h (fun _ h => by cases h) (fun _ => Int.le_refl _)) fun b hb => ?_
  show pl _ b = pl m b
  by_cases hb6 : b < 16
  · have := hk.told b.toNat (by omega)
    have e : ((b.toNat : Nat) : Int) = b := by omega
    rw [e] at this
    rw [this]
    show pl m ((b.toNat : Nat) : Int) = _
    rw [e]
  · rw [pl_beyond b _ (fun x hx => by have := hk.ends x hx; omega), pl_out m ha b (by omega)]
/-- good just where all stretches are, there are at most 16, and it is the map of its places -/
theorem good_iff (m : List Sx) : goodM m = true ↔ (m.length ≤ 16 ∧ (∀ x ∈ m, goodX x = true) ∧ mapF (plN m) 16 = m) := by
  constructor
  · intro h
    have ha := chain_all none m h
    have hb := map_back m h
    refine ⟨?_, ha, hb⟩
    have := (kept (plN m) (fun b _ => pl_range m ha b) 16 (Nat.le_refl _)).many
    rw [hb] at this
    exact this
  · rintro ⟨_, ha, hb⟩
    have := (kept (plN m) (fun b _ => pl_range m ha b) 16 (Nat.le_refl _)).good
    rw [hb] at this
    exact this
/-- the map of places has those places -/
theorem places_map (f : Nat → Int) (hf : ∀ b, b < 16 → -1 ≤ f b ∧ f b ≤ 10000) (b : Nat) (hb : b < 16) : plN (mapF f 16) b = f b :=
  (kept f hf 16 (Nat.le_refl _)).told b hb
theorem mapF_good (f : Nat → Int) (hf : ∀ b, b < 16 → -1 ≤ f b ∧ f b ≤ 10000) : goodM (mapF f 16) = true := (kept f hf 16 (Nat.le_refl _)).good
theorem mapF_len (f : Nat → Int) (hf : ∀ b, b < 16 → -1 ≤ f b ∧ f b ≤ 10000) : (mapF f 16).length ≤ 16 := (kept f hf 16 (Nat.le_refl _)).many
theorem mapF_ext (f g : Nat → Int) : ∀ k, (∀ b, b < k → f b = g b) → mapF f k = mapF g k
  | 0, _ => rfl
  | k + 1, h => by
    show stepM (mapF f k) k (f k) = stepM (mapF g k) k (g k)
    rw [mapF_ext f g k (fun b hb => h b (by omega)), h k (by omega)]
end G00541
namespace Go.Proofs.Ytohkhcjdjjlfbaa
set_option maxRecDepth 100000
open Go Go.RowKit G00541
def tab (f : Nat → Int) : List Int := (List.range 16).map f
theorem tab_len (f : Nat → Int) : (tab f).length = 16 := by simp [tab]
theorem tab_at (f : Nat → Int) (b : Nat) (h : b < (tab f).length) : (tab f)[b] = f b := by simp [tab]
theorem tab_ext (f g : Nat → Int) (h : ∀ b, b < 16 → f b = g b) : tab f = tab g := by
  unfold tab
  exact List.map_congr_left fun b hb => h b (List.mem_range.1 hb)
theorem tab_of (l : List Int) (h : l.length = 16) : l = tab (fun b => l.getD b 0) := by
  apply List.ext_getElem
  · rw [tab_len, h]
  · intro i h1 h2
    rw [tab_at, List.getD_eq_getElem?_getD, List.getElem?_eq_getElem h1]; rfl
def ivals (l : List Int) : List Value := l.map fun n => .int .i64 n
end Go.Proofs.Ytohkhcjdjjlfbaa
namespace Go.Proofs.Ytohkhcjdjjlfbaa
set_option maxRecDepth 100000
open Go Go.RowKit G00541
structure Sg where
  bl : List Int
  age : Int
/-- each block of a segment and whether it is live -/
def prs (s : Sg) (v : List Bool) : List (Int × Bool) := s.bl.zip v
def allP (S : List Sg) (L : List (List Bool)) : List (Int × Bool) := (List.zipWith prs S L).flatten
def liveN (P : List (Int × Bool)) (b : Nat) : Nat := P.countP fun p => p.1 == (b : Int) && p.2
def everB (P : List (Int × Bool)) (b : Nat) : Bool := P.any fun p => p.1 == (b : Int)
def okB (P : List (Int × Bool)) (b : Nat) : Bool := decide (liveN P b ≤ 1 ∧ (everB P b = true → liveN P b ≠ 0))
def inBl (l : List Int) : Bool := l.all fun x => decide (0 ≤ x ∧ x ≤ 15)
def goodS (s : Sg) (v : List Bool) : Bool := decide (s.bl.length ≤ 6) && inBl s.bl && decide (0 ≤ s.age ∧ s.age ≤ 1000) && decide (v.length = s.bl.length)
def goodH (S : List Sg) (L : List (List Bool)) : Bool := decide (2 ≤ S.length ∧ S.length ≤ 8) && decide (L.length = S.length) && (List.zipWith goodS S L).all id && (List.range 16).all (okB (allP S L))
def liveL (P : List (Int × Bool)) : List Int := tab fun b => (liveN P b : Int)
def everL (P : List (Int × Bool)) : List Bool := (List.range 16).map (everB P)
theorem liveL_len (P : List (Int × Bool)) : (liveL P).length = 16 := tab_len _
theorem everL_len (P : List (Int × Bool)) : (everL P).length = 16 := by simp [everL]
theorem liveL_at (P : List (Int × Bool)) (b : Nat) (h : b < (liveL P).length) : (liveL P)[b] = (liveN P b : Int) := tab_at _ b h
theorem everL_at (P : List (Int × Bool)) (b : Nat) (h : b < (everL P).length) : (everL P)[b] = everB P b := by simp [everL]
theorem liveL_nil : liveL [] = List.replicate 16 0 := by decide
theorem everL_nil : everL [] = List.replicate 16 false := by decide
theorem everL_snoc (P : List (Int × Bool)) (b : Nat) (v : Bool) : everL (P ++ [((b : Int), v)]) = (everL P).set b true := by
  apply List.ext_getElem
  · rw [List.length_set, everL_len, everL_len]
  · intro i h1 h2
    rw [everL_at, List.getElem_set]
    unfold everB
    rw [List.any_append]
    split
    · rename_i e; subst e; simp
    · rename_i e
      rw [everL_at]
      have : (((b : Int) == (i : Int))) = false := beq_eq_false_iff_ne.2 (by omega)
      simp [everB, this]
theorem liveL_no (P : List (Int × Bool)) (b : Int) : liveL (P ++ [(b, false)]) = liveL P := by
  unfold liveL
  refine tab_ext _ _ fun i _ => ?_
  unfold liveN
  simp
theorem liveL_yes (P : List (Int × Bool)) (b : Nat) (hb : b < (liveL P).length) : liveL (P ++ [((b : Int), true)]) = (liveL P).set b ((liveL P)[b] + 1) := by
  apply List.ext_getElem
  · rw [List.length_set, liveL_len, liveL_len]
  · intro i h1 h2
    rw [liveL_at, List.getElem_set]
    unfold liveN
    rw [List.countP_append]
    split
    · rename_i e; subst e
      rw [liveL_at]
      simp [liveN]
    · rename_i e
      rw [liveL_at]
      have : (((b : Int) == (i : Int))) = false := beq_eq_false_iff_ne.2 (by omega)
      simp [liveN, this]
theorem allP_take (S : List Sg) (L : List (List Bool)) (k : Nat) (h : k < S.length) (g : k < L.length) : allP (S.take (k + 1)) (L.take (k + 1)) = allP (S.take k) (L.take k) ++ prs S[k] L[k] := by
  unfold allP
  rw [List.take_succ_eq_append_getElem h, List.take_succ_eq_append_getElem g, List.zipWith_append (by simp; omega), List.flatten_append]
  simp
theorem prs_take (s : Sg) (v : List Bool) (i : Nat) (h : i < s.bl.length) (g : i < v.length) : (prs s v).take (i + 1) = (prs s v).take i ++ [(s.bl[i], v[i])] := by
  unfold prs
  rw [List.take_succ_eq_append_getElem (by simp; omega)]
  simp
theorem prs_len (s : Sg) (v : List Bool) (h : v.length = s.bl.length) : (prs s v).length = s.bl.length := by simp [prs, h]
theorem liveN_le (P : List (Int × Bool)) (b : Nat) : liveN P b ≤ P.length := List.countP_le_length
theorem goodS_iff (s : Sg) (v : List Bool) : goodS s v = true ↔ s.bl.length ≤ 6 ∧ (∀ x ∈ s.bl, 0 ≤ x ∧ x ≤ 15) ∧ 0 ≤ s.age ∧ s.age ≤ 1000 ∧ v.length = s.bl.length := by
  unfold goodS inBl
  simp [and_assoc]
/-- where the lengths are alike: each segment good, each block fine -/
theorem goodH_iff (S : List Sg) (L : List (List Bool)) (hl : L.length = S.length) : goodH S L = true ↔ (2 ≤ S.length ∧ S.length ≤ 8) ∧ (∀ k (h : k < S.length), goodS S[k] (L[k]'(by omega)) = true) ∧ ∀ b, b < 16 → okB (allP S L) b = true := by
  unfold goodH
  simp only [Bool.and_eq_true, decide_eq_true_iff, List.all_eq_true, List.mem_range, hl, and_true, id]
  constructor
  · rintro ⟨⟨h1, h2⟩, h3⟩
    refine ⟨h1, fun k h => ?_, h3⟩
    refine h2 _ ?_
    rw [List.mem_iff_getElem]
    exact ⟨k, by simp; omega, by simp⟩
  · rintro ⟨h1, h2, h3⟩
    refine ⟨⟨h1, fun x hx => ?_⟩, h3⟩
    obtain ⟨k, hk, rfl⟩ := List.getElem_of_mem hx
    have hk' : k < S.length := by simp at hk; omega
    have := h2 k hk'
    simpa using this
theorem goodH_len (S : List Sg) (L : List (List Bool)) (h : ¬ L.length = S.length) : goodH S L = false := by
  unfold goodH
  rw [decide_eq_false h]; simp
theorem goodH_many (S : List Sg) (L : List (List Bool)) (h : ¬ (2 ≤ S.length ∧ S.length ≤ 8)) : goodH S L = false := by
  unfold goodH
  rw [decide_eq_false h]; simp
theorem goodH_seg (S : List Sg) (L : List (List Bool)) (hl : L.length = S.length) (k : Nat) (h : k < S.length) (hb : goodS S[k] (L[k]'(by omega)) = false) : goodH S L = false := by
  cases e : goodH S L
  · rfl
  · have := ((goodH_iff S L hl).1 e).2.1 k h
    rw [hb] at this; cases this
theorem goodH_block (S : List Sg) (L : List (List Bool)) (hl : L.length = S.length) (b : Nat) (h : b < 16) (hb : okB (allP S L) b = false) : goodH S L = false := by
  cases e : goodH S L
  · rfl
  · have := ((goodH_iff S L hl).1 e).2.2 b h
    rw [hb] at this; cases this
end Go.Proofs.Ytohkhcjdjjlfbaa
namespace Go.Proofs.Ytohkhcjdjjlfbaa
set_option maxRecDepth 100000
open Go Go.ChangeShapes Go.WideShapes Go.ChangeAt Go.RowKit
def bcell (n : Bool) : List Value := [.bool n]
/-- a slice of truth values in memory below block B -/
def Bs (B : Nat) (a : Option Addr) (l : List Bool) (w : World) : Prop := GSl B 1 a (l.map bcell) w
theorem Bs.cell {B : Nat} {a : Option Addr} {l : List Bool} {w : World} (h : Bs B a l w) (h0 : 0 < l.length) : ∃ b off, a = some ⟨b, off, none⟩ ∧ b < B ∧ ∀ i (hi : i < l.length), w.cell? ⟨b, off + i, none⟩ = some (.bool l[i]) := by
  obtain ⟨b, off, e, hb, hc⟩ := GSl.cell h (by simpa using h0)
  refine ⟨b, off, e, hb, fun i hi => ?_⟩
  have c0 := hc i (by simpa using hi) 0 (by decide)
  rw [List.getElem_map, Nat.mul_one, Nat.add_zero] at c0
  exact c0
theorem Bs.below {B : Nat} {a : Option Addr} {l : List Bool} {w w' : World} (h : Bs B a l w) (g : Below B w w') : Bs B a l w' := GSl.below h g
theorem Bs.mono {B B' : Nat} {a : Option Addr} {l : List Bool} {w : World} (h : Bs B a l w) (hB : B ≤ B') : Bs B' a l w := GSl.mono h hB
/-- a row of truth values that a call itself has made -/
def BRow (R : Nat) (l : List Bool) (w : World) : Prop := GRow R 1 (l.map bcell) w
theorem BRow.lt {R : Nat} {l : List Bool} {w : World} (h : BRow R l w) : R < w.heap.size := GRow.lt h
theorem BRow.cell {R : Nat} {l : List Bool} {w : World} (h : BRow R l w) (i : Nat) (hi : i < l.length) : w.cell? ⟨R, i, none⟩ = some (.bool l[i]) := by
  have c0 := GRow.cell h i (by simpa using hi) 0 (by decide)
  rw [List.getElem_map, Nat.mul_one, Nat.add_zero] at c0
  exact c0
theorem BRow.free {R : Nat} {l : List Bool} {w : World} (h : BRow R l w) (j : Nat) (hj : j < l.length) : w.frozen? ⟨R, j, none⟩ = false := GRow.free h j (by simpa using hj)
theorem BRow.below {R : Nat} {l : List Bool} {w w' : World} (h : BRow R l w) (hb : Below w.heap.size w w') : BRow R l w' := GRow.below h hb
theorem BRow.same {R : Nat} {l : List Bool} {w w' : World} (h : BRow R l w) (hs : w.heap.size ≤ w'.heap.size) (hb : w'.heap[R]? = w.heap[R]?) : BRow R l w' := GRow.same h hs hb
theorem BRow.sl {R B : Nat} {l : List Bool} {w : World} (h : BRow R l w) (hB : R < B) : Bs B (some ⟨R, 0, none⟩) l w := GRow.sl h hB
theorem BRow.set {R : Nat} {l : List Bool} {w : World} (h : BRow R l w) (k : Nat) (hk : k < l.length) (n : Bool) : BRow R (l.set k n) (w.setCell ⟨R, k, none⟩ (.bool n)) := by
  have hk' : k < (l.map bcell).length := by simpa using hk
  have := GRow.set h k 0 hk' (by decide) (.bool n)
  rw [Nat.mul_one, Nat.add_zero] at this
  unfold BRow
  have e : (l.set k n).map bcell = (l.map bcell).set k ((l.map bcell)[k].set 0 (.bool n)) := by
    rw [List.map_set, List.getElem_map]; rfl
  rw [e]
  exact this
/-- truth values that are owned in blocks lo .. hi - 1 (or none) -/
def OwnB (lo hi : Nat) (a : Option Addr) (l : List Bool) (w : World) : Prop := l = [] ∨ ∃ R, lo ≤ R ∧ R < hi ∧ a = some ⟨R, 0, none⟩ ∧ BRow R l w
theorem OwnB.out {lo hi l2 h2 : Nat} {a : Option Addr} {l : List Bool} {w w' : World} (h : OwnB lo hi a l w) (g : Out l2 h2 w w') (hd : hi ≤ l2 ∨ h2 ≤ lo) : OwnB lo hi a l w' := by
  rcases h with h | ⟨R, h1, h3, e, hr⟩
  · exact Or.inl h
  · exact Or.inr ⟨R, h1, h3, e, hr.same g.size (g.block R hr.lt (by omega))⟩
theorem OwnB.below {lo hi : Nat} {a : Option Addr} {l : List Bool} {w w' : World} (h : OwnB lo hi a l w) (g : Below w.heap.size w w') : OwnB lo hi a l w' := by
  rcases h with h | ⟨R, h1, h3, e, hr⟩
  · exact Or.inl h
  · exact Or.inr ⟨R, h1, h3, e, hr.below g⟩
theorem OwnB.bs {lo hi : Nat} {a : Option Addr} {l : List Bool} {w : World} (h : OwnB lo hi a l w) : Bs w.heap.size a l w := by
  rcases h with rfl | ⟨R, h1, h3, rfl, hr⟩
  · exact ⟨fun h0 => absurd h0 (by simp)⟩
  · exact hr.sl hr.lt
end Go.Proofs.Ytohkhcjdjjlfbaa
namespace Go.Proofs.Ytohkhcjdjjlfbaa
set_option maxRecDepth 100000
open Go Go.ChangeShapes Go.WideShapes Go.ChangeAt Go.RowKit G00541
/-- segments in memory below block B -/
def Gs (B : Nat) (a : Option Addr) (S : List Sg) (w : World) : Prop := 0 < S.length → ∃ b off, a = some ⟨b, off, none⟩ ∧ b < B ∧ ∀ i (hi : i < S.length), ∃ p c, w.cell? ⟨b, off + i * 2, none⟩ = some (.slice p S[i].bl.length c) ∧ w.cell? ⟨b, off + i * 2 + 1, none⟩ = some (.int .i64 S[i].age) ∧ Is B p S[i].bl w
/-- rows of truth values in memory below block B -/
def Vs (B : Nat) (a : Option Addr) (L : List (List Bool)) (w : World) : Prop := 0 < L.length → ∃ b off, a = some ⟨b, off, none⟩ ∧ b < B ∧ ∀ i (hi : i < L.length), ∃ p c, w.cell? ⟨b, off + i, none⟩ = some (.slice p L[i].length c) ∧ Bs B p L[i] w
theorem Gs.below {B : Nat} {a : Option Addr} {S : List Sg} {w w' : World} (h : Gs B a S w) (g : Below B w w') : Gs B a S w' := fun h0 => by
  obtain ⟨b, off, e, hb, hc⟩ := h h0
  refine ⟨b, off, e, hb, fun i hi => ?_⟩
  obtain ⟨p, c, h1, h2, h3⟩ := hc i hi
  exact ⟨p, c, (g.cell (p := ⟨b, _, none⟩) hb).trans h1, (g.cell (p := ⟨b, _, none⟩) hb).trans h2, h3.below g⟩
theorem Vs.below {B : Nat} {a : Option Addr} {L : List (List Bool)} {w w' : World} (h : Vs B a L w) (g : Below B w w') : Vs B a L w' := fun h0 => by
  obtain ⟨b, off, e, hb, hc⟩ := h h0
  refine ⟨b, off, e, hb, fun i hi => ?_⟩
  obtain ⟨p, c, h1, h3⟩ := hc i hi
  exact ⟨p, c, (g.cell (p := ⟨b, _, none⟩) hb).trans h1, h3.below g⟩
theorem Gs.mono {B B' : Nat} {a : Option Addr} {S : List Sg} {w : World} (h : Gs B a S w) (hB : B ≤ B') : Gs B' a S w := fun h0 => by
  obtain ⟨b, off, e, hb, hc⟩ := h h0
  refine ⟨b, off, e, by omega, fun i hi => ?_⟩
  obtain ⟨p, c, h1, h2, h3⟩ := hc i hi
  exact ⟨p, c, h1, h2, h3.mono hB⟩
theorem Vs.mono {B B' : Nat} {a : Option Addr} {L : List (List Bool)} {w : World} (h : Vs B a L w) (hB : B ≤ B') : Vs B' a L w := fun h0 => by
  obtain ⟨b, off, e, hb, hc⟩ := h h0
  refine ⟨b, off, e, by omega, fun i hi => ?_⟩
  obtain ⟨p, c, h1, h3⟩ := hc i hi
  exact ⟨p, c, h1, h3.mono hB⟩
/-- a heap's value -/
def hval (aS aL : Option Addr) (nS cS nL cL : Nat) : Value := .agg #[.slice aS nS cS, .slice aL nL cL]
end Go.Proofs.Ytohkhcjdjjlfbaa
namespace Go.Proofs.Ytohkhcjdjjlfbaa
set_option maxRecDepth 100000
open Go.ChangeShapes Go.WideShapes Go.ChangeAt Go.RowKit G00541
theorem take_snoc {α : Type} (l : List α) (k : Nat) (h : k < l.length) : l.take (k + 1) = l.take k ++ [l[k]] := List.take_succ_eq_append_getElem h
def imarks (n k : Nat) : List Int := (List.range n).map fun i => ((k + i : Nat) : Int)
theorem imarks_len (n k : Nat) : (imarks n k).length = n := by simp [imarks]
theorem imarks_at (n k i : Nat) (h : i < (imarks n k).length) : (imarks n k)[i] = ((k + i : Nat) : Int) := by simp [imarks]
theorem infoI : (Try.prog.info? 3).map (fun i => (i.zero, i.size, i.bytes)) = some (some (.int .i64 0), 1, 8) := by kernel_rfl
theorem make_ints (n : Nat) (hn : n ≤ 1048576) (W : World) : (Instr.makeSlice 35 (.int .i64 (n : Int)) (.int .i64 (n : Int))).run Try.prog W =
    .ok (.slice (some ⟨W.heap.size, 0, none⟩) n n) (W.alloc (.cells (madeCells (Value.int .i64 0).cells n) 3)) := by
  obtain ⟨i0, hi, hz0, hz1, hz2⟩ := info_parts infoI
  have h := run_make (P := Try.prog) W 35 3 i0 _ Try.underlying35 hi hz0 .i64 .i64 (n : Int) (n : Int) (by omega) (by omega) (by rw [hz2]; omega) (by omega)
  rw [hz1] at h
  simpa using h
theorem IRow.made (w : World) (n : Nat) : IRow w.heap.size (List.replicate n 0) (w.alloc (.cells (madeCells (Value.int .i64 0).cells n) 3)) := by
  have := GRow.made w 3 n #[.int .i64 0]
  unfold IRow
  rw [List.map_replicate]
  have e : (#[Value.int .i64 0] : Array Value).size = 1 := rfl
  rw [e, Nat.mul_one] at this
  exact this
end Go.Proofs.Ytohkhcjdjjlfbaa
namespace Go.Proofs.Ytohkhcjdjjlfbaa
set_option maxRecDepth 100000
open Go.ChangeShapes Go.WideShapes Go.ChangeAt Go.RowKit G00541
theorem infoB : (Try.prog.info? 4).map (fun i => (i.zero, i.size, i.bytes)) = some (some (.bool false), 1, 1) := by kernel_rfl
theorem make_bools (n : Nat) (hn : n ≤ 1048576) (W : World) : (Instr.makeSlice 53 (.int .i64 (n : Int)) (.int .i64 (n : Int))).run Try.prog W =
    .ok (.slice (some ⟨W.heap.size, 0, none⟩) n n) (W.alloc (.cells (madeCells (Value.bool false).cells n) 4)) := by
  obtain ⟨i0, hi, hz0, hz1, hz2⟩ := info_parts infoB
  have h := run_make (P := Try.prog) W 53 4 i0 _ Try.underlying53 hi hz0 .i64 .i64 (n : Int) (n : Int) (by omega) (by omega) (by rw [hz2]; omega) (by omega)
  rw [hz1] at h
  simpa using h
theorem BRow.made (w : World) (n : Nat) : BRow w.heap.size (List.replicate n false) (w.alloc (.cells (madeCells (Value.bool false).cells n) 4)) := by
  have := GRow.made w 4 n #[.bool false]
  unfold BRow
  rw [List.map_replicate]
  have e : (#[Value.bool false] : Array Value).size = 1 := rfl
  rw [e, Nat.mul_one] at this
  exact this
end Go.Proofs.Ytohkhcjdjjlfbaa
namespace Go.Proofs.Ytohkhcjdjjlfbaa
set_option maxRecDepth 100000
open Go.ChangeShapes Go.WideShapes Go.ChangeAt Go.RowKit
set_option maxHeartbeats 400000 in
theorem l1In_yes (n lo hi : Int) (w : World) (h : lo ≤ n) (g : n ≤ hi) : Calls Try.prog 43 #[.int .i64 n, .int .i64 lo, .int .i64 hi] w fun e w' => e = .returned (.bool true) ∧ w' = w := by
  go_enter Try.func43, Try.ntmps43
  go_wp2
  go_ret
  exact ⟨rfl, rfl⟩
set_option maxHeartbeats 400000 in
theorem l1In_no (n lo hi : Int) (w : World) (h : n < lo ∨ hi < n) : Calls Try.prog 43 #[.int .i64 n, .int .i64 lo, .int .i64 hi] w fun e w' => e = .returned (.bool false) ∧ w' = w := by
  by_cases g : n < lo
  · have hd : decide (lo ≤ n) = false := by simp; omega
    go_enter Try.func43, Try.ntmps43
    go_wp2
    go_ret
    exact ⟨rfl, rfl⟩
  · have hd : decide (n ≤ hi) = false := by simp; omega
    go_enter Try.func43, Try.ntmps43
    go_wp2
    go_ret
    exact ⟨rfl, rfl⟩
end Go.Proofs.Ytohkhcjdjjlfbaa
namespace Go.Proofs.Ytohkhcjdjjlfbaa
set_option maxRecDepth 100000
open Go.ChangeShapes Go.WideShapes Go.ChangeAt Go.RowKit G00541
theorem ret_b2 {a b : Bool} (h : a = b) : Ending.returned (.bool a) = .returned (.bool b) := by rw [h]
/-- each number in lo .. hi -/
def allIn (l : List Int) (lo hi : Int) : Bool := l.all fun x => decide (lo ≤ x ∧ x ≤ hi)
theorem allIn_bad (l : List Int) (lo hi : Int) (k : Nat) (h : k < l.length) (hb : ¬ (lo ≤ l[k] ∧ l[k] ≤ hi)) : allIn l lo hi = false := by
  unfold allIn
  rw [List.all_eq_false]
  exact ⟨l[k], List.getElem_mem h, by rw [decide_eq_false hb]; decide⟩
theorem allIn_all (l : List Int) (lo hi : Int) (h : ∀ j (hj : j < l.length), lo ≤ l[j] ∧ l[j] ≤ hi) : allIn l lo hi = true := by
  unfold allIn
  rw [List.all_eq_true]
  intro x hx
  obtain ⟨j, hj, rfl⟩ := List.getElem_of_mem hx
  exact decide_eq_true (h j hj)
theorem allIn_at (l : List Int) (lo hi : Int) (h : allIn l lo hi = true) (j : Nat) (hj : j < l.length) : lo ≤ l[j] ∧ l[j] ≤ hi := by
  unfold allIn at h
  rw [List.all_eq_true] at h
  exact of_decide_eq_true (h _ (List.getElem_mem hj))
set_option maxHeartbeats 1000000 in
theorem l1All_any (a : Option Addr) (cap : Nat) (l : List Int) (lo hi : Int) (w : World) (hn : l.length ≤ 1048576) (hZ : Is w.heap.size a l w) :
    Calls Try.prog 44 #[.slice a l.length cap, .int .i64 lo, .int .i64 hi] w fun e w' => e = .returned (.bool (allIn l lo hi)) ∧ w' = w := by
  have HZ : Hid (Is w.heap.size a l w) := hZ
  clear hZ
  go_enter Try.func44, Try.ntmps44
  go_wp2
  go_loopw [11] (fun i wr => ∃ k : Nat, k ≤ l.length ∧ i = .int .i64 k ∧ (∀ j (hj : j < l.length), j < k → lo ≤ l[j] ∧ l[j] ≤ hi) ∧ wr = w) (fun i _ => l.length - (intOf i).toNat)
  case atStart => exact ⟨0, Nat.zero_le _, rfl, (fun _ _ h => absurd h (Nat.not_lt_zero _)), rfl⟩
  case round =>
    obtain ⟨k, hk, rfl, hall, hwr⟩ := hrel
    subst hwr
    have HALL : Hid (∀ j (hj : j < l.length), j < k → lo ≤ l[j] ∧ l[j] ≤ hi) := hall
    clear hall
    by_cases hlt : k < l.length
    · obtain ⟨b, off, rfl, hb, hc⟩ := HZ.out.cell (by omega)
      have x0 := hc k hlt
      clear hc
      by_cases hin : lo ≤ l[k] ∧ l[k] ≤ hi
      · have HL : Hid (∀ j (hj : j < l.length), j < k + 1 → lo ≤ l[j] ∧ l[j] ≤ hi) := fun j hj hjk => by
          by_cases e : j = k
          · subst e; exact hin
          · exact HALL.out j hj (by omega)
        obtain ⟨i0, i1⟩ := hin
        generalize l[k] = x at *
        go_wp2_with fail
        refine (l1In_yes _ _ _ _ i0 i1).mono ?_
        rintro e w2 ⟨rfl, hw2⟩
        rw [hw2]
        clear hw2
        go_wp2
        go_roundw
        case rel => exact ⟨k + 1, by omega, by go_num, HL.out, by trivial⟩
        case measure => simp [intOf]; omega
      · have HV : Hid (allIn l lo hi = false) := allIn_bad l lo hi k hlt hin
        have h2 : l[k] < lo ∨ hi < l[k] := by omega
        clear hin
        generalize l[k] = x at *
        go_wp2_with fail
        refine (l1In_no _ _ _ _ h2).mono ?_
        rintro e w2 ⟨rfl, hw2⟩
        rw [hw2]
        clear hw2
        go_wp2
        go_ret
        exact ⟨ret_b2 HV.out.symm, rfl⟩
    · obtain rfl : k = l.length := by omega
      have HV : Hid (allIn l lo hi = true) := allIn_all l lo hi fun j hj => HALL.out j hj hj
      go_wp2
      go_ret
      exact ⟨ret_b2 HV.out.symm, rfl⟩
end Go.Proofs.Ytohkhcjdjjlfbaa
namespace Go.Proofs.Ytohkhcjdjjlfbaa
set_option maxRecDepth 100000
open Go.ChangeShapes Go.WideShapes Go.ChangeAt Go.RowKit G00541
theorem hid {p : Prop} (h : p) : Hid p := h
theorem belowN (w : World) (n : Nat) : Below w.heap.size w (w.drewN n) := ⟨rfl, rfl, rfl, Nat.le_refl _, fun _ _ => rfl⟩
theorem make_ints16 (W : World) : (Instr.makeSlice 35 (.int .i64 16) (.int .i64 16)).run Try.prog W =
    .ok (.slice (some ⟨W.heap.size, 0, none⟩) 16 16) (W.alloc (.cells (madeCells (Value.int .i64 0).cells 16) 3)) := make_ints 16 (by omega) W
theorem make_bools16 (W : World) : (Instr.makeSlice 53 (.int .i64 16) (.int .i64 16)).run Try.prog W =
    .ok (.slice (some ⟨W.heap.size, 0, none⟩) 16 16) (W.alloc (.cells (madeCells (Value.bool false).cells 16) 4)) := make_bools 16 (by omega) W
/-- what GoodHeap keeps: the box of its argument, how often each block is live, which was ever written -/
structure GH (w : World) (o : Obj) (P : List (Int × Bool)) (wr : World) : Prop where
  below : Below w.heap.size w wr
  box : wr.heap[w.heap.size]? = some o
  live : IRow (w.heap.size + 1) (liveL P) wr
  ever : BRow (w.heap.size + 2) (everL P) wr
theorem GH.size {w : World} {o : Obj} {P : List (Int × Bool)} {wr : World} (h : GH w o P wr) : w.heap.size + 3 ≤ wr.heap.size := by have := h.ever.lt; omega
theorem GH.on {w : World} {o : Obj} {P : List (Int × Bool)} {wr w' : World} (h : GH w o P wr) (g : Below wr.heap.size wr w') : GH w o P w' := by
  have := h.size
  exact ⟨h.below.trans (g.mono (by omega)), (g.block _ (by omega)).trans h.box, h.live.below g, h.ever.below g⟩
theorem box_cell {wr : World} {R : Nat} {cs : Array Value} {t : TypeId} (h : wr.heap[R]? = some (.cells cs t)) (i : Nat) : wr.cell? ⟨R, i, none⟩ = cs[i]? := by
  unfold World.cell?
  rw [h]
  rfl
theorem keepB (w : World) (R i : Nat) (u : Value) (k : Nat) (h : k ≠ R) : (w.setCell ⟨R, i, none⟩ u).heap[k]? = w.heap[k]? := Below.heap_setCell _ _ _ _ h
theorem setB {B : Nat} {a w : World} (h : Below B a w) (R i : Nat) (hp : B ≤ R) (u : Value) : Below B a (w.setCell ⟨R, i, none⟩ u) := h.setCell hp u
theorem GH.setE {w : World} {o : Obj} {P : List (Int × Bool)} {wr : World} (h : GH w o P wr) (b : Nat) (hb : b < 16) (v : Bool) : GH w o P wr → IRow (w.heap.size + 1) (liveL P) (wr.setCell ⟨w.heap.size + 2, b, none⟩ (.bool true)) ∧ BRow (w.heap.size + 2) (everL (P ++ [((b : Int), v)])) (wr.setCell ⟨w.heap.size + 2, b, none⟩ (.bool true)) := fun _ => by
  constructor
  · exact h.live.same (by simp [World.setCell]) (keepB _ _ _ _ _ (by omega))
  · rw [everL_snoc]
    exact h.ever.set b (by rw [everL_len]; exact hb) true
/-- the next block, not live -/
theorem GH.no {w : World} {o : Obj} {P : List (Int × Bool)} {wr : World} (h : GH w o P wr) (b : Nat) (hb : b < 16) : GH w o (P ++ [((b : Int), false)]) (wr.setCell ⟨w.heap.size + 2, b, none⟩ (.bool true)) := by
  obtain ⟨h1, h2⟩ := h.setE b hb false h
  refine ⟨?_, (keepB _ _ _ _ _ (by omega)).trans h.box, by rw [liveL_no]; exact h1, h2⟩
  exact setB h.below _ _ (by omega) _
/-- the next block, live -/
theorem GH.yes {w : World} {o : Obj} {P : List (Int × Bool)} {wr : World} (h : GH w o P wr) (b : Nat) (hb : b < (liveL P).length) : GH w o (P ++ [((b : Int), true)]) ((wr.setCell ⟨w.heap.size + 2, b, none⟩ (.bool true)).setCell ⟨w.heap.size + 1, b, none⟩ (.int .i64 ((liveL P)[b] + 1))) := by
  have hb' : b < 16 := by rw [liveL_len] at hb; exact hb
  obtain ⟨h1, h2⟩ := h.setE b hb' true h
  refine ⟨?_, (keepB _ _ _ _ _ (by omega)).trans ((keepB _ _ _ _ _ (by omega)).trans h.box), ?_, ?_⟩
  · exact setB (setB h.below _ _ (by omega) _) _ _ (by omega) _
  · rw [liveL_yes P b hb]
    exact h1.set b hb _
  · exact h2.same (by simp [World.setCell]) (keepB _ _ _ _ _ (by omega))
end Go.Proofs.Ytohkhcjdjjlfbaa
namespace Go.Proofs.Ytohkhcjdjjlfbaa
set_option maxRecDepth 100000
open Go.ChangeShapes Go.WideShapes Go.ChangeAt Go.RowKit G00541
set_option maxHeartbeats 4000000 in
theorem sgoodH_any (aS aL : Option Addr) (kS kL : Nat) (S : List Sg) (L : List (List Bool)) (w : World) (hG : Gs w.heap.size aS S w) (hV : Vs w.heap.size aL L w) :
    Calls Try.prog 12 #[.agg #[.slice aS S.length kS, .slice aL L.length kL]] w fun e w' => e = .returned (.bool (goodH S L)) ∧ Below w.heap.size w w' := by
  have HG := hid hG
  have HV := hid hV
  clear hG hV
  have hmi := make_ints16
  have hmb := make_bools16
  by_cases hn : 2 ≤ S.length ∧ S.length ≤ 8
  case neg =>
    have HF : Hid (goodH S L = false) := goodH_many S L hn
    have hno := fun v => l1In_no (S.length : Int) 2 8 v (by omega)
    have HN := hid hno
    clear hno hmi hmb
    go_enter Try.func12, Try.ntmps12
    go_wp2_with fail
    refine (HN.out _).mono ?_
    rintro e w2 ⟨rfl, hw2⟩
    rw [hw2]
    clear hw2
    go_wp2_with fail
    go_ret
    exact ⟨ret_b2 HF.out.symm, (Below.refl _ _).alloc (Nat.le_refl _) _⟩
  have hyes := fun v => l1In_yes (S.length : Int) 2 8 v (by omega) (by omega)
  have HN := hid hyes
  clear hyes
  by_cases hl : L.length = S.length
  case neg =>
    have HF : Hid (goodH S L = false) := goodH_len S L hl
    have hd1 : ((L.length : Int) == (S.length : Int)) = false := beq_eq_false_iff_ne.2 (by omega)
    have hd2 : ((L.length : Int) != (S.length : Int)) = true := bne_iff_ne.2 (by omega)
    clear hmi hmb
    go_enter Try.func12, Try.ntmps12
    go_wp2_with fail
    refine (HN.out _).mono ?_
    rintro e w2 ⟨rfl, hw2⟩
    rw [hw2]
    clear hw2
    go_wp2_with fail
    go_ret
    exact ⟨ret_b2 HF.out.symm, (Below.refl _ _).alloc (Nat.le_refl _) _⟩
  have hd2 : ((S.length : Int) != (S.length : Int)) = false := by simp
  rw [hl]
  have HL := hid hl
  have HR : Hid (∀ M1 M2, M1 = madeCells (Value.int .i64 0).cells 16 → M2 = madeCells (Value.bool false).cells 16 → GH w (.cells #[.slice aS S.length kS, .slice aL S.length kL] 26) [] (((w.alloc (.cells #[.slice aS S.length kS, .slice aL S.length kL] 26)).alloc (.cells M1 3)).alloc (.cells M2 4))) := by
    rintro _ _ rfl rfl
    refine ⟨(((Below.refl _ _).alloc (Nat.le_refl _) _).alloc (by simp) _).alloc (by simp; omega) _, ?_, ?_, ?_⟩
    · rw [Below.heap_alloc _ _ _ (by simp; omega), Below.heap_alloc _ _ _ (by simp)]
      exact heap_last _ _
    · rw [liveL_nil]
      have := IRow.made (w.alloc (.cells #[.slice aS S.length kS, .slice aL S.length kL] 26)) 16
      rw [heap_size] at this
      exact this.below ((Below.refl _ _).alloc (Nat.le_refl _) _)
    · rw [everL_nil]
      have := BRow.made ((w.alloc (.cells #[.slice aS S.length kS, .slice aL S.length kL] 26)).alloc (.cells (madeCells (Value.int .i64 0).cells 16) 3)) 16
      rw [heap_size, heap_size] at this
      exact this
  generalize hM1 : madeCells (Value.int .i64 0).cells 16 = M1 at *
  generalize hM2 : madeCells (Value.bool false).cells 16 = M2 at *
  have HR0 := hid (HR.out M1 M2 rfl rfl)
  clear HR hM1 hM2
  go_enter Try.func12, Try.ntmps12
  go_wp2_with fail
  refine (HN.out _).mono ?_
  rintro e w2 ⟨rfl, hw2⟩
  rw [hw2]
  clear hw2 HN
  go_wp2_with fail
  go_loopw [30] (fun i wr => ∃ k : Nat, k ≤ S.length ∧ i = .int .i64 k ∧ (∀ j (h : j < S.length), j < k → goodS S[j] (L[j]'(by omega)) = true) ∧ (allP (S.take k) (L.take k)).length ≤ 6 * k ∧ GH w (.cells #[.slice aS S.length kS, .slice aL S.length kL] 26) (allP (S.take k) (L.take k)) wr) (fun i _ => S.length - (intOf i).toNat)
  case atStart => exact ⟨0, Nat.zero_le _, rfl, (fun _ _ h => absurd h (Nat.not_lt_zero _)), by simp [allP], HR0.out⟩
  case round =>
    clear HR0 hmi hmb
    obtain ⟨k, hk, rfl, hall, hmany, hgh⟩ := hrel
    have HGH := hid hgh
    have HALL := hid hall
    clear hall
    by_cases hlt : k < S.length
    · obtain ⟨b, off, rfl, hb, hcl⟩ := HG.out (by omega)
      obtain ⟨p, c, c0, c1, hI⟩ := hcl k hlt
      have hbel := hgh.below
      rw [← hbel.cell (p := ⟨b, off + k * 2, none⟩) hb] at c0
      rw [← hbel.cell (p := ⟨b, off + k * 2 + 1, none⟩) hb] at c1
      obtain ⟨b', off', rfl, hb', hcv⟩ := HV.out (by omega)
      obtain ⟨p', c', c2, hJ⟩ := hcv k (by omega)
      have HV0 := hid c2
      rw [← hbel.cell (p := ⟨b', off' + k, none⟩) hb'] at c2
      clear hcl hcv
      have hx0 := box_cell hgh.box 0
      have hx1 := box_cell hgh.box 1
      have hsz := hgh.size
      have HI := hid hI
      have HJ := hid hJ
      have HST : Hid (allP (S.take (k + 1)) (L.take (k + 1)) = allP (S.take k) (L.take k) ++ prs S[k] (L[k]'(by omega))) := allP_take S L k hlt (by omega)
      have HBAD : Hid (goodS S[k] (L[k]'(by omega)) = false → goodH S L = false) := goodH_seg S L hl k hlt
      have HNX : Hid (goodS S[k] (L[k]'(by omega)) = true → ∀ j (h : j < S.length), j < k + 1 → goodS S[j] (L[j]'(by omega)) = true) := fun h j hj hjk => by
        by_cases e : j = k
        · subst e; exact h
        · exact HALL.out j hj (by omega)
      clear hgh HALL hI hJ hbel
      generalize L[k]'(by omega) = v at *
      generalize S[k] = s at *
      obtain ⟨l, age⟩ := s
      simp only at c0 c1
      go_wp2_with fail
      have HGW : Hid (GH w (.cells #[.slice (some ⟨b, off, none⟩) S.length kS, .slice (some ⟨b', off', none⟩) S.length kL] 26) (allP (S.take k) (L.take k)) (wr.alloc (.cells #[.slice p l.length c, .int .i64 age] 40))) := HGH.out.on ((Below.refl _ _).alloc (Nat.le_refl _) _)
      have z0 : (wr.alloc (.cells #[.slice p l.length c, .int .i64 age] 40)).cell? ⟨wr.heap.size, 0, none⟩ = some (.slice p l.length c) := by go_simp
      have z1 : (wr.alloc (.cells #[.slice p l.length c, .int .i64 age] 40)).cell? ⟨wr.heap.size, 1, none⟩ = some (.int .i64 age) := by go_simp
      have hsw : (wr.alloc (.cells #[.slice p l.length c, .int .i64 age] 40)).heap.size = wr.heap.size + 1 := heap_size _ _
      generalize hW : wr.alloc (.cells #[.slice p l.length c, .int .i64 age] 40) = W at *
      have y0 := box_cell HGW.out.box 0
      have y1 := box_cell HGW.out.box 1
      have HIW : Hid (∀ n, Is (W.drewN n).heap.size p l (W.drewN n)) := fun n => ((HI.out.below HGW.out.below).mono HGW.out.below.size).below (belowN W n)
      have v0 : W.cell? ⟨b', off' + k, none⟩ = some (.slice p' v.length c') := by
        have := HGW.out.below.cell (p := ⟨b', off' + k, none⟩) hb'
        rw [this, ← HGH.out.below.cell (p := ⟨b', off' + k, none⟩) hb']
        exact c2
      clear c0 c1 c2 hx0 hx1 HGH hW
      have HALLIN : Hid (∀ x, Is x.heap.size p l x → l.length ≤ 6 → Calls Try.prog 44 #[.slice p l.length c, .int .i64 0, .int .i64 15] x fun e w' => e = .returned (.bool (allIn l 0 15)) ∧ w' = x) := fun x hx h6 => l1All_any p c l 0 15 x (by omega) hx
      by_cases q1 : l.length ≤ 6
      case neg =>
        have hd6 : decide ((6 : Int) < (l.length : Int)) = true := decide_eq_true (by omega)
        have HF : Hid (goodH S L = false) := HBAD.out (by unfold goodS; simp [q1])
        clear HNX HST HBAD HI HJ hmany HL HG HV HALLIN
        go_wp2_with fail
        go_quiet (fail)
        all_goals
          have HB := hid (HGW.out.on (belowN W nq)).below
          generalize hW1 : W.drewN nq = w1 at *
          clear hW1 z0 z1 y0 y1 v0 HGW
          go_wp2
          go_ret
          exact ⟨ret_b2 HF.out.symm, HB.out⟩
      have hd6 : decide ((6 : Int) < (l.length : Int)) = false := decide_eq_false (by omega)
      by_cases q2 : allIn l 0 15 = true
      case neg =>
        have q2f : allIn l 0 15 = false := by cases h : allIn l 0 15 <;> simp_all
        have HA : Hid (∀ x, Is x.heap.size p l x → Calls Try.prog 44 #[.slice p l.length c, .int .i64 0, .int .i64 15] x fun e w' => e = .returned (.bool false) ∧ w' = x) := fun x hx => by have := HALLIN.out x hx q1; rw [q2f] at this; exact this
        have HF : Hid (goodH S L = false) := HBAD.out (by unfold goodS; rw [show inBl l = false from q2f]; simp)
        clear HNX HST HBAD HI HJ hmany HL HG HV HALLIN q2f q2
        go_wp2_with fail
        go_quiet ((go_at_call 44; exact Calls.quiet_of_same (HA.out _ (HIW.out _))))
        all_goals
          have HB := hid (HGW.out.on (belowN W nq)).below
          generalize hW1 : W.drewN nq = w1 at *
          clear hW1 z0 z1 y0 y1 v0 HGW HA HIW
          go_wp2
          go_ret
          exact ⟨ret_b2 HF.out.symm, HB.out⟩
      have HA : Hid (∀ x, Is x.heap.size p l x → Calls Try.prog 44 #[.slice p l.length c, .int .i64 0, .int .i64 15] x fun e w' => e = .returned (.bool true) ∧ w' = x) := fun x hx => by have := HALLIN.out x hx q1; rw [q2] at this; exact this
      by_cases q3 : 0 ≤ age ∧ age ≤ 1000
      case neg =>
        have HIN := hid (fun v => l1In_no age 0 1000 v (by omega))
        have HF : Hid (goodH S L = false) := HBAD.out (by unfold goodS; simp [q3])
        clear HNX HST HBAD HI HJ hmany HL HG HV HALLIN q2 q3
        go_wp2_with fail
        go_quiet ((first | (go_at_call 44; exact Calls.quiet_of_same (HA.out _ (HIW.out _))) | (go_at_call 43; exact Calls.quiet_of_same (HIN.out _))))
        all_goals
          have HB := hid (HGW.out.on (belowN W nq)).below
          generalize hW1 : W.drewN nq = w1 at *
          clear hW1 z0 z1 y0 y1 v0 HGW HA HIW HIN
          go_wp2
          go_ret
          exact ⟨ret_b2 HF.out.symm, HB.out⟩
      have HIN := hid (fun v => l1In_yes age 0 1000 v q3.1 q3.2)
      by_cases q4 : v.length = l.length
      case neg =>
        have hde : ((v.length : Int) == (l.length : Int)) = false := beq_eq_false_iff_ne.2 (by omega)
        have hdn : ((v.length : Int) != (l.length : Int)) = true := bne_iff_ne.2 (by omega)
        have HF : Hid (goodH S L = false) := HBAD.out (by unfold goodS; simp [q4])
        clear HNX HST HBAD HI HJ hmany HL HG HV HALLIN q2 q3
        go_wp2_with fail
        go_quiet ((first | (go_at_call 44; exact Calls.quiet_of_same (HA.out _ (HIW.out _))) | (go_at_call 43; exact Calls.quiet_of_same (HIN.out _))))
        all_goals
          have HB := hid (HGW.out.on (belowN W nq)).below
          generalize hW1 : W.drewN nq = w1 at *
          clear hW1 z0 z1 y0 y1 v0 HGW HA HIW HIN
          go_wp2
          go_ret
          exact ⟨ret_b2 HF.out.symm, HB.out⟩
      have hdn : ((l.length : Int) != (l.length : Int)) = false := by simp
      have HGS : Hid (goodS ⟨l, age⟩ v = true) := by
        refine (goodS_iff _ _).2 ⟨q1, fun x hx => ?_, q3.1, q3.2, q4⟩
        obtain ⟨j, hj, rfl⟩ := List.getElem_of_mem hx
        exact allIn_at l 0 15 q2 j hj
      have HAT := hid (allIn_at l 0 15 q2)
      have HPL := hid (prs_len ⟨l, age⟩ v q4)
      have HPT := hid (fun i (h : i < l.length) => prs_take ⟨l, age⟩ v i h (by omega))
      have HV4 := hid q4
      rw [q4] at v0 HV0
      clear HBAD HALLIN q2
      go_wp2_with fail
      go_quiet ((first | (go_at_call 44; exact Calls.quiet_of_same (HA.out _ (HIW.out _))) | (go_at_call 43; exact Calls.quiet_of_same (HIN.out _))))
      have HGW1 := hid (HGW.out.on (belowN W nq))
      have z0' : (W.drewN nq).cell? ⟨wr.heap.size, 0, none⟩ = some (.slice p l.length c) := z0
      generalize hW1 : W.drewN nq = w1 at *
      clear hW1 z0 z1 y0 y1 v0 HGW HA HIW HIN q3
      generalize allP (S.take k) (L.take k) = P0 at *
      go_wp2_with fail
      go_loopw [66] (fun i wr => ∃ n : Nat, n ≤ l.length ∧ i = .int .i64 n ∧ GH w (.cells #[.slice (some ⟨b, off, none⟩) S.length kS, .slice (some ⟨b', off', none⟩) S.length kL] 26) (P0 ++ (prs ⟨l, age⟩ v).take n) wr) (fun i _ => l.length - (intOf i).toNat)
      case atStart => exact ⟨0, Nat.zero_le _, rfl, by rw [List.take_zero, List.append_nil]; exact HGW1.out⟩
      case round =>
        obtain ⟨n, hnl, rfl, hgi⟩ := hrel
        clear HGW1 z0' hsw
        have HGI := hid hgi
        by_cases hi : n < l.length
        · obtain ⟨bp, op, rfl, hbp, hcp⟩ := HI.out.cell (by omega)
          obtain ⟨bq, oq, rfl, hbq, hcq⟩ := HJ.out.cell (by omega)
          have x0 := (hgi.below.cell (p := ⟨bp, op + n, none⟩) hbp).trans (hcp n hi)
          have X1 := hid (hcq n (by omega))
          obtain ⟨g0, g1⟩ := HAT.out n hi
          have HPTn := hid (HPT.out n hi)
          have HTL : Hid (((prs ⟨l, age⟩ v).take n).length ≤ 6) := by
            show ((prs ⟨l, age⟩ v).take n).length ≤ 6
            rw [List.length_take]; omega
          clear hcp hcq
          generalize l[n] = x at *
          generalize v[n]'(by omega) = t at *
          generalize (prs ⟨l, age⟩ v).take n = T at *
          obtain ⟨m, rfl⟩ : ∃ m : Nat, x = m := ⟨x.toNat, by omega⟩
          have hm : m < 16 := by omega
          have e0 := hgi.ever.cell m (by rw [everL_len]; exact hm)
          have f0 := hgi.ever.free m (by rw [everL_len]; exact hm)
          have hlv := hgi.live.cell m (by rw [liveL_len]; exact hm)
          have hlf := hgi.live.free m (by rw [liveL_len]; exact hm)
          have HNO := hid (hgi.no m hm)
          have HYES := hid (hgi.yes m (by rw [liveL_len]; exact hm))
          have HQ : Hid ((liveL (P0 ++ T))[m]'(by rw [liveL_len]; exact hm) = (liveN (P0 ++ T) m : Int)) := liveL_at _ _ _
          have hq1 : liveN (P0 ++ T) m ≤ 54 := by
            refine Nat.le_trans (liveN_le _ _) ?_
            have := HTL.out
            rw [List.length_append]; omega
          rw [HQ.out] at hlv HYES
          have HW3 : Hid (Below w.heap.size w (wr.setCell ⟨w.heap.size + 1 + 1, m, none⟩ (.bool true))) := setB hgi.below _ _ (by omega) _
          have k0 : (wr.setCell ⟨w.heap.size + 1 + 1, m, none⟩ (.bool true)).cell? ⟨w.heap.size + 1, m, none⟩ = some (.int .i64 (liveN (P0 ++ T) m : Int)) := by
            rw [World.cell?_setCell_other _ _ _ _ (fun e3 => by have h3 : w.heap.size + 1 + 1 = w.heap.size + 1 := congrArg Addr.block e3; omega)]
            exact hlv
          have k1 : (wr.setCell ⟨w.heap.size + 1 + 1, m, none⟩ (.bool true)).frozen? ⟨w.heap.size + 1, m, none⟩ = false := by rw [World.frozen?_setCell]; exact hlf
          have k2 : (wr.setCell ⟨w.heap.size + 1 + 1, m, none⟩ (.bool true)).cell? ⟨w.heap.size, 1, none⟩ = some (.slice (some ⟨b', off', none⟩) S.length kL) := by
            rw [World.cell?_setCell_other _ _ _ _ (fun e3 => by have h3 : w.heap.size + 1 + 1 = w.heap.size := congrArg Addr.block e3; omega)]
            exact box_cell hgi.box 1
          have k3 : (wr.setCell ⟨w.heap.size + 1 + 1, m, none⟩ (.bool true)).cell? ⟨b', off' + k, none⟩ = some (.slice (some ⟨bq, oq, none⟩) l.length c') := (HW3.out.cell (p := ⟨b', off' + k, none⟩) hb').trans HV0.out
          have k4 : (wr.setCell ⟨w.heap.size + 1 + 1, m, none⟩ (.bool true)).cell? ⟨bq, oq + n, none⟩ = some (.bool t) := (HW3.out.cell (p := ⟨bq, oq + n, none⟩) hbq).trans X1.out
          generalize liveN (P0 ++ T) m = q at *
          generalize hW3 : wr.setCell ⟨w.heap.size + 1 + 1, m, none⟩ (.bool true) = W3 at *
          have HE := hid hW3
          clear hgi hlv hlf HW3
          cases t
          · go_wp2_with fail
            go_roundw
            case rel => exact ⟨n + 1, by omega, by go_num, by rw [HPTn.out, ← List.append_assoc]; exact HNO.out⟩
            case measure => simp [intOf]; omega
          · go_wp2_with fail
            go_roundw
            case rel => exact ⟨n + 1, by omega, by go_num, by rw [HPTn.out, ← List.append_assoc]; exact HYES.out⟩
            case measure => simp [intOf]; omega
        · obtain rfl : n = l.length := by omega
          have HTK : Hid ((prs ⟨l, age⟩ v).take l.length = prs ⟨l, age⟩ v) := by
            show (prs ⟨l, age⟩ v).take l.length = prs ⟨l, age⟩ v
            exact List.take_of_length_le (Nat.le_of_eq HPL.out)
          clear hgi
          go_wp2_with fail
          go_roundw
          case rel => exact ⟨k + 1, by omega, by go_num, HNX.out HGS.out, by rw [HST.out, List.length_append, HPL.out]; omega, by rw [HST.out]; rw [HTK.out] at HGI; exact HGI.out⟩
          case measure => simp [intOf]; omega
    · obtain rfl : k = S.length := by omega
      have hgh' := hgh
      rw [List.take_of_length_le (Nat.le_refl _), List.take_of_length_le (Nat.le_of_eq hl)] at hgh'
      have HG2 := hid hgh'
      have HPM : Hid ((allP S L).length ≤ 48) := by
        rw [List.take_of_length_le (Nat.le_refl _), List.take_of_length_le (Nat.le_of_eq hl)] at hmany
        show (allP S L).length ≤ 48
        omega
      have HALL2 : Hid (∀ j (h : j < S.length), goodS S[j] (L[j]'(by omega)) = true) := fun j h => HALL.out j h h
      clear hgh hgh' HGH HALL hmany HG HV
      go_wp2_with fail
      go_loopw [92] (fun i wr => ∃ n : Nat, n ≤ 16 ∧ i = .int .i64 n ∧ (∀ j, j < n → okB (allP S L) j = true) ∧ GH w (.cells #[.slice aS S.length kS, .slice aL S.length kL] 26) (allP S L) wr) (fun i _ => 16 - (intOf i).toNat)
      case atStart => exact ⟨0, Nat.zero_le _, rfl, (fun _ h => absurd h (Nat.not_lt_zero _)), HG2.out⟩
      case round =>
        clear HG2
        obtain ⟨n, hn16, rfl, hok, hgi⟩ := hrel
        have HOK := hid hok
        have HGI := hid hgi
        clear hok
        by_cases hi : n < 16
        · have e0 := hgi.ever.cell n (by rw [everL_len]; exact hi)
          have l0 := hgi.live.cell n (by rw [liveL_len]; exact hi)
          rw [everL_at] at e0
          rw [liveL_at] at l0
          have HBAD : Hid (okB (allP S L) n = false → goodH S L = false) := goodH_block S L hl n hi
          have HNX : Hid (okB (allP S L) n = true → ∀ j, j < n + 1 → okB (allP S L) j = true) := fun h j hj => by
            by_cases e : j = n
            · subst e; exact h
            · exact HOK.out j (by omega)
          have hokd : okB (allP S L) n = decide (liveN (allP S L) n ≤ 1 ∧ (everB (allP S L) n = true → liveN (allP S L) n ≠ 0)) := rfl
          have HOKD := hid hokd
          have hq1 : liveN (allP S L) n ≤ 48 := Nat.le_trans (liveN_le _ _) HPM.out
          clear hgi hokd HOK
          generalize liveN (allP S L) n = q at *
          generalize everB (allP S L) n = t at *
          by_cases q1 : q ≤ 1
          · have hd1 : decide ((1 : Int) < (q : Int)) = false := decide_eq_false (by omega)
            have hd1n : decide (1 < q) = false := decide_eq_false (by omega)
            cases t
            · have HN1 := hid (HNX.out (by rw [HOKD.out]; exact decide_eq_true ⟨q1, fun h => by cases h⟩))
              clear HNX HBAD HOKD
              go_wp2_with fail
              go_roundw
              case rel => exact ⟨n + 1, by omega, by go_num, HN1.out, HGI.out⟩
              case measure => simp [intOf]; omega
            · by_cases q0 : q = 0
              · subst q0
                have HF := hid (HBAD.out (by rw [HOKD.out]; exact decide_eq_false (fun h => h.2 rfl rfl)))
                clear HNX HBAD HOKD
                go_wp2_with fail
                go_ret
                exact ⟨ret_b2 HF.out.symm, HGI.out.below⟩
              · have hd0 : ((q : Int) == 0) = false := beq_eq_false_iff_ne.2 (by omega)
                have HN1 := hid (HNX.out (by rw [HOKD.out]; exact decide_eq_true ⟨q1, fun _ => q0⟩))
                clear HNX HBAD HOKD
                go_wp2_with fail
                go_roundw
                case rel => exact ⟨n + 1, by omega, by go_num, HN1.out, HGI.out⟩
                case measure => simp [intOf]; omega
          · have hd1 : decide ((1 : Int) < (q : Int)) = true := decide_eq_true (by omega)
            have hd1n : decide (1 < q) = true := decide_eq_true (by omega)
            have HF := hid (HBAD.out (by rw [HOKD.out]; exact decide_eq_false (fun h => q1 h.1)))
            clear HNX HBAD HOKD
            go_wp2_with fail
            go_ret
            exact ⟨ret_b2 HF.out.symm, HGI.out.below⟩
        · have HT : Hid (goodH S L = true) := (goodH_iff S L hl).2 ⟨hn, HALL2.out, fun b hb => HOK.out b (by omega)⟩
          clear hgi
          go_wp2_with fail
          go_ret
          exact ⟨ret_b2 HT.out.symm, HGI.out.below⟩
end Go.Proofs.Ytohkhcjdjjlfbaa
namespace Go.Proofs.Ytohkhcjdjjlfbaa
set_option maxRecDepth 100000
open Go.ChangeShapes Go.WideShapes Go.ChangeAt Go.RowKit G00541
theorem boxB (w : World) (o : Obj) : Below w.heap.size w (w.alloc o) := (Below.refl _ _).alloc (Nat.le_refl _) _
theorem cnt_step (v : List Bool) (n : Nat) (h : n < v.length) : (v.take (n + 1)).countP id = (v.take n).countP id + (if v[n] then 1 else 0) := by
  rw [List.take_succ_eq_append_getElem h, List.countP_append]
  cases v[n] <;> simp
theorem ret_i {a b : Int} (h : a = b) : Ending.returned (.int .i64 a) = .returned (.int .i64 b) := by rw [h]
set_option maxHeartbeats 1000000 in
theorem l5Live_any (aS aL : Option Addr) (kS kL nS : Nat) (L : List (List Bool)) (k : Nat) (w : World) (hk : k < L.length) (hm : L.length ≤ 1048576) (hb : L[k].length ≤ 1048576) (hV : Vs w.heap.size aL L w) :
    Calls Try.prog 39 #[.agg #[.slice aS nS kS, .slice aL L.length kL], .int .i64 k] w fun e w' => e = .returned (.int .i64 ((L[k].countP id : Nat) : Int)) ∧ Below w.heap.size w w' := by
  have HB : Hid (Below w.heap.size w (w.alloc (.cells #[.slice aS nS kS, .slice aL L.length kL] 26))) := boxB w _
  obtain ⟨b', off', rfl, hb', hcv⟩ := hV (by omega)
  obtain ⟨p', c', c2, hJ⟩ := hcv k hk
  rw [← HB.out.cell (p := ⟨b', off' + k, none⟩) hb'] at c2
  have HJ := hid (hJ.below HB.out)
  have y1 : (w.alloc (.cells #[.slice aS nS kS, .slice (some ⟨b', off', none⟩) L.length kL] 26)).cell? ⟨w.heap.size, 1, none⟩ = some (.slice (some ⟨b', off', none⟩) L.length kL) := by go_simp
  clear hJ hcv
  generalize hv : L[k] = v at *
  clear hv
  generalize hW : w.alloc (.cells #[.slice aS nS kS, .slice (some ⟨b', off', none⟩) L.length kL] 26) = W at *
  go_enter Try.func39, Try.ntmps39
  go_wp2_with fail
  go_loopw [5, 14] (fun u i wr => ∃ n : Nat, n ≤ v.length ∧ i = .int .i64 n ∧ u = .int .i64 (((v.take n).countP id : Nat) : Int) ∧ wr = W) (fun _ i _ => v.length - (intOf i).toNat)
  case atStart => exact ⟨0, Nat.zero_le _, rfl, rfl, rfl⟩
  case round =>
    obtain ⟨n, hn, rfl, rfl, rfl⟩ := hrel
    clear hW y1 c2
    by_cases hi : n < v.length
    · obtain ⟨bq, oq, rfl, hbq, hcq⟩ := HJ.out.cell (by omega)
      have x1 := hcq n hi
      have HST := hid (cnt_step v n hi)
      have hc1 : (v.take n).countP id ≤ n := Nat.le_trans List.countP_le_length (by simp; omega)
      clear hcq
      generalize v[n] = t at *
      generalize (v.take n).countP id = q at *
      cases t
      · go_wp2_with fail
        go_roundw
        case rel => exact ⟨n + 1, by omega, by go_num, by rw [HST.out]; rfl, by trivial⟩
        case measure => simp [intOf]; omega
      · go_wp2_with fail
        go_roundw
        case rel => exact ⟨n + 1, by omega, by go_num, by rw [HST.out]; go_num, by trivial⟩
        case measure => simp [intOf]; omega
    · have HT : Hid ((v.take n).countP id = v.countP id) := by
        show (v.take n).countP id = v.countP id
        rw [List.take_of_length_le (by omega)]
      go_wp2_with fail
      go_ret
      exact ⟨ret_i (by rw [HT.out]), HB.out⟩
set_option maxHeartbeats 1000000 in
theorem l5There_any (aS aL : Option Addr) (kS kL : Nat) (S : List Sg) (L : List (List Bool)) (k : Int) (w : World) (hG : Gs w.heap.size aS S w) (hV : Vs w.heap.size aL L w) :
    Calls Try.prog 35 #[.agg #[.slice aS S.length kS, .slice aL L.length kL], .int .i64 k] w fun e w' => e = .returned (.bool (goodH S L && decide (0 ≤ k ∧ k < S.length))) ∧ Below w.heap.size w w' := by
  have HB : Hid (Below w.heap.size w (w.alloc (.cells #[.slice aS S.length kS, .slice aL L.length kL] 26))) := boxB w _
  have y0 : (w.alloc (.cells #[.slice aS S.length kS, .slice aL L.length kL] 26)).cell? ⟨w.heap.size, 0, none⟩ = some (.slice aS S.length kS) := by go_simp
  have y1 : (w.alloc (.cells #[.slice aS S.length kS, .slice aL L.length kL] 26)).cell? ⟨w.heap.size, 1, none⟩ = some (.slice aL L.length kL) := by go_simp
  have hsz : w.heap.size < (w.alloc (.cells #[.slice aS S.length kS, .slice aL L.length kL] 26)).heap.size := by simp
  have HC := hid (sgoodH_any aS aL kS kL S L _ ((hG.below HB.out).mono HB.out.size) ((hV.below HB.out).mono HB.out.size))
  clear hG hV
  generalize hW : w.alloc (.cells #[.slice aS S.length kS, .slice aL L.length kL] 26) = W at *
  generalize goodH S L = g at *
  have HE : Hid (∀ x y, x = y → Ending.returned (.bool x) = .returned (.bool y)) := fun _ _ h => by rw [h]
  cases g
  · go_enter Try.func35, Try.ntmps35
    go_wp2_with fail
    refine HC.out.mono ?_
    rintro e w2 ⟨rfl, hb2⟩
    have HB2 := hid (HB.out.trans (hb2.mono HB.out.size))
    clear hb2 hW y0 y1
    go_wp2_with fail
    go_ret
    exact ⟨rfl, HB2.out⟩
  · by_cases h0 : 0 ≤ k
    · have hd0 : decide (0 ≤ k) = true := decide_eq_true h0
      go_enter Try.func35, Try.ntmps35
      go_wp2_with fail
      refine HC.out.mono ?_
      rintro e w2 ⟨rfl, hb2⟩
      have HB2 := hid (HB.out.trans (hb2.mono HB.out.size))
      rw [← hb2.cell (p := ⟨w.heap.size, 0, none⟩) hsz] at y0
      clear hb2 hW y1
      go_wp2_with fail
      go_ret
      exact ⟨by simp [h0], HB2.out⟩
    · have hd0 : decide (0 ≤ k) = false := decide_eq_false h0

      go_enter Try.func35, Try.ntmps35
      go_wp2_with fail
      refine HC.out.mono ?_
      rintro e w2 ⟨rfl, hb2⟩
      have HB2 := hid (HB.out.trans (hb2.mono HB.out.size))
      clear hb2 hW y0 y1
      go_wp2_with fail
      go_ret
      exact ⟨ret_b2 (by rw [decide_eq_false (by omega)]; rfl), HB2.out⟩
end Go.Proofs.Ytohkhcjdjjlfbaa
namespace Go.Proofs.Ytohkhcjdjjlfbaa
open Go Go.RowKit
theorem flat_len (s : Nat) : ∀ (rows : List (List Value)), (∀ i (hi : i < rows.length), rows[i].length = s) → rows.flatten.length = rows.length * s
  | [], _ => by simp
  | r :: rows, h => by
    have h0 : r.length = s := h 0 (by simp)
    have hr := flat_len s rows (fun i hi => h (i + 1) (by simpa using hi))
    rw [List.flatten_cons, List.length_append, hr, h0, List.length_cons, Nat.add_mul, Nat.one_mul]; omega
theorem flat_at (s : Nat) : ∀ (rows : List (List Value)), (∀ i (hi : i < rows.length), rows[i].length = s) → ∀ i (hi : i < rows.length) j, j < s → rows.flatten[i * s + j]? = rows[i][j]?
  | [], _, i, hi, _, _ => absurd hi (by simp)
  | r :: rows, h, 0, _, j, hj => by
    have h0 : r.length = s := h 0 (by simp)
    rw [Nat.zero_mul, Nat.zero_add, List.flatten_cons, List.getElem?_append_left (by omega)]; rfl
  | r :: rows, h, i + 1, hi, j, hj => by
    have h0 : r.length = s := h 0 (by simp)
    have hr := flat_at s rows (fun i hi => h (i + 1) (by simpa using hi)) i (by simpa using hi) j hj
    rw [List.flatten_cons, List.getElem?_append_right (by rw [h0, Nat.add_mul]; omega), h0, show (i + 1) * s + j - s = i * s + j by rw [Nat.add_mul]; omega, hr]
    rfl
theorem GRow.ofOwns {w : World} {base : Nat} {e : TypeId} {s n : Nat} {v : Value} {rows : List (List Value)} (hw : ∀ i (hi : i < rows.length), rows[i].length = s)
    (h : w.ownsRow base e s v n rows.flatten) (hn : n = rows.length) (hv : v ≠ .slice none 0 0) : ∃ R cap, v = .slice (some ⟨R, 0, none⟩) n cap ∧ base ≤ R ∧ GRow R s rows w := by
  obtain ⟨hl, h | ⟨g, cap, cur, rfl, hb, hg, h1, h2, h3, h4⟩⟩ := h
  · exact absurd h.1 hv
  · refine ⟨g, cap, rfl, hb, ?_⟩
    have hlt : g < w.heap.size := by
      rcases Nat.lt_or_ge g w.heap.size with h' | h'
      · exact h'
      · rw [Array.getElem?_eq_none h'] at hg; cases hg
    refine ⟨hlt, hw, fun i hi j hj => ?_, fun j _ => ?_⟩
    · rw [← flat_at s rows hw i hi j hj, ← h4]
      have hk := at_lt hi hj
      unfold World.cell?
      rw [hg]
      simp only [Option.isSome_none, Bool.false_eq_true, if_false]
      rw [List.getElem?_take, if_pos (by rw [hn]; exact hk), Array.getElem?_toList]
    · unfold World.frozen?
      rw [hg]
      simp
theorem GSl.news {s : Nat} {b off : Nat} {rows : List (List Value)} {w : World} (hs : 0 < s) (hw : ∀ i (hi : i < rows.length), rows[i].length = s)
    (hc : ∀ i (hi : i < rows.length) j, j < s → w.cell? ⟨b, off + i * s + j, none⟩ = rows[i][j]?) (j : Nat) (u : Value) (h : rows.flatten[j]? = some u) : w.cell? ((⟨b, off, none⟩ : Addr).add j) = some u := by
  have hlen := flat_len s rows hw
  have hj : j < rows.length * s := by
    rcases Nat.lt_or_ge j (rows.flatten.length) with h' | h'
    · omega
    · rw [List.getElem?_eq_none h'] at h; cases h
  have hi : j / s < rows.length := Nat.div_lt_of_lt_mul (by rw [Nat.mul_comm]; exact hj)
  have hm : j % s < s := Nat.mod_lt _ hs
  have he : j = j / s * s + j % s := by rw [Nat.mul_comm]; exact (Nat.div_add_mod j s).symm
  have := flat_at s rows hw (j / s) hi (j % s) hm
  rw [← he, h] at this
  have h2 := hc (j / s) hi (j % s) hm
  rw [← this] at h2
  have e : (⟨b, off, none⟩ : Addr).add j = ⟨b, off + j / s * s + j % s, none⟩ := by
    rw [WideShapes.add_plain]
    have : off + j = off + j / s * s + j % s := by omega
    rw [this]
  rw [e]
  exact h2
end Go.Proofs.Ytohkhcjdjjlfbaa
namespace Go.Proofs.Ytohkhcjdjjlfbaa
set_option maxRecDepth 100000
open Go.ChangeShapes Go.WideShapes Go.ChangeAt Go.RowKit G00541
theorem iflat (l : List Int) : (l.map icell).flatten = ivals l := by
  induction l with
  | nil => rfl
  | cons n l ih => rw [List.map_cons, List.flatten_cons, ih]; rfl
theorem iwide (l : List Int) (i : Nat) (hi : i < (l.map icell).length) : (l.map icell)[i].length = 1 := by rw [List.getElem_map]; rfl
theorem own_irow {w : World} {B : Nat} {v : Value} {l : List Int} (h : w.ownsRow B 3 1 v l.length (ivals l)) (h0 : 0 < l.length) : ∃ R c, v = .slice (some ⟨R, 0, none⟩) l.length c ∧ B ≤ R ∧ IRow R l w := by
  have hv : v ≠ .slice none 0 0 := by
    intro e
    rcases h.2 with ⟨_, h1⟩ | ⟨g, cap, cur, e2, _⟩
    · omega
    · rw [e] at e2; cases e2
  rw [← iflat] at h
  obtain ⟨R, cap, e, hR, hrow⟩ := GRow.ofOwns (rows := l.map icell) (iwide l) h (by simp) hv
  exact ⟨R, cap, e, hR, hrow⟩
theorem own_ints {w w' : World} {B : Nat} {v : Value} {l : List Int} (h : w'.ownsRow B 3 1 v l.length (ivals l)) (hB : B = w.heap.size) : ∃ b c, v = .slice b l.length c ∧ OwnI w.heap.size w'.heap.size b l w' := by
  subst hB
  by_cases h0 : 0 < l.length
  · obtain ⟨R, c, e, hR, hrow⟩ := own_irow h h0
    exact ⟨_, c, e, Or.inr ⟨R, hR, hrow.lt, rfl, hrow⟩⟩
  · obtain rfl : l = [] := List.eq_nil_of_length_eq_zero (by omega)
    rcases h.2 with ⟨e, _⟩ | ⟨g, cap, cur, e, _⟩
    · exact ⟨none, 0, e, Or.inl rfl⟩
    · exact ⟨_, cap, e, Or.inl rfl⟩
theorem ivals_snoc (l : List Int) (n : Int) : ivals (l ++ [n]) = ivals l ++ [.int .i64 n] := by simp [ivals]
end Go.Proofs.Ytohkhcjdjjlfbaa
namespace Go.Proofs.Ytohkhcjdjjlfbaa
open G00541
theorem find_at (n : Nat) (p : Nat → Bool) (k : Nat) (hk : k < n) (hp : p k = true) (hn : ∀ j, j < k → p j = false) : (List.range n).find? p = some k := by
  rw [List.find?_range_eq_some]
  exact ⟨hp, List.mem_range.2 hk, fun j hj => by rw [hn j hj]; rfl⟩
theorem find_no (n : Nat) (p : Nat → Bool) (h : ∀ j, j < n → p j = false) : (List.range n).find? p = none := by
  rw [List.find?_range_eq_none]
  intro j hj
  rw [h j hj]; rfl
def optI : Option Nat → Int
  | some k => k
  | none => -1
def lenAt (S : List Sg) (k : Nat) : Nat := (S.getD k ⟨[], 0⟩).bl.length
theorem lenAt_eq (S : List Sg) (k : Nat) (h : k < S.length) : lenAt S k = S[k].bl.length := by
  unfold lenAt
  rw [List.getD_eq_getElem?_getD, List.getElem?_eq_getElem h]; rfl
/-- the segment that the next block goes to, but for one -/
def roomP (S : List Sg) (no : Int) (k : Nat) : Bool := decide ((k : Int) ≠ no ∧ 1 ≤ lenAt S k ∧ lenAt S k ≤ 5)
def roomQ (S : List Sg) (no : Int) (k : Nat) : Bool := decide ((k : Int) ≠ no ∧ lenAt S k = 0)
def roomH (S : List Sg) (no : Int) : Option Nat := ((List.range S.length).find? (roomP S no)).or ((List.range S.length).find? (roomQ S no))
theorem roomH_p (S : List Sg) (no : Int) (k : Nat) (hk : k < S.length) (hp : roomP S no k = true) (hn : ∀ j, j < k → roomP S no j = false) : roomH S no = some k := by
  unfold roomH
  rw [find_at _ _ k hk hp hn]; rfl
theorem roomH_q (S : List Sg) (no : Int) (h : ∀ j, j < S.length → roomP S no j = false) (k : Nat) (hk : k < S.length) (hp : roomQ S no k = true) (hn : ∀ j, j < k → roomQ S no j = false) : roomH S no = some k := by
  unfold roomH
  rw [find_no _ _ h, find_at _ _ k hk hp hn]; rfl
theorem roomH_no (S : List Sg) (no : Int) (h : ∀ j, j < S.length → roomP S no j = false) (g : ∀ j, j < S.length → roomQ S no j = false) : roomH S no = none := by
  unfold roomH
  rw [find_no _ _ h, find_no _ _ g]; rfl
/-- where a block is live within a segment -/
def atP (s : Sg) (v : List Bool) (x : Int) (i : Nat) : Bool := s.bl.getD i 0 == x && v.getD i false
def whereS (s : Sg) (v : List Bool) (x : Int) : Option Nat := (List.range s.bl.length).find? (atP s v x)
def segW (S : List Sg) (L : List (List Bool)) (x : Int) (k : Nat) : Option Nat := whereS (S.getD k ⟨[], 0⟩) (L.getD k []) x
def whereH (S : List Sg) (L : List (List Bool)) (x : Int) : Option (Nat × Nat) := (List.range S.length).findSome? fun k => (segW S L x k).map fun i => (k, i)
theorem findSome_at {α : Type} (n : Nat) (f : Nat → Option α) (k : Nat) (a : α) (hk : k < n) (hp : f k = some a) (hn : ∀ j, j < k → f j = none) : (List.range n).findSome? f = some a := by
  induction n with
  | zero => omega
  | succ n ih =>
    rw [List.range_succ, List.findSome?_append]
    by_cases h : k < n
    · rw [ih h]; rfl
    · obtain rfl : k = n := by omega
      have : (List.range k).findSome? f = none := by
        rw [List.findSome?_eq_none_iff]
        intro x hx
        exact hn x (List.mem_range.1 hx)
      rw [this]
      simp [hp]
theorem findSome_no {α : Type} (n : Nat) (f : Nat → Option α) (h : ∀ j, j < n → f j = none) : (List.range n).findSome? f = none := by
  rw [List.findSome?_eq_none_iff]
  intro x hx
  exact h x (List.mem_range.1 hx)
theorem segW_eq (S : List Sg) (L : List (List Bool)) (x : Int) (k : Nat) (h : k < S.length) (g : k < L.length) : segW S L x k = whereS S[k] L[k] x := by
  unfold segW
  rw [List.getD_eq_getElem?_getD, List.getElem?_eq_getElem h, List.getD_eq_getElem?_getD, List.getElem?_eq_getElem g]; rfl
theorem whereH_at (S : List Sg) (L : List (List Bool)) (x : Int) (k i : Nat) (hk : k < S.length) (hp : segW S L x k = some i) (hn : ∀ j, j < k → segW S L x j = none) : whereH S L x = some (k, i) :=
  findSome_at _ _ k (k, i) hk (by rw [hp]; rfl) (fun j hj => by rw [hn j hj]; rfl)
theorem whereH_no (S : List Sg) (L : List (List Bool)) (x : Int) (h : ∀ j, j < S.length → segW S L x j = none) : whereH S L x = none := findSome_no _ _ fun j hj => by rw [h j hj]; rfl
theorem atP_eq (s : Sg) (v : List Bool) (x : Int) (i : Nat) (h : i < s.bl.length) (g : i < v.length) : atP s v x i = (s.bl[i] == x && v[i]) := by
  unfold atP
  rw [List.getD_eq_getElem?_getD, List.getElem?_eq_getElem h, List.getD_eq_getElem?_getD, List.getElem?_eq_getElem g]; rfl
def wI : Option (Nat × Nat) → Int × Int
  | some (k, i) => (k, i)
  | none => (-1, -1)
end Go.Proofs.Ytohkhcjdjjlfbaa
namespace Go.Proofs.Ytohkhcjdjjlfbaa
set_option maxRecDepth 100000
open Go.ChangeShapes Go.WideShapes Go.ChangeAt Go.RowKit G00541
/-- the box of a heap that a call keeps -/
structure Bx (w : World) (o : Obj) (wr : World) : Prop where
  below : Below w.heap.size w wr
  box : wr.heap[w.heap.size]? = some o
theorem Bx.start (w : World) (o : Obj) : Bx w o (w.alloc o) := ⟨boxB w o, heap_last w o⟩
theorem Bx.lt {w : World} {o : Obj} {wr : World} (h : Bx w o wr) : w.heap.size < wr.heap.size := by
  rcases Nat.lt_or_ge w.heap.size wr.heap.size with h' | h'
  · exact h'
  · have := h.box
    rw [Array.getElem?_eq_none h'] at this; cases this
theorem Bx.on {w : World} {o : Obj} {wr w' : World} (h : Bx w o wr) (g : Below wr.heap.size wr w') : Bx w o w' :=
  ⟨h.below.trans (g.mono (Nat.le_of_lt h.lt)), (g.block _ h.lt).trans h.box⟩
set_option maxHeartbeats 1000000 in
theorem l5Room_any (aS aL : Option Addr) (kS kL nL : Nat) (S : List Sg) (no : Int) (w : World) (hm : S.length ≤ 1048576) (hG : Gs w.heap.size aS S w) :
    Calls Try.prog 64 #[.agg #[.slice aS S.length kS, .slice aL nL kL], .int .i64 no] w fun e w' => e = .returned (.int .i64 (optI (roomH S no))) ∧ Below w.heap.size w w' := by
  have HG := hid hG
  have HB : Hid (Bx w (.cells #[.slice aS S.length kS, .slice aL nL kL] 26) (w.alloc (.cells #[.slice aS S.length kS, .slice aL nL kL] 26))) := Bx.start _ _
  clear hG
  go_enter Try.func64, Try.ntmps64
  go_wp2_with fail
  go_loopw [12] (fun i wr => ∃ k : Nat, k ≤ S.length ∧ i = .int .i64 k ∧ (∀ j, j < k → roomP S no j = false) ∧ Bx w (.cells #[.slice aS S.length kS, .slice aL nL kL] 26) wr) (fun i _ => S.length - (intOf i).toNat)
  case atStart => exact ⟨0, Nat.zero_le _, rfl, (fun _ h => absurd h (Nat.not_lt_zero _)), HB.out⟩
  case round =>
    clear HB
    obtain ⟨k, hk, rfl, hno, hbx⟩ := hrel
    have HNO := hid hno
    have HBX := hid hbx
    clear hno
    by_cases hlt : k < S.length
    · obtain ⟨b, off, rfl, hb, hcl⟩ := HG.out (by omega)
      obtain ⟨p, c, c0, c1, -⟩ := hcl k hlt
      rw [← hbx.below.cell (p := ⟨b, off + k * 2, none⟩) hb] at c0
      rw [← hbx.below.cell (p := ⟨b, off + k * 2 + 1, none⟩) hb] at c1
      have hp : roomP S no k = decide ((k : Int) ≠ no ∧ 1 ≤ S[k].bl.length ∧ S[k].bl.length ≤ 5) := by unfold roomP; rw [lenAt_eq S k hlt]
      have HP := hid hp
      have HYES : Hid (roomP S no k = true → optI (roomH S no) = k) := fun h => by rw [roomH_p S no k hlt h HNO.out]; rfl
      have HNX : Hid (roomP S no k = false → ∀ j, j < k + 1 → roomP S no j = false) := fun h j hj => by
        by_cases e : j = k
        · subst e; exact h
        · exact HNO.out j (by omega)
      clear hcl hp HNO hbx
      generalize S[k] = s at *
      obtain ⟨l, age⟩ := s
      simp only at c0 c1 HP
      have HB2 := hid (HBX.out.on (boxB wr (.cells #[.slice p l.length c, .int .i64 age] 40)))
      by_cases q0 : (k : Int) = no
      · have hd1 : ((k : Int) != no) = false := by rw [q0]; simp
        have hd2 : ((k : Int) == no) = true := beq_iff_eq.2 q0
        have HN := hid (HNX.out (by rw [HP.out]; exact decide_eq_false (fun h => h.1 q0)))
        clear HNX HYES HP HBX q0
        go_wp2_with fail
        go_roundw
        case rel => exact ⟨k + 1, by omega, by go_num, HN.out, HB2.out⟩
        case measure => simp [intOf]; omega
      · have hd1 : ((k : Int) != no) = true := bne_iff_ne.2 q0
        have hd2 : ((k : Int) == no) = false := beq_eq_false_iff_ne.2 q0
        by_cases q1 : 1 ≤ l.length ∧ l.length ≤ 5
        · have HIN := hid (fun v => l1In_yes (l.length : Int) 1 5 v (by omega) (by omega))
          have HV := hid (HYES.out (by rw [HP.out]; exact decide_eq_true ⟨q0, q1.1, q1.2⟩))
          clear HNX HYES HP HBX q0
          go_wp2_with fail
          refine (HIN.out _).mono ?_
          rintro e w2 ⟨rfl, hw2⟩
          rw [hw2]
          clear hw2
          go_wp2_with fail
          go_ret
          exact ⟨ret_i HV.out.symm, HB2.out.below⟩
        · have HIN := hid (fun v => l1In_no (l.length : Int) 1 5 v (by omega))
          have HN := hid (HNX.out (by rw [HP.out]; exact decide_eq_false (fun h => q1 h.2)))
          clear HNX HYES HP HBX q0
          go_wp2_with fail
          refine (HIN.out _).mono ?_
          rintro e w2 ⟨rfl, hw2⟩
          rw [hw2]
          clear hw2
          go_wp2_with fail
          go_roundw
          case rel => exact ⟨k + 1, by omega, by go_num, HN.out, HB2.out⟩
          case measure => simp [intOf]; omega
    · have HNP : Hid (∀ j, j < S.length → roomP S no j = false) := fun j hj => HNO.out j (by omega)
      have y0 := box_cell hbx.box 0
      clear hbx HNO
      go_wp2_with fail
      go_loopw [31] (fun i wr => ∃ k : Nat, k ≤ S.length ∧ i = .int .i64 k ∧ (∀ j, j < k → roomQ S no j = false) ∧ Bx w (.cells #[.slice aS S.length kS, .slice aL nL kL] 26) wr) (fun i _ => S.length - (intOf i).toNat)
      case atStart => exact ⟨0, Nat.zero_le _, rfl, (fun _ h => absurd h (Nat.not_lt_zero _)), HBX.out⟩
      case round =>
        clear HBX y0 hlt hk
        obtain ⟨k, hk, rfl, hno, hbx⟩ := hrel
        have HNO := hid hno
        have HBX := hid hbx
        clear hno
        by_cases hlt : k < S.length
        · obtain ⟨b, off, rfl, hb, hcl⟩ := HG.out (by omega)
          obtain ⟨p, c, c0, c1, -⟩ := hcl k hlt
          rw [← hbx.below.cell (p := ⟨b, off + k * 2, none⟩) hb] at c0
          rw [← hbx.below.cell (p := ⟨b, off + k * 2 + 1, none⟩) hb] at c1
          have hp : roomQ S no k = decide ((k : Int) ≠ no ∧ S[k].bl.length = 0) := by unfold roomQ; rw [lenAt_eq S k hlt]
          have HP := hid hp
          have HYES : Hid (roomQ S no k = true → optI (roomH S no) = k) := fun h => by rw [roomH_q S no HNP.out k hlt h HNO.out]; rfl
          have HNX : Hid (roomQ S no k = false → ∀ j, j < k + 1 → roomQ S no j = false) := fun h j hj => by
            by_cases e : j = k
            · subst e; exact h
            · exact HNO.out j (by omega)
          clear hcl hp HNO hbx
          generalize S[k] = s at *
          obtain ⟨l, age⟩ := s
          simp only at c0 c1 HP
          have HB2 := hid (HBX.out.on (boxB wr (.cells #[.slice p l.length c, .int .i64 age] 40)))
          by_cases q0 : (k : Int) = no
          · have hd1 : ((k : Int) != no) = false := by rw [q0]; simp
            have hd2 : ((k : Int) == no) = true := beq_iff_eq.2 q0
            have HN := hid (HNX.out (by rw [HP.out]; exact decide_eq_false (fun h => h.1 q0)))
            clear HNX HYES HP HBX q0
            go_wp2_with fail
            go_roundw
            case rel => exact ⟨k + 1, by omega, by go_num, HN.out, HB2.out⟩
            case measure => simp [intOf]; omega
          · have hd1 : ((k : Int) != no) = true := bne_iff_ne.2 q0
            have hd2 : ((k : Int) == no) = false := beq_eq_false_iff_ne.2 q0
            by_cases q1 : l.length = 0
            · have hd3 : ((l.length : Int) == 0) = true := beq_iff_eq.2 (by omega)
              have HV := hid (HYES.out (by rw [HP.out]; exact decide_eq_true ⟨q0, q1⟩))
              clear HNX HYES HP HBX q0 q1
              go_wp2_with fail
              go_ret
              exact ⟨ret_i HV.out.symm, HB2.out.below⟩
            · have hd3 : ((l.length : Int) == 0) = false := beq_eq_false_iff_ne.2 (by omega)
              have HN := hid (HNX.out (by rw [HP.out]; exact decide_eq_false (fun h => q1 h.2)))
              clear HNX HYES HP HBX q0 q1
              go_wp2_with fail
              go_roundw
              case rel => exact ⟨k + 1, by omega, by go_num, HN.out, HB2.out⟩
              case measure => simp [intOf]; omega
        · have HV : Hid (optI (roomH S no) = -1) := by rw [roomH_no S no HNP.out (fun j hj => HNO.out j (by omega))]; rfl
          clear hbx HNO
          go_wp2_with fail
          go_ret
          exact ⟨ret_i HV.out.symm, HBX.out.below⟩
end Go.Proofs.Ytohkhcjdjjlfbaa
namespace Go.Proofs.Ytohkhcjdjjlfbaa
set_option maxRecDepth 100000
open Go.ChangeShapes Go.WideShapes Go.ChangeAt Go.RowKit G00541
theorem ret_ii {a b c d : Int} (h : a = c) (g : b = d) : Ending.returned (.tuple #[.int .i64 a, .int .i64 b]) = .returned (.tuple #[.int .i64 c, .int .i64 d]) := by rw [h, g]
set_option maxHeartbeats 1000000 in
theorem l5Where_any (aS aL : Option Addr) (kS kL : Nat) (S : List Sg) (L : List (List Bool)) (x : Int) (w : World) (hm : S.length ≤ 1048576) (hl : L.length = S.length)
    (hv : ∀ k (h : k < S.length), (L[k]'(by omega)).length = S[k].bl.length ∧ S[k].bl.length ≤ 1048576) (hG : Gs w.heap.size aS S w) (hV : Vs w.heap.size aL L w) :
    Calls Try.prog 47 #[.agg #[.slice aS S.length kS, .slice aL L.length kL], .int .i64 x] w fun e w' => e = .returned (.tuple #[.int .i64 (wI (whereH S L x)).1, .int .i64 (wI (whereH S L x)).2]) ∧ Below w.heap.size w w' := by
  have HG := hid hG
  have HV := hid hV
  have HL := hid hv
  rw [hl]
  have HB : Hid (Bx w (.cells #[.slice aS S.length kS, .slice aL S.length kL] 26) (w.alloc (.cells #[.slice aS S.length kS, .slice aL S.length kL] 26))) := Bx.start _ _
  clear hG hV hv
  go_enter Try.func47, Try.ntmps47
  go_wp2_with fail
  go_loopw [13] (fun i wr => ∃ k : Nat, k ≤ S.length ∧ i = .int .i64 k ∧ (∀ j, j < k → segW S L x j = none) ∧ Bx w (.cells #[.slice aS S.length kS, .slice aL S.length kL] 26) wr) (fun i _ => S.length - (intOf i).toNat)
  case atStart => exact ⟨0, Nat.zero_le _, rfl, (fun _ h => absurd h (Nat.not_lt_zero _)), HB.out⟩
  case round =>
    clear HB
    obtain ⟨k, hk, rfl, hno, hbx⟩ := hrel
    have HNO := hid hno
    have HBX := hid hbx
    clear hno
    by_cases hlt : k < S.length
    · obtain ⟨b, off, rfl, hb, hcl⟩ := HG.out (by omega)
      obtain ⟨p, c, c0, c1, hI⟩ := hcl k hlt
      rw [← hbx.below.cell (p := ⟨b, off + k * 2, none⟩) hb] at c0
      rw [← hbx.below.cell (p := ⟨b, off + k * 2 + 1, none⟩) hb] at c1
      obtain ⟨b', off', rfl, hb', hcv⟩ := HV.out (by omega)
      obtain ⟨p', c', c2, hJ⟩ := hcv k (by omega)
      have HV0 := hid c2
      obtain ⟨hve, hvm⟩ := HL.out k hlt
      have HI := hid hI
      have HJ := hid hJ
      have hse : segW S L x k = whereS S[k] (L[k]'(by omega)) x := segW_eq S L x k hlt (by omega)
      have HSE := hid hse
      have HYES : Hid (∀ i, segW S L x k = some i → wI (whereH S L x) = ((k : Int), (i : Int))) := fun i h => by rw [whereH_at S L x k i hlt h HNO.out]; rfl
      have HNX : Hid (segW S L x k = none → ∀ j, j < k + 1 → segW S L x j = none) := fun h j hj => by
        by_cases e : j = k
        · subst e; exact h
        · exact HNO.out j (by omega)
      clear hcl hcv hse HNO hbx c2 hI hJ
      generalize L[k]'(by omega) = v at *
      generalize S[k] = s at *
      obtain ⟨l, age⟩ := s
      simp only at c0 c1 hve hvm HI HV0
      rw [hve] at HV0
      have HB2 := hid (HBX.out.on (boxB wr (.cells #[.slice p l.length c, .int .i64 age] 40)))
      clear HBX
      go_wp2_with fail
      go_loopw [21] (fun i wr => ∃ n : Nat, n ≤ l.length ∧ i = .int .i64 n ∧ (∀ j, j < n → atP ⟨l, age⟩ v x j = false) ∧ Bx w (.cells #[.slice (some ⟨b, off, none⟩) S.length kS, .slice (some ⟨b', off', none⟩) S.length kL] 26) wr) (fun i _ => l.length - (intOf i).toNat)
      case atStart => exact ⟨0, Nat.zero_le _, rfl, (fun _ h => absurd h (Nat.not_lt_zero _)), HB2.out⟩
      case round =>
        clear HB2 c0 c1
        obtain ⟨n, hn, rfl, hno, hbx⟩ := hrel
        have HNO := hid hno
        have HBX := hid hbx
        clear hno
        by_cases hi : n < l.length
        · obtain ⟨bp, op, rfl, hbp, hcp⟩ := HI.out.cell (by omega)
          obtain ⟨bq, oq, rfl, hbq, hcq⟩ := HJ.out.cell (by omega)
          have x0 := (hbx.below.cell (p := ⟨bp, op + n, none⟩) hbp).trans (hcp n hi)
          have x1 := (hbx.below.cell (p := ⟨bq, oq + n, none⟩) hbq).trans (hcq n (by omega))
          have x2 := (hbx.below.cell (p := ⟨b', off' + k, none⟩) hb').trans HV0.out
          have y1 := box_cell hbx.box 1
          have HAP := hid (atP_eq ⟨l, age⟩ v x n hi (by omega))
          have HY2 : Hid (atP ⟨l, age⟩ v x n = true → wI (whereH S L x) = ((k : Int), (n : Int))) := fun h => HYES.out n (by rw [HSE.out]; exact find_at _ _ n hi h HNO.out)
          have HN2 : Hid (atP ⟨l, age⟩ v x n = false → ∀ j, j < n + 1 → atP ⟨l, age⟩ v x j = false) := fun h j hj => by
            by_cases e : j = n
            · subst e; exact h
            · exact HNO.out j (by omega)
          clear hcp hcq hbx HNO
          generalize l[n] = z at *
          generalize v[n]'(by omega) = t at *
          by_cases q0 : z = x
          · have hd1 : (z == x) = true := beq_iff_eq.2 q0
            cases t
            · have HN := hid (HN2.out (by rw [HAP.out]; exact Bool.and_false _))
              clear HN2 HY2 HAP q0
              go_wp2_with fail
              go_roundw
              case rel => exact ⟨n + 1, by omega, by go_num, HN.out, HBX.out⟩
              case measure => simp [intOf]; omega
            · have HE := hid (HY2.out (by rw [HAP.out]; exact (Bool.and_true _).trans hd1))
              clear HN2 HY2 HAP q0
              go_wp2_with fail
              go_ret2
              exact ⟨ret_ii (by rw [HE.out]) (by rw [HE.out]), HBX.out.below⟩
          · have hd1 : (z == x) = false := beq_eq_false_iff_ne.2 q0
            have HN := hid (HN2.out (by rw [HAP.out]; show (z == x && t) = false; rw [hd1]; rfl))
            clear HN2 HY2 HAP q0
            go_wp2_with fail
            go_roundw
            case rel => exact ⟨n + 1, by omega, by go_num, HN.out, HBX.out⟩
            case measure => simp [intOf]; omega
        · have HN := hid (HNX.out (by rw [HSE.out]; exact find_no _ _ (fun j (hj : j < l.length) => HNO.out j (by omega))))
          clear hbx HNO
          go_wp2_with fail
          go_roundw
          case rel => exact ⟨k + 1, by omega, by go_num, HN.out, HBX.out⟩
          case measure => simp [intOf]; omega
    · have HE : Hid (wI (whereH S L x) = (-1, -1)) := by
        show wI (whereH S L x) = (-1, -1)
        rw [whereH_no S L x (fun j hj => HNO.out j (by omega))]; rfl
      clear hbx HNO
      go_wp2_with fail
      go_ret2
      exact ⟨ret_ii (by rw [HE.out]) (by rw [HE.out]), HBX.out.below⟩
end Go.Proofs.Ytohkhcjdjjlfbaa
namespace Go.Proofs.Ytohkhcjdjjlfbaa
set_option maxRecDepth 100000
open Go.ChangeShapes Go.WideShapes Go.ChangeAt Go.RowKit
theorem u64_ge (n : Int) : 0 ≤ IntKind.u64.wrap n := by rw [IntKind.wrap_u64]; omega
theorem u64_lt (n : Int) : IntKind.u64.wrap n < 18446744073709551616 := by rw [IntKind.wrap_u64]; omega
theorem and255 (x : Int) (h0 : 0 ≤ x) (h1 : x < 18446744073709551616) : 0 ≤ wrap64 (bits .and .u64 x 255) ∧ wrap64 (bits .and .u64 x 255) ≤ 255 := by
  obtain ⟨n, rfl⟩ := Int.eq_ofNat_of_zero_le h0
  rw [show (255 : Int) = ((255 : Nat) : Int) from rfl, u64_and_nat _ _ (by omega) (by decide), nat_mask8]
  unfold wrap64
  omega
set_option maxHeartbeats 1000000 in
theorem next_any (B N len cap : Nat) (a : Option Addr) (w : World) (hN : N ≤ 1000000) (hC : Cur B N (.slice a len cap) w) (hK : Code B len cap a w) :
    Calls Try.prog 69 #[.pointer (some ⟨B, 0, none⟩)] w fun e w' => ∃ v : Int, e = .returned (.int .i64 v) ∧ 0 ≤ v ∧ v ≤ 255 ∧ Cur B (N + 1) (.slice a len cap) w' ∧ But B w w' := by
  obtain ⟨p, p0, p1, hp⟩ := hC.place
  obtain ⟨s, s0, s1, hs⟩ := hC.seed
  have hc := hC.code
  have f1 := hC.free1
  have f2 := hC.free2
  have hsm := hK.small
  have HC : Hid (Cur B N (.slice a len cap) w) := hC
  have HS : Hid (s < 18446744073709551616) := s1
  by_cases hlt : p < len
  · obtain ⟨b, off, rfl, hb, hcells⟩ := hK.cell (by omega)
    obtain ⟨z, z0, z1, hz⟩ := hcells p.toNat (by omega)
    have hbB : b ≠ B := by omega
    clear hC hcells s1 hK
    go_enter Try.func69, Try.ntmps69
    go_wp2
    go_region
    go_wp2
    go_region
    go_wp2
    go_region
    go_wp2
    go_ret
    exact ⟨z, rfl, z0, by omega, ((HC.out.step p _ p0 p1 (u64_ge _) (u64_lt _)).drew.drew).drew, (((((But.refl _ _).setCell 1 _).setCell 2 _).drew).drew).drew⟩
  · have hd : decide (p < (len : Int)) = false := by simp; omega
    have he : decide (p + 1 ≤ (len : Int)) = false := by simp; omega
    clear hC hK s1
    go_enter Try.func69, Try.ntmps69
    go_wp2
    go_region
    go_wp2
    go_region
    go_wp2
    go_ret
    refine ⟨_, rfl, ?_, ?_, ((HC.out.step p _ p0 p1 (u64_ge _) (u64_lt _)).drew).drew, ((((But.refl _ _).setCell 1 _).setCell 2 _).drew).drew⟩
    · exact (and255 _ (by have := u64_ge (IntKind.u64.wrap (IntKind.u64.wrap (s * 6364136223846793005)) + 1442695040888963407); omega) (by have := u64_lt (IntKind.u64.wrap (IntKind.u64.wrap (s * 6364136223846793005)) + 1442695040888963407); omega)).1
    · exact (and255 _ (by have := u64_ge (IntKind.u64.wrap (IntKind.u64.wrap (s * 6364136223846793005)) + 1442695040888963407); omega) (by have := u64_lt (IntKind.u64.wrap (IntKind.u64.wrap (s * 6364136223846793005)) + 1442695040888963407); omega)).2
set_option maxHeartbeats 1000000 in
theorem pick_any (n : Int) (B N len cap : Nat) (a : Option Addr) (w : World) (n1 : 1 ≤ n) (n2 : n ≤ 100000) (hN : N ≤ 999998) (hC : Cur B N (.slice a len cap) w) (hK : Code B len cap a w) :
    Calls Try.prog 50 #[.pointer (some ⟨B, 0, none⟩), .int .i64 n] w fun e w' => ∃ v : Int, e = .returned (.int .i64 v) ∧ 0 ≤ v ∧ v < n ∧ Cur B (N + 2) (.slice a len cap) w' ∧ But B w w' := by
  by_cases h1 : n ≤ 1
  · have hd : decide (n ≤ 1) = true := by simpa using h1
    have HC : Hid (Cur B N (.slice a len cap) w) := hC
    clear hC hK
    go_enter Try.func50, Try.ntmps50
    go_wp2_with fail
    go_ret
    exact ⟨0, rfl, by omega, by omega, HC.out.mono (by omega), But.refl _ _⟩
  · have hd : decide (n ≤ 1) = false := by simpa using h1
    have hlt := hC.lt
    by_cases h2 : 200 < n
    · have he : decide (200 < n) = true := by simpa using h2
      have HC : Hid (Cur B N (.slice a len cap) w) := hC
      have HK : Hid (Code B len cap a w) := hK
      clear hC hK h1
      go_enter Try.func50, Try.ntmps50
      go_wp2_with fail
      refine (next_any B N len cap a _ (by omega) HC.out HK.out).mono ?_
      rintro e w1 ⟨v, rfl, v0, v1, hC1, hB1⟩
      have HC1 : Hid (Cur B (N + 1) (.slice a len cap) w1) := hC1
      have HB1 : Hid (But B w w1) := hB1
      clear hC1 hB1
      go_wp2_with fail
      refine (next_any B (N + 1) len cap a _ (by omega) HC1.out (HK.out.but HB1.out (Nat.le_refl _) (by omega))).mono ?_
      rintro e w2 ⟨u, rfl, u0, u1, hC2, hB2⟩
      have HC2 : Hid (Cur B (N + 1 + 1) (.slice a len cap) w2) := hC2
      have HB2 : Hid (But B w1 w2) := hB2
      clear hC2 hB2
      go_wp2
      go_ret
      exact ⟨_, rfl, Int.emod_nonneg _ (by omega), Int.emod_lt_of_pos _ (by omega), HC2.out, HB1.out.trans HB2.out⟩
    · have he : decide (200 < n) = false := by simpa using h2
      have HC : Hid (Cur B N (.slice a len cap) w) := hC
      have HK : Hid (Code B len cap a w) := hK
      clear hC hK
      go_enter Try.func50, Try.ntmps50
      go_wp2_with fail
      refine (next_any B N len cap a _ (by omega) HC.out HK.out).mono ?_
      rintro e w1 ⟨v, rfl, v0, v1, hC1, hB1⟩
      have HC1 : Hid (Cur B (N + 1) (.slice a len cap) w1) := hC1
      have HB1 : Hid (But B w w1) := hB1
      clear hC1 hB1
      go_wp2
      go_ret
      exact ⟨_, rfl, Int.emod_nonneg _ (by omega), Int.emod_lt_of_pos _ (by omega), HC1.out.mono (by omega), HB1.out⟩
set_option maxHeartbeats 1000000 in
theorem one_any (n : Int) (B N len cap : Nat) (a : Option Addr) (w : World) (n1 : 1 ≤ n) (n2 : n ≤ 100000) (hN : N ≤ 999998) (hC : Cur B N (.slice a len cap) w) (hK : Code B len cap a w) :
    Calls Try.prog 67 #[.pointer (some ⟨B, 0, none⟩), .int .i64 n] w fun e w' => ∃ v : Bool, e = .returned (.bool v) ∧ Cur B (N + 2) (.slice a len cap) w' ∧ But B w w' := by
  have HC : Hid (Cur B N (.slice a len cap) w) := hC
  have HK : Hid (Code B len cap a w) := hK
  clear hC hK
  go_enter Try.func67, Try.ntmps67
  go_wp2_with fail
  refine (pick_any _ B N len cap a _ n1 n2 hN HC.out HK.out).mono ?_
  rintro e w1 ⟨v, rfl, v0, v1, hC1, hB1⟩
  have HR : Hid (Cur B (N + 2) (.slice a len cap) w1 ∧ But B w w1) := ⟨hC1, hB1⟩
  clear hC1 hB1
  go_wp2
  go_ret
  exact ⟨_, rfl, HR.out.1, HR.out.2⟩
set_option maxHeartbeats 1000000 in
theorem among_any (zs : List Int) (kz L B N len cap c : Nat) (a : Option Addr) (w : World) (hkz : zs.length = kz) (z1 : 1 ≤ zs.length) (z2 : zs.length ≤ 1000) (hL : L < w.heap.size) (hLB : L ≠ B)
    (hz : ∀ i, i < zs.length → w.cell? ⟨L, i, none⟩ = some (.int .i64 (zs.getD i 0))) (hN : N ≤ 999998) (hC : Cur B N (.slice a len cap) w) (hK : Code B len cap a w) :
    Calls Try.prog 68 #[.pointer (some ⟨B, 0, none⟩), .slice (some ⟨L, 0, none⟩) kz c] w fun e w' => ∃ i : Nat, i < zs.length ∧ e = .returned (.int .i64 (zs.getD i 0)) ∧ Cur B (N + 2) (.slice a len cap) w' ∧ But B w w' := by
  subst hkz
  have HC : Hid (Cur B N (.slice a len cap) w) := hC
  have HK : Hid (Code B len cap a w) := hK
  have HZ : Hid (∀ i, i < zs.length → w.cell? ⟨L, i, none⟩ = some (.int .i64 (zs.getD i 0))) := hz
  clear hC hK hz
  go_enter Try.func68, Try.ntmps68
  go_wp2_with fail
  refine (pick_any _ B N len cap a _ (by omega) (by omega) hN HC.out HK.out).mono ?_
  rintro e w1 ⟨v, rfl, v0, v1, hC1, hB1⟩
  have hcell : w1.cell? ⟨L, v.toNat, none⟩ = some (.int .i64 (zs.getD v.toNat 0)) := (hB1.cell L v.toNat hL hLB).trans (HZ.out v.toNat (by omega))
  have HR : Hid (Cur B (N + 2) (.slice a len cap) w1 ∧ But B w w1) := ⟨hC1, hB1⟩
  have hvl : v.toNat < zs.length := by omega
  clear hC1 hB1
  generalize hzv : zs.getD v.toNat 0 = z at hcell
  have HZV : Hid (zs.getD v.toNat 0 = z) := hzv
  clear hzv
  go_wp2
  go_ret
  exact ⟨v.toNat, hvl, by rw [HZV.out]; rfl, HR.out.1, HR.out.2⟩
theorem lits_at (zs : List Int) (w : World) (i : Nat) (h : i < zs.length) : (w.alloc (.cells (zs.map (Value.int .i64)).toArray 3)).cell? ⟨w.heap.size, i, none⟩ = some (.int .i64 (zs.getD i 0)) := by
  rw [World.cell?_alloc_new]
  simp [h]
end Go.Proofs.Ytohkhcjdjjlfbaa
namespace Go.Proofs.Ytohkhcjdjjlfbaa
set_option maxRecDepth 100000
/-- a number put behind all that are not greater -/
def insN (n : Int) : List Int → List Int
  | [] => [n]
  | x :: r => if x ≤ n then x :: insN n r else n :: x :: r
/-- how many lead that are not greater -/
def leadN (n : Int) : List Int → Nat
  | [] => 0
  | x :: r => if x ≤ n then leadN n r + 1 else 0
theorem leadN_le (n : Int) : ∀ l : List Int, leadN n l ≤ l.length
  | [] => Nat.le_refl _
  | x :: r => by
    simp only [leadN, List.length_cons]
    split
    · have := leadN_le n r; omega
    · omega
theorem insN_lead (n : Int) : ∀ l : List Int, insN n l = l.take (leadN n l) ++ n :: l.drop (leadN n l)
  | [] => rfl
  | x :: r => by
    simp only [insN, leadN]
    split
    · rw [insN_lead n r]; rfl
    · rfl
/-- the first that is greater stands at leadN -/
theorem leadN_at (n : Int) : ∀ (l : List Int) (k : Nat), k ≤ leadN n l → (∀ j (h : j < l.length), j < k → l[j] ≤ n) ∧ (k < leadN n l → ∃ h : k < l.length, l[k] ≤ n) ∧ (k = leadN n l → ∀ h : k < l.length, n < l[k])
  | [], k, hk => ⟨fun j h => absurd h (Nat.not_lt_zero _), fun h => absurd h (Nat.not_lt_zero _), fun _ h => absurd h (Nat.not_lt_zero _)⟩
  | x :: r, k, hk => by
    simp only [leadN] at hk ⊢
    by_cases hx : x ≤ n
    · rw [if_pos hx] at hk ⊢
      cases k with
      | zero => exact ⟨fun j _ h => absurd h (Nat.not_lt_zero _), fun _ => ⟨Nat.zero_lt_succ _, hx⟩, fun h => absurd h (by omega)⟩
      | succ k =>
        obtain ⟨h1, h2, h3⟩ := leadN_at n r k (by omega)
        refine ⟨fun j hj hjk => ?_, fun h => ?_, fun h hl => ?_⟩
        · cases j with
          | zero => exact hx
          | succ j => exact h1 j (by simpa using hj) (by omega)
        · obtain ⟨h4, h5⟩ := h2 (by omega)
          exact ⟨by simpa using h4, by simpa using h5⟩
        · exact h3 (by omega) (by simpa using hl)
    · rw [if_neg hx] at hk ⊢
      have : k = 0 := by omega
      subst this
      exact ⟨fun j _ h => absurd h (Nat.not_lt_zero _), fun h => absurd h (by omega), fun _ _ => by show n < x; omega⟩
theorem insN_perm (n : Int) : ∀ l : List Int, (insN n l).Perm (n :: l)
  | [] => List.Perm.refl _
  | x :: r => by
    simp only [insN]
    split
    · exact ((insN_perm n r).cons x).trans (List.Perm.swap n x r)
    · exact List.Perm.refl _
theorem insN_sorted (n : Int) : ∀ l : List Int, l.Pairwise (· ≤ ·) → (insN n l).Pairwise (· ≤ ·)
  | [], _ => by simp [insN]
  | x :: r, h => by
    rw [List.pairwise_cons] at h
    simp only [insN]
    split
    · rename_i hx
      rw [List.pairwise_cons]
      refine ⟨fun y hy => ?_, insN_sorted n r h.2⟩
      rcases List.mem_cons.1 ((insN_perm n r).mem_iff.1 hy) with rfl | hy
      · exact hx
      · exact h.1 y hy
    · rename_i hx
      rw [List.pairwise_cons, List.pairwise_cons]
      refine ⟨fun y hy => ?_, h⟩
      rcases List.mem_cons.1 hy with rfl | hy
      · omega
      · have := h.1 y hy; omega
/-- numbers in order -/
def sortN (l : List Int) : List Int := l.foldl (fun o n => insN n o) []
theorem sortN_snoc (l : List Int) (n : Int) : sortN (l ++ [n]) = insN n (sortN l) := by simp [sortN, List.foldl_append]
theorem fold_perm : ∀ (l o : List Int), (l.foldl (fun o n => insN n o) o).Perm (l ++ o)
  | [], o => List.Perm.refl _
  | x :: r, o => by
    rw [List.foldl_cons]
    refine (fold_perm r (insN x o)).trans ?_
    exact (List.Perm.append_left r (insN_perm x o)).trans List.perm_middle
theorem sortN_perm (l : List Int) : (sortN l).Perm l := by
  have := fold_perm l []
  rwa [List.append_nil] at this
theorem fold_sorted : ∀ (l o : List Int), o.Pairwise (· ≤ ·) → (l.foldl (fun o n => insN n o) o).Pairwise (· ≤ ·)
  | [], _, h => h
  | x :: r, o, h => fold_sorted r _ (insN_sorted x o h)
theorem sortN_sorted (l : List Int) : (sortN l).Pairwise (· ≤ ·) := fold_sorted l [] List.Pairwise.nil
theorem sorted_eq {a b : List Int} (ha : a.Pairwise (· ≤ ·)) (hb : b.Pairwise (· ≤ ·)) (h : a.Perm b) : a = b :=
  h.eq_of_pairwise (fun _ _ _ _ h1 h2 => Int.le_antisymm h1 h2) ha hb
theorem merge_eq (l : List Int) : (l.mergeSort fun x y => decide (x ≤ y)) = sortN l := by
  refine sorted_eq ?_ (sortN_sorted l) ((List.mergeSort_perm l _).trans (sortN_perm l).symm)
  have := List.pairwise_mergeSort (le := fun x y : Int => decide (x ≤ y)) (fun a b c h1 h2 => by simp only [decide_eq_true_eq] at *; omega) (fun a b => by simp only [Bool.or_eq_true, decide_eq_true_eq]; omega) l
  exact this.imp (fun h => of_decide_eq_true h)
theorem sortN_len (l : List Int) : (sortN l).length = l.length := (sortN_perm l).length_eq
theorem sortN_mem {l : List Int} {x : Int} : x ∈ sortN l ↔ x ∈ l := (sortN_perm l).mem_iff
theorem sortN_filter (p : Int → Bool) (l : List Int) : (sortN l).filter p = sortN (l.filter p) :=
  sorted_eq ((sortN_sorted l).filter _) (sortN_sorted _) (((sortN_perm l).filter p).trans (sortN_perm _).symm)
/-- those of the first way down, and the others -/
def lowB (s : Int) (up : Bool) (n : Int) : Bool := decide (n < s) || (decide (n = s) && !up)
def sweepL (s : Int) (l : List Int) (up : Bool) : List Int :=
  if up then (sortN l).filter (fun n => !lowB s up n) ++ ((sortN l).filter (lowB s up)).reverse else ((sortN l).filter (lowB s up)).reverse ++ (sortN l).filter (fun n => !lowB s up n)
theorem sweepL_perm (s : Int) (l : List Int) (up : Bool) : (sweepL s l up).Perm l := by
  have h : ((sortN l).filter (lowB s up) ++ (sortN l).filter (fun n => !lowB s up n)).Perm l := (List.filter_append_perm (lowB s up) (sortN l)).trans (sortN_perm l)
  unfold sweepL
  cases up
  · exact (List.Perm.append_right _ (List.reverse_perm _)).trans h
  · exact ((List.Perm.append_left _ (List.reverse_perm _)).trans List.perm_append_comm).trans h
theorem sweepL_len (s : Int) (l : List Int) (up : Bool) : (sweepL s l up).length = l.length := (sweepL_perm s l up).length_eq
theorem sweepL_mem {s : Int} {l : List Int} {up : Bool} {x : Int} : x ∈ sweepL s l up ↔ x ∈ l := (sweepL_perm s l up).mem_iff
def roundL (s : Int) (l : List Int) : List Int := (sortN l).filter (fun n => !decide (n < s)) ++ (sortN l).filter (fun n => decide (n < s))
theorem roundL_perm (s : Int) (l : List Int) : (roundL s l).Perm l := by
  unfold roundL
  exact (List.perm_append_comm.trans (List.filter_append_perm (fun n => decide (n < s)) (sortN l))).trans (sortN_perm l)
theorem roundL_len (s : Int) (l : List Int) : (roundL s l).length = l.length := (roundL_perm s l).length_eq
end Go.Proofs.Ytohkhcjdjjlfbaa
namespace Go.Proofs.Ytohkhcjdjjlfbaa
set_option maxRecDepth 100000
open Go.ChangeShapes Go.WideShapes Go.ChangeAt Go.RowKit G00541
end Go.Proofs.Ytohkhcjdjjlfbaa
