/- Small texts that the others stand on, in one. -/
import Derived.WalkKit
import Derived.Laws.MakeOwn
import Derived.ProofKit
import Derived.OpenShut
import Derived.Deep.Slices
import Derived.Deep.Strs
import Derived.SizedLaws
import Derived.Laws.IdiomStrings
import Derived.Lib.ConvBytes
import Derived.BigQuiet
import Derived.Test.YtiionfmpbifbcaaChecked
namespace Go.Proofs.Ytiionfmpbifbcaa
open Go Go.RowKit
theorem heap_last (w : World) (o : Obj) : (w.alloc o).heap[w.heap.size]? = some o := by
  show (w.heap.push o)[w.heap.size]? = _
  rw [Array.getElem?_push_size]
theorem heap_size (w : World) (o : Obj) : (w.alloc o).heap.size = w.heap.size + 1 := by simp
theorem heap_last2 (w : World) (a o : Obj) : ((w.alloc a).alloc o).heap[w.heap.size + 1]? = some o := by
  rw [← heap_size w a]; exact heap_last _ _
theorem heap_mid2 (w : World) (a o : Obj) : ((w.alloc a).alloc o).heap[w.heap.size]? = some a := by
  rw [Below.heap_alloc _ _ _ (by rw [heap_size]; omega)]; exact heap_last _ _
theorem heap_last3 (w : World) (a b o : Obj) : (((w.alloc a).alloc b).alloc o).heap[w.heap.size + 1 + 1]? = some o := by
  rw [← heap_size w a, ← heap_size (w.alloc a) b]; exact heap_last _ _
theorem heap_mid3 (w : World) (a b o : Obj) : (((w.alloc a).alloc b).alloc o).heap[w.heap.size + 1]? = some b := by
  rw [Below.heap_alloc _ _ _ (by rw [heap_size, heap_size]; omega)]; exact heap_last2 _ _ _
/-- a row that a call itself has made, at block R: s cells an element -/
structure GRow (R s : Nat) (rows : List (List Value)) (w : World) : Prop where
  lt : R < w.heap.size
  wide : ∀ i (hi : i < rows.length), rows[i].length = s
  cell : ∀ i (hi : i < rows.length) j, j < s → w.cell? ⟨R, i * s + j, none⟩ = rows[i][j]?
  free : ∀ j, j < rows.length * s → w.frozen? ⟨R, j, none⟩ = false
theorem at_inj {s i j k l : Nat} (hj : j < s) (hl : l < s) (h : i * s + j = k * s + l) : i = k ∧ j = l := by
  have h1 : (i * s + j) / s = i := by rw [Nat.mul_comm, Nat.mul_add_div (by omega), Nat.div_eq_of_lt hj]; rfl
  have h2 : (k * s + l) / s = k := by rw [Nat.mul_comm, Nat.mul_add_div (by omega), Nat.div_eq_of_lt hl]; rfl
  have e : i = k := by rw [← h1, h, h2]
  subst e
  omega
theorem at_lt {s i j n : Nat} (hi : i < n) (hj : j < s) : i * s + j < n * s := by
  have : (i + 1) * s ≤ n * s := Nat.mul_le_mul_right s hi
  rw [Nat.add_mul, Nat.one_mul] at this
  omega
theorem GRow.set {R s : Nat} {rows : List (List Value)} {w : World} (h : GRow R s rows w) (k j : Nat) (hk : k < rows.length) (hj : j < s) (v : Value) :
    GRow R s (rows.set k (rows[k].set j v)) (w.setCell ⟨R, k * s + j, none⟩ v) := by
  refine ⟨by simpa [World.setCell] using h.lt, ?_, ?_, ?_⟩
  · intro i hi
    have hi' : i < rows.length := by simpa using hi
    rw [List.getElem_set]
    split
    · rw [List.length_set]; exact h.wide k hk
    · exact h.wide i hi'
  · intro i hi l hl
    have hi' : i < rows.length := by simpa using hi
    by_cases e : i = k
    · subst e
      have hkey : (rows.set i (rows[i].set j v))[i] = rows[i].set j v := List.getElem_set_self _
      rw [hkey]
      by_cases e2 : l = j
      · subst e2
        have hw := h.wide i hi'
        have hc := h.cell i hi' l hl
        rw [List.getElem?_eq_getElem (by omega)] at hc
        rw [World.cell?_setCell_same _ _ _ hc, List.getElem?_set_self (by omega)]
      · rw [List.getElem?_set_ne (fun e3 => e2 e3.symm), ← h.cell i hi' l hl]
        exact World.cell?_setCell_other _ _ _ _ (fun e3 => by
          have h3 : i * s + j = i * s + l := congrArg Addr.off e3
          omega)
    · have hkey : (rows.set k (rows[k].set j v))[i] = rows[i] := List.getElem_set_ne (fun e3 => e e3.symm) _
      rw [hkey, ← h.cell i hi' l hl]
      exact World.cell?_setCell_other _ _ _ _ (fun e3 => by
        have h3 : k * s + j = i * s + l := congrArg Addr.off e3
        exact e (at_inj hj hl h3).1.symm)
  · intro l hl
    rw [World.frozen?_setCell]
    exact h.free l (by simpa using hl)
theorem GRow.drew {R s : Nat} {rows : List (List Value)} {w : World} (h : GRow R s rows w) : GRow R s rows w.drew := ⟨h.lt, h.wide, h.cell, h.free⟩
theorem GRow.below {R s : Nat} {rows : List (List Value)} {w w' : World} (h : GRow R s rows w) (hb : Below w.heap.size w w') : GRow R s rows w' :=
  ⟨Nat.lt_of_lt_of_le h.lt hb.size, h.wide, fun i hi j hj => (hb.cell (p := ⟨R, _, none⟩) h.lt).trans (h.cell i hi j hj), fun j hj => (hb.frozen (p := ⟨R, _, none⟩) h.lt).trans (h.free j hj)⟩
/-- nothing of block R has turned -/
theorem GRow.same {R s : Nat} {rows : List (List Value)} {w w' : World} (h : GRow R s rows w) (hs : w.heap.size ≤ w'.heap.size) (hb : w'.heap[R]? = w.heap[R]?) : GRow R s rows w' := by
  have hc : ∀ o, w'.cell? ⟨R, o, none⟩ = w.cell? ⟨R, o, none⟩ := fun o => by unfold World.cell?; simp only [hb]
  have hf : ∀ o, w'.frozen? ⟨R, o, none⟩ = w.frozen? ⟨R, o, none⟩ := fun o => by unfold World.frozen?; simp only [hb]
  exact ⟨Nat.lt_of_lt_of_le h.lt hs, h.wide, fun i hi j hj => (hc _).trans (h.cell i hi j hj), fun j hj => (hf _).trans (h.free j hj)⟩
/-- the row behind 'make([]T, n)': n elements, each its type's zero value -/
theorem GRow.made (w : World) (T : TypeId) (n : Nat) (z : Array Value) : GRow w.heap.size z.size (List.replicate n z.toList) (w.alloc (.cells (madeCells z (n * z.size)) T)) := by
  refine ⟨by go_simp, ?_, ?_, ?_⟩
  · intro i hi
    rw [List.getElem_replicate]; simp
  · intro i hi j hj
    have hi' : i < n := by simpa using hi
    have hlt := at_lt hi' hj
    rw [World.cell?_alloc_new, List.getElem_replicate]
    have e : (i * z.size + j) % z.size = j := by rw [Nat.mul_comm, Nat.mul_add_mod, Nat.mod_eq_of_lt hj]
    simp [madeCells, hlt, e, hj]
  · intro j hj
    go_simp
/-- a slice of structs that came in, in memory below block B -/
structure GSl (B s : Nat) (a : Option Addr) (rows : List (List Value)) (w : World) : Prop where
  cell : 0 < rows.length → ∃ b off, a = some ⟨b, off, none⟩ ∧ b < B ∧ ∀ i (hi : i < rows.length) j, j < s → w.cell? ⟨b, off + i * s + j, none⟩ = rows[i][j]?
theorem GSl.below {B s : Nat} {a : Option Addr} {rows : List (List Value)} {w w' : World} (h : GSl B s a rows w) (g : Below B w w') : GSl B s a rows w' := by
  refine ⟨fun h0 => ?_⟩
  obtain ⟨b, off, e, hb, hc⟩ := h.cell h0
  exact ⟨b, off, e, hb, fun i hi j hj => (g.cell (p := ⟨b, _, none⟩) hb).trans (hc i hi j hj)⟩
theorem GSl.mono {B B' s : Nat} {a : Option Addr} {rows : List (List Value)} {w : World} (h : GSl B s a rows w) (hB : B ≤ B') : GSl B' s a rows w :=
  ⟨fun h0 => by obtain ⟨b, off, e, hb, hc⟩ := h.cell h0; exact ⟨b, off, e, by omega, hc⟩⟩
/-- a made row read as a slice -/
theorem GRow.sl {R s B : Nat} {rows : List (List Value)} {w : World} (h : GRow R s rows w) (hB : R < B) : GSl B s (some ⟨R, 0, none⟩) rows w :=
  ⟨fun _ => ⟨R, 0, rfl, hB, fun i hi j hj => by rw [Nat.zero_add]; exact h.cell i hi j hj⟩⟩
end Go.Proofs.Ytiionfmpbifbcaa
namespace Go.Proofs.Ytiionfmpbifbcaa
open Go Go.ChangeShapes Go.WideShapes Go.ChangeAt Go.RowKit Go.Deep
theorem list_of {α β : Type} {f : α → β} {Q : α → Prop} : ∀ (l : List β), (∀ x ∈ l, ∃ z, x = f z ∧ Q z) → ∃ zs : List α, l = zs.map f ∧ ∀ z ∈ zs, Q z
  | [], _ => ⟨[], rfl, fun _ h => by cases h⟩
  | x :: l, h => by
    obtain ⟨z, hz, qz⟩ := h x (List.mem_cons_self)
    obtain ⟨zs, hzs, qzs⟩ := list_of l (fun y hy => h y (List.mem_cons_of_mem _ hy))
    refine ⟨z :: zs, by rw [List.map_cons, ← hz, ← hzs], fun y hy => ?_⟩
    rcases List.mem_cons.1 hy with rfl | hy
    · exact qz
    · exact qzs y hy
theorem gsl_of {H : Type} {enc : TypeId × Value → H} {P : Program} {W : World} {t e : TypeId} {s fuel : Nat} (ht : P.underlying t = some (.slice e)) (hs : P.cellsOf e = s) (hs0 : 0 < s)
    {a : Option Addr} {len cap : Nat} {y : DataW H × List MemPlace} (h : DataW.trod enc P W 0 (fun _ => true) true fuel t [.slice a len cap] = some y) :
    ∃ rows : List (List Value), rows.length = len ∧ GSl W.heap.size s a rows W ∧ (∀ r ∈ rows, ∃ n x, DataW.trod enc P W 0 (fun _ => true) true n e r = some x) ∧
      len ≤ maxLen := by
  rcases open_slice ht h with ⟨hcs, hx⟩ | ⟨x, l, c, m, n, D, Pl, hcs, _, hl, hm, hmm, hx, hall⟩
  · obtain ⟨rfl, rfl, rfl⟩ : a = none ∧ len = 0 ∧ cap = 0 := by simpa using hcs
    exact ⟨[], rfl, ⟨fun h0 => absurd h0 (by simp)⟩, (fun r hr => absurd hr (by simp)), Nat.zero_le _⟩
  · obtain ⟨rfl, rfl, rfl⟩ : a = some x ∧ len = l ∧ cap = c := by simpa using hcs
    have hmc : m = cap := by simpa using hmm
    rw [hs] at hall
    obtain ⟨f, hf⟩ := @choose_lt (List Value) ⟨[]⟩ m (fun i cs' => W.cells? 0 (x.add (i * s)) s = some cs' ∧ DataW.trod enc P W 0 (fun _ => true) true n e cs' = some (D i, Pl i)) hall
    refine ⟨(List.range len).map f, by simp, ⟨fun h0 => ?_⟩, ?_, by omega⟩
    · have h0' : 0 < len := by simpa using h0
      obtain ⟨_, hl0, hc0⟩ := World.cells?_some (hf 0 (by omega)).1
      have hcell0 := hc0 0 (by omega)
      obtain ⟨b, off, spot⟩ := x
      have hspot : spot = none := by
        have := hcell0
        rw [add_add] at this
        rw [List.getElem?_eq_getElem (by omega)] at this
        simpa [Addr.add] using World.cell?_spot this
      subst hspot
      refine ⟨b, off, rfl, ?_, fun i hi j hj => ?_⟩
      · rw [List.getElem?_eq_getElem (by omega), add_add, add_plain] at hcell0
        exact World.block_lt_of_cell? _ _ hcell0
      · have hi' : i < len := by simpa using hi
        obtain ⟨_, hli, hci⟩ := World.cells?_some (hf i (by omega)).1
        have := hci j hj
        rw [add_add, add_plain] at this
        rw [List.getElem_map, List.getElem_range, Nat.add_assoc]
        exact this
    · intro r hr
      rw [List.mem_map] at hr
      obtain ⟨i, hi, rfl⟩ := hr
      have hi' : i < len := List.mem_range.1 hi
      exact ⟨n, _, (hf i (by omega)).2⟩
end Go.Proofs.Ytiionfmpbifbcaa
namespace Go.Proofs.Ytiionfmpbifbcaa
open Go Go.RowKit
structure ByteRow (B : Nat) (l : List UInt8) (w : World) : Prop where
  lt : B < w.heap.size
  cell : ∀ j (hj : j < l.length), w.cell? ⟨B, j, none⟩ = some (.int .u8 (l[j].toNat : Int))
  free : ∀ j, j < l.length → w.frozen? ⟨B, j, none⟩ = false
theorem ByteRow.drew {B : Nat} {l : List UInt8} {w : World} (h : ByteRow B l w) : ByteRow B l w.drew :=
  ⟨by go_simp; exact h.lt, fun j hj => by go_simp; exact h.cell j hj, fun j hj => by go_simp; exact h.free j hj⟩
theorem ByteRow.set {B : Nat} {l : List UInt8} {w : World} (h : ByteRow B l w) (k : Nat) (hk : k < l.length) (x : UInt8) : ByteRow B (l.set k x) (w.setCell ⟨B, k, none⟩ (.int .u8 (x.toNat : Int))) := by
  refine ⟨?_, ?_, ?_⟩
  · go_simp; exact h.lt
  · intro j hj
    have hj' : j < l.length := by simpa using hj
    by_cases e : k = j
    · subst e
      rw [List.getElem_set_self]
      exact World.cell?_setCell_same _ _ _ (h.cell k hk)
    · rw [List.getElem_set_ne e, ← h.cell j hj']
      exact World.cell?_setCell_other _ _ _ _ (by simp only [ne_eq, Addr.mk.injEq, true_and, and_true]; exact e)
  · intro j hj
    have hj' : j < l.length := by simpa using hj
    rw [World.frozen?_setCell]
    exact h.free j hj'
theorem ByteRow.below {B : Nat} {l : List UInt8} {w w' : World} (h : ByteRow B l w) (hb : Below w.heap.size w w') : ByteRow B l w' :=
  ⟨Nat.lt_of_lt_of_le h.lt hb.size, fun j hj => (hb.cell (p := ⟨B, j, none⟩) h.lt).trans (h.cell j hj), fun j hj => (hb.frozen (p := ⟨B, j, none⟩) h.lt).trans (h.free j hj)⟩
/-- the row behind '[]byte(s)' -/
theorem ByteRow.ofString (w : World) (s : ByteArray) : ByteRow w.heap.size s.data.toList (Lib.bytesWorld w 5 s) := by
  refine ⟨by rw [Lib.bytesWorld_size]; omega, fun j hj => ?_, fun j hj => ?_⟩
  · rw [Lib.bytesWorld_cell w 5 s j (by simpa using hj), List.getD_eq_getElem?_getD, List.getElem?_eq_getElem hj]; rfl
  · have hc : j < (Lib.bytesCells w 5 s).size := by
      simp [Lib.bytesCells]
      have : j < s.size := by simpa using hj
      omega
    unfold World.frozen?
    rw [Lib.bytesWorld_at_new]
    simp
    omega
theorem bytesWorld_below (w : World) (s : ByteArray) : Below w.heap.size w (Lib.bytesWorld w 5 s) :=
  ⟨rfl, rfl, rfl, by rw [Lib.bytesWorld_size]; omega, fun k hk => Lib.bytesWorld_at_old w 5 s k hk⟩
theorem made_get (n j : Nat) (hj : j < n) : (madeCells (Value.int .u8 0).cells n)[j]? = some (.int .u8 0) := by
  simp [madeCells, hj, Value.cells]
  rw [Nat.mod_one]
  rfl
/-- the row behind 'make([]byte, n)' -/
theorem ByteRow.made (w : World) (n : Nat) : ByteRow w.heap.size (List.replicate n 0) (w.alloc (.cells (madeCells (Value.int .u8 0).cells n) 5)) := by
  refine ⟨by go_simp, fun j hj => ?_, fun j hj => ?_⟩
  · have hj' : j < n := by simpa using hj
    rw [World.cell?_alloc_new, made_get n j hj']
    simp
  · go_simp
/-- two rows joined at a place, and the store that moves the place on -/
theorem mix_set (X Y : List UInt8) (k : Nat) (hX : k < X.length) (hY : Y.length = X.length) : (X.take k ++ Y.drop k).set k (X[k]) = X.take (k + 1) ++ Y.drop (k + 1) := by
  apply List.ext_getElem?
  intro i
  rw [List.getElem?_set]
  by_cases e : k = i
  · subst e
    have h1 : k < (X.take k ++ Y.drop k).length := by simp; omega
    rw [if_pos rfl, if_pos h1, List.getElem?_append_left (by simp; omega), List.getElem?_take, if_pos (by omega), List.getElem?_eq_getElem hX]
  · rw [if_neg e]
    by_cases hi : i < k
    · rw [List.getElem?_append_left (by simp; omega), List.getElem?_append_left (by simp; omega), List.getElem?_take, List.getElem?_take, if_pos hi, if_pos (by omega)]
    · rw [List.getElem?_append_right (by simp; omega), List.getElem?_append_right (by simp; omega), List.getElem?_drop, List.getElem?_drop]
      congr 1
      simp
      omega
theorem mix_length (X Y : List UInt8) (k : Nat) (hk : k ≤ X.length) (hY : Y.length = X.length) : (X.take k ++ Y.drop k).length = X.length := by simp; omega
theorem mix_at (X Y : List UInt8) (k : Nat) (hk : k < X.length) (hY : Y.length = X.length) (h : k < (X.take k ++ Y.drop k).length) : (X.take k ++ Y.drop k)[k] = Y[k] := by
  rw [List.getElem_append_right (by simp; omega), List.getElem_drop]
  congr 1
  simp
  omega
theorem ByteRow.step {B : Nat} {X Y : List UInt8} {k : Nat} {w : World} (h : ByteRow B (X.take k ++ Y.drop k) w) (hX : k < X.length) (hY : Y.length = X.length) {v : Int} (hv : v = (X[k].toNat : Int)) :
    ByteRow B (X.take (k + 1) ++ Y.drop (k + 1)) (w.setCell ⟨B, k, none⟩ (.int .u8 v)).drew := by
  rw [hv, ← mix_set X Y k hX hY]
  exact (h.set k (by rw [mix_length X Y k (by omega) hY]; exact hX) _).drew
theorem ByteRow.back {P : Program} {B n cap : Nat} {l : List UInt8} {w : World} (h : ByteRow B l w) (hn : n = l.length) (src dst : TypeId)
    (hs : P.underlying src = some (.slice 5)) (he : P.underlying 5 = some (.int .u8)) (hd : P.underlying dst = some .string) :
    Sem.run P (convert src dst (.slice (some ⟨B, 0, none⟩) n cap)) w = .ok (.string ⟨l.toArray⟩) w := by
  subst hn
  refine run_convert_bytes_back w src dst 5 ⟨B, 0, none⟩ cap l hs he hd (fun j hj => ?_)
  have e : (⟨B, 0, none⟩ : Addr).add j = ⟨B, j, none⟩ := by simp [Addr.add]; omega
  rw [e]
  exact h.cell j hj
theorem mix_end (X Y : List UInt8) (k : Nat) (h : X.length ≤ k) (hY : Y.length = X.length) : X.take k ++ Y.drop k = X := by
  rw [List.take_of_length_le h, List.drop_of_length_le (by omega), List.append_nil]
theorem xor_u8 (x y : UInt8) : bits .xor .u8 (x.toNat : Int) (y.toNat : Int) = ((x ^^^ y).toNat : Int) := by
  have hx := x.toNat_lt
  have hy := y.toNat_lt
  rw [u8_xor_nat _ _ (by omega) (by omega), UInt8.toNat_xor]
end Go.Proofs.Ytiionfmpbifbcaa
namespace Go.Proofs.Ytiionfmpbifbcaa
open Go Go.RowKit
/-- what was there stands as it stood, but for block B -/
structure But (B : Nat) (w w' : World) : Prop where
  os : w'.os = w.os
  tape : w'.tape = w.tape
  output : w'.output = w.output
  size : w.heap.size ≤ w'.heap.size
  block : ∀ k, k < w.heap.size → k ≠ B → w'.heap[k]? = w.heap[k]?
theorem But.refl (B : Nat) (w : World) : But B w w := ⟨rfl, rfl, rfl, Nat.le_refl _, fun _ _ _ => rfl⟩
theorem But.trans {B : Nat} {w w1 w2 : World} (h : But B w w1) (g : But B w1 w2) : But B w w2 :=
  ⟨g.os.trans h.os, g.tape.trans h.tape, g.output.trans h.output, Nat.le_trans h.size g.size, fun k hk hB => (g.block k (Nat.lt_of_lt_of_le hk h.size) hB).trans (h.block k hk hB)⟩
theorem But.ofBelow {B : Nat} {w w' : World} (h : Below w.heap.size w w') : But B w w' :=
  ⟨h.os, h.tape, h.output, h.size, fun k hk _ => h.block k hk⟩
theorem But.below {B B0 : Nat} {w w' : World} (h : But B w w') (h1 : B0 ≤ B) (h2 : B0 ≤ w.heap.size) : Below B0 w w' :=
  ⟨h.os, h.tape, h.output, h.size, fun k hk => h.block k (by omega) (by omega)⟩
theorem But.setCell {B : Nat} {w w' : World} (h : But B w w') (i : Nat) (v : Value) : But B w (w'.setCell ⟨B, i, none⟩ v) :=
  ⟨by rw [← h.os]; rfl, by rw [← h.tape]; rfl, by rw [← h.output]; rfl, by have := h.size; simpa [World.setCell] using this, fun k hk hB => by
    rw [← h.block k hk hB]
    have : B ≠ k := fun e => hB e.symm
    simp [World.setCell, Array.getElem?_modify, this]⟩
theorem But.drew {B : Nat} {w w' : World} (h : But B w w') : But B w w'.drew := ⟨h.os, h.tape, h.output, h.size, h.block⟩
theorem But.alloc {B : Nat} {w w' : World} (h : But B w w') (o : Obj) : But B w (w'.alloc o) :=
  ⟨h.os, h.tape, h.output, by have := h.size; simp; omega, fun k hk hB => (Below.heap_alloc _ _ _ (Nat.lt_of_lt_of_le hk h.size)).trans (h.block k hk hB)⟩
theorem But.setNew {B R : Nat} {w w' : World} (h : But B w w') (hR : w.heap.size ≤ R) (i : Nat) (v : Value) : But B w (w'.setCell ⟨R, i, none⟩ v) :=
  ⟨h.os, h.tape, h.output, by have := h.size; simpa [World.setCell] using this, fun k hk hB => (Below.heap_setCell _ _ _ _ (by show k ≠ R; omega)).trans (h.block k hk hB)⟩
theorem byte_of (v : Int) (h0 : 0 ≤ v) (h1 : v < 256) : ∃ x : UInt8, v = (x.toNat : Int) :=
  ⟨UInt8.ofNat v.toNat, by rw [UInt8.toNat_ofNat_of_lt' (by show v.toNat < 256; omega)]; omega⟩
theorem But.cell {B : Nat} {w w' : World} (h : But B w w') (k i : Nat) (hk : k < w.heap.size) (hB : k ≠ B) : w'.cell? ⟨k, i, none⟩ = w.cell? ⟨k, i, none⟩ := by
  have := h.block k hk hB
  unfold World.cell?
  simp only [this]
theorem But.frozen {B : Nat} {w w' : World} (h : But B w w') (k i : Nat) (hk : k < w.heap.size) (hB : k ≠ B) : w'.frozen? ⟨k, i, none⟩ = w.frozen? ⟨k, i, none⟩ := by
  have := h.block k hk hB
  unfold World.frozen?
  simp only [this]
theorem ByteRow.but {R B : Nat} {l : List UInt8} {w w' : World} (h : ByteRow R l w) (g : But B w w') (hR : R ≠ B) : ByteRow R l w' :=
  ⟨Nat.lt_of_lt_of_le h.lt g.size, fun j hj => (g.cell R j h.lt hR).trans (h.cell j hj), fun j hj => (g.frozen R j h.lt hR).trans (h.free j hj)⟩
/-- a cursor at block B: the code, the place, the seed; the place at most N -/
structure Cur (B N : Nat) (sv : Value) (w : World) : Prop where
  lt : B < w.heap.size
  code : w.cell? ⟨B, 0, none⟩ = some sv
  place : ∃ p : Int, 0 ≤ p ∧ p ≤ N ∧ w.cell? ⟨B, 1, none⟩ = some (.int .i64 p)
  seed : ∃ s : Int, 0 ≤ s ∧ s < 18446744073709551616 ∧ w.cell? ⟨B, 2, none⟩ = some (.int .u64 s)
  free1 : w.frozen? ⟨B, 1, none⟩ = false
  free2 : w.frozen? ⟨B, 2, none⟩ = false
/-- a slice of bytes in memory below block B -/
structure Code (B len cap : Nat) (a : Option Addr) (w : World) : Prop where
  small : len ≤ 1048576
  cell : 0 < len → ∃ b off, a = some ⟨b, off, none⟩ ∧ b < B ∧ ∀ i, i < len → ∃ z : Int, 0 ≤ z ∧ z < 256 ∧ w.cell? ⟨b, off + i, none⟩ = some (.int .u8 z)
theorem Code.but {B B' len cap : Nat} {a : Option Addr} {w w' : World} (h : Code B len cap a w) (g : But B' w w') (h1 : B ≤ B') (h2 : B ≤ w.heap.size) : Code B len cap a w' := by
  refine ⟨h.small, fun h0 => ?_⟩
  obtain ⟨b, off, e, hb, hc⟩ := h.cell h0
  refine ⟨b, off, e, hb, fun i hi => ?_⟩
  obtain ⟨z, z0, z1, hz⟩ := hc i hi
  exact ⟨z, z0, z1, (g.cell b (off + i) (by omega) (by omega)).trans hz⟩
theorem Cur.below {B N : Nat} {sv : Value} {w w' : World} (h : Cur B N sv w) (g : Below w.heap.size w w') : Cur B N sv w' := by
  have hc : ∀ i, w'.cell? ⟨B, i, none⟩ = w.cell? ⟨B, i, none⟩ := fun i => g.cell (p := ⟨B, i, none⟩) h.lt
  have hf : ∀ i, w'.frozen? ⟨B, i, none⟩ = w.frozen? ⟨B, i, none⟩ := fun i => g.frozen (p := ⟨B, i, none⟩) h.lt
  obtain ⟨p, p0, p1, hp⟩ := h.place
  obtain ⟨s, s0, s1, hs⟩ := h.seed
  exact ⟨Nat.lt_of_lt_of_le h.lt g.size, (hc 0).trans h.code, ⟨p, p0, p1, (hc 1).trans hp⟩, ⟨s, s0, s1, (hc 2).trans hs⟩, (hf 1).trans h.free1, (hf 2).trans h.free2⟩
theorem Cur.but {B B' N : Nat} {sv : Value} {w w' : World} (h : Cur B N sv w) (g : But B' w w') (hB : B ≠ B') : Cur B N sv w' := by
  have hc : ∀ i, w'.cell? ⟨B, i, none⟩ = w.cell? ⟨B, i, none⟩ := fun i => g.cell B i h.lt hB
  have hf : ∀ i, w'.frozen? ⟨B, i, none⟩ = w.frozen? ⟨B, i, none⟩ := fun i => g.frozen B i h.lt hB
  obtain ⟨p, p0, p1, hp⟩ := h.place
  obtain ⟨s, s0, s1, hs⟩ := h.seed
  exact ⟨Nat.lt_of_lt_of_le h.lt g.size, (hc 0).trans h.code, ⟨p, p0, p1, (hc 1).trans hp⟩, ⟨s, s0, s1, (hc 2).trans hs⟩, (hf 1).trans h.free1, (hf 2).trans h.free2⟩
theorem Cur.mono {B N N' : Nat} {sv : Value} {w : World} (h : Cur B N sv w) (hN : N ≤ N') : Cur B N' sv w := by
  obtain ⟨p, p0, p1, hp⟩ := h.place
  exact ⟨h.lt, h.code, ⟨p, p0, by omega, hp⟩, h.seed, h.free1, h.free2⟩
theorem Cur.setOther {B N R : Nat} {sv : Value} {w : World} (h : Cur B N sv w) (hR : R ≠ B) (i : Nat) (v : Value) : Cur B N sv (w.setCell ⟨R, i, none⟩ v) :=
  h.but ((But.refl R w).setCell i v) (fun e => hR e.symm)
theorem Cur.alloc {B N : Nat} {sv : Value} {w : World} (h : Cur B N sv w) (o : Obj) : Cur B N sv (w.alloc o) := h.below ((Below.refl _ _).alloc (Nat.le_refl _) o)
/-- the cursor goes a place on -/
theorem Cur.step {B N : Nat} {sv : Value} {w : World} (h : Cur B N sv w) (p s : Int) (p0 : 0 ≤ p) (p1 : p ≤ N) (s0 : 0 ≤ s) (s1 : s < 18446744073709551616) :
    Cur B (N + 1) sv ((w.setCell ⟨B, 1, none⟩ (.int .i64 (p + 1))).setCell ⟨B, 2, none⟩ (.int .u64 s)) := by
  obtain ⟨q, _, _, hq⟩ := h.place
  obtain ⟨r, _, _, hr⟩ := h.seed
  have e12 : (⟨B, 1, none⟩ : Addr) ≠ ⟨B, 2, none⟩ := by simp
  have e10 : (⟨B, 1, none⟩ : Addr) ≠ ⟨B, 0, none⟩ := by simp
  have e20 : (⟨B, 2, none⟩ : Addr) ≠ ⟨B, 0, none⟩ := by simp
  have e21 : (⟨B, 2, none⟩ : Addr) ≠ ⟨B, 1, none⟩ := by simp
  refine ⟨by simpa [World.setCell] using h.lt, ?_, ⟨p + 1, by omega, by omega, ?_⟩, ⟨s, s0, s1, ?_⟩, ?_, ?_⟩
  · rw [World.cell?_setCell_other _ _ _ _ e20, World.cell?_setCell_other _ _ _ _ e10]; exact h.code
  · rw [World.cell?_setCell_other _ _ _ _ e21]; exact World.cell?_setCell_same _ _ _ hq
  · exact World.cell?_setCell_same _ _ _ ((World.cell?_setCell_other _ _ _ _ e12).trans hr)
  · rw [World.frozen?_setCell, World.frozen?_setCell]; exact h.free1
  · rw [World.frozen?_setCell, World.frozen?_setCell]; exact h.free2
theorem Cur.drew {B N : Nat} {sv : Value} {w : World} (h : Cur B N sv w) : Cur B N sv w.drew := ⟨h.lt, h.code, h.place, h.seed, h.free1, h.free2⟩
theorem Cur.start (sv : Value) (T : TypeId) (w : World) : Cur w.heap.size 0 sv (w.alloc (.cells #[sv, .int .i64 0, .int .u64 0] T)) :=
  ⟨by simp, by rw [World.cell?_alloc_new]; rfl, ⟨0, by omega, by omega, by rw [World.cell?_alloc_new]; rfl⟩, ⟨0, by omega, by omega, by rw [World.cell?_alloc_new]; rfl⟩, by go_simp, by go_simp⟩
theorem Code.start {len cap : Nat} {a : Option Addr} {w : World} (h : Code w.heap.size len cap a w) (o : Obj) : Code w.heap.size len cap a (w.alloc o) :=
  h.but ((But.refl w.heap.size _).alloc o) (Nat.le_refl _) (Nat.le_refl _)
theorem Code.below {B len cap : Nat} {a : Option Addr} {w w' : World} (h : Code B len cap a w) (g : Below B w w') : Code B len cap a w' := by
  refine ⟨h.small, fun h0 => ?_⟩
  obtain ⟨b, off, e, hb, hc⟩ := h.cell h0
  refine ⟨b, off, e, hb, fun i hi => ?_⟩
  obtain ⟨z, z0, z1, hz⟩ := hc i hi
  exact ⟨z, z0, z1, (g.cell (p := ⟨b, off + i, none⟩) hb).trans hz⟩
theorem Code.mono {B B' len cap : Nat} {a : Option Addr} {w : World} (h : Code B len cap a w) (hB : B ≤ B') : Code B' len cap a w :=
  ⟨h.small, fun h0 => by obtain ⟨b, off, e, hb, hc⟩ := h.cell h0; exact ⟨b, off, e, by omega, hc⟩⟩
theorem But.done {w w' : World} {o : Obj} (h : But w.heap.size (w.alloc o) w') : Below w.heap.size w w' :=
  ((Below.refl _ _).alloc (Nat.le_refl _) o).trans (h.below (Nat.le_refl _) (by simp))
end Go.Proofs.Ytiionfmpbifbcaa
namespace Go.Proofs.Ytiionfmpbifbcaa
open Go Go.RowKit
/-- what was there stands as it stood, but for the blocks lo .. hi - 1 -/
structure Out (lo hi : Nat) (w w' : World) : Prop where
  os : w'.os = w.os
  tape : w'.tape = w.tape
  output : w'.output = w.output
  size : w.heap.size ≤ w'.heap.size
  block : ∀ k, k < w.heap.size → (k < lo ∨ hi ≤ k) → w'.heap[k]? = w.heap[k]?
theorem Out.refl (lo hi : Nat) (w : World) : Out lo hi w w := ⟨rfl, rfl, rfl, Nat.le_refl _, fun _ _ _ => rfl⟩
theorem Out.ofBelow {lo hi : Nat} {w w' : World} (h : Below w.heap.size w w') : Out lo hi w w' := ⟨h.os, h.tape, h.output, h.size, fun k hk _ => h.block k hk⟩
theorem Out.ofBut {lo hi R : Nat} {w w' : World} (h : But R w w') (h1 : lo ≤ R) (h2 : R < hi) : Out lo hi w w' := ⟨h.os, h.tape, h.output, h.size, fun k hk hb => h.block k hk (by omega)⟩
theorem Out.trans {lo hi : Nat} {w w1 w2 : World} (h : Out lo hi w w1) (g : Out lo hi w1 w2) : Out lo hi w w2 :=
  ⟨g.os.trans h.os, g.tape.trans h.tape, g.output.trans h.output, Nat.le_trans h.size g.size, fun k hk hb => (g.block k (Nat.lt_of_lt_of_le hk h.size) hb).trans (h.block k hk hb)⟩
theorem Out.alloc {lo hi : Nat} {w w' : World} (h : Out lo hi w w') (o : Obj) : Out lo hi w (w'.alloc o) :=
  ⟨h.os, h.tape, h.output, by have := h.size; simp; omega, fun k hk hb => (Below.heap_alloc _ _ _ (Nat.lt_of_lt_of_le hk h.size)).trans (h.block k hk hb)⟩
theorem Out.below {lo hi B : Nat} {w w' : World} (h : Out lo hi w w') (h1 : B ≤ lo) (h2 : B ≤ w.heap.size) : Below B w w' :=
  ⟨h.os, h.tape, h.output, h.size, fun k hk => h.block k (by omega) (by omega)⟩
/-- cells of the law's own variables: each a block of one cell -/
def Loc (L : List (Nat × Value × TypeId)) (w : World) : Prop := ∀ x ∈ L, w.heap[x.1]? = some (.cells #[x.2.1] x.2.2)
theorem Loc.nil (w : World) : Loc [] w := fun _ h => by cases h
theorem Loc.cons {x : Nat × Value × TypeId} {L : List (Nat × Value × TypeId)} {w : World} (h : w.heap[x.1]? = some (.cells #[x.2.1] x.2.2)) (g : Loc L w) : Loc (x :: L) w := fun y hy => by
  rcases List.mem_cons.1 hy with rfl | hy
  · exact h
  · exact g y hy
theorem Loc.lt {L : List (Nat × Value × TypeId)} {w : World} (h : Loc L w) (x : Nat × Value × TypeId) (hx : x ∈ L) : x.1 < w.heap.size := by
  rcases Nat.lt_or_ge x.1 w.heap.size with h' | h'
  · exact h'
  · have := h x hx
    rw [Array.getElem?_eq_none h'] at this; cases this
theorem Loc.out {L : List (Nat × Value × TypeId)} {lo hi : Nat} {w w' : World} (h : Loc L w) (g : Out lo hi w w') (hL : ∀ x ∈ L, x.1 < lo ∨ hi ≤ x.1) : Loc L w' := fun x hx =>
  (g.block x.1 (h.lt x hx) (hL x hx)).trans (h x hx)
theorem Loc.below {L : List (Nat × Value × TypeId)} {w w' : World} (h : Loc L w) (g : Below w.heap.size w w') : Loc L w' := fun x hx =>
  (g.block x.1 (h.lt x hx)).trans (h x hx)
theorem Loc.alloc {L : List (Nat × Value × TypeId)} {w : World} (h : Loc L w) (v : Value) (t : TypeId) : Loc ((w.heap.size, v, t) :: L) (w.alloc (.cells #[v] t)) := by
  refine Loc.cons ?_ (h.below ((Below.refl _ _).alloc (Nat.le_refl _) _))
  show (w.heap.push _)[w.heap.size]? = _
  rw [Array.getElem?_push_size]
theorem Loc.cell {L : List (Nat × Value × TypeId)} {w : World} (h : Loc L w) (k : Nat) (v : Value) (t : TypeId) (hx : (k, v, t) ∈ L) : w.cell? ⟨k, 0, none⟩ = some v := by
  have := h _ hx
  unfold World.cell?
  rw [this]
  rfl
theorem Loc.free {L : List (Nat × Value × TypeId)} {w : World} (h : Loc L w) (k : Nat) (v : Value) (t : TypeId) (hx : (k, v, t) ∈ L) : w.frozen? ⟨k, 0, none⟩ = false := by
  have := h _ hx
  unfold World.frozen?
  rw [this]
  rfl
theorem Loc.set {L : List (Nat × Value × TypeId)} {w : World} (h : Loc L w) (R i : Nat) (v : Value) (hL : ∀ x ∈ L, x.1 ≠ R) : Loc L (w.setCell ⟨R, i, none⟩ v) := fun x hx =>
  (Below.heap_setCell _ _ _ _ (hL x hx)).trans (h x hx)
end Go.Proofs.Ytiionfmpbifbcaa
namespace Go.Proofs.Ytiionfmpbifbcaa
set_option maxRecDepth 100000
open Go Go.ChangeShapes Go.WideShapes Go.ChangeAt Go.RowKit
def scell (n : ByteArray) : List Value := [.string n]
/-- a slice of texts in memory below block B -/
def Ss (B : Nat) (a : Option Addr) (l : List ByteArray) (w : World) : Prop := GSl B 1 a (l.map scell) w
theorem Ss.cell {B : Nat} {a : Option Addr} {l : List ByteArray} {w : World} (h : Ss B a l w) (h0 : 0 < l.length) : ∃ b off, a = some ⟨b, off, none⟩ ∧ b < B ∧ ∀ i (hi : i < l.length), w.cell? ⟨b, off + i, none⟩ = some (.string l[i]) := by
  obtain ⟨b, off, e, hb, hc⟩ := GSl.cell h (by simpa using h0)
  refine ⟨b, off, e, hb, fun i hi => ?_⟩
  have c0 := hc i (by simpa using hi) 0 (by decide)
  rw [List.getElem_map, Nat.mul_one, Nat.add_zero] at c0
  exact c0
theorem Ss.below {B : Nat} {a : Option Addr} {l : List ByteArray} {w w' : World} (h : Ss B a l w) (g : Below B w w') : Ss B a l w' := GSl.below h g
theorem Ss.mono {B B' : Nat} {a : Option Addr} {l : List ByteArray} {w : World} (h : Ss B a l w) (hB : B ≤ B') : Ss B' a l w := GSl.mono h hB
/-- a row of texts that a call itself has made -/
def SRow (R : Nat) (l : List ByteArray) (w : World) : Prop := GRow R 1 (l.map scell) w
theorem SRow.lt {R : Nat} {l : List ByteArray} {w : World} (h : SRow R l w) : R < w.heap.size := GRow.lt h
theorem SRow.cell {R : Nat} {l : List ByteArray} {w : World} (h : SRow R l w) (i : Nat) (hi : i < l.length) : w.cell? ⟨R, i, none⟩ = some (.string l[i]) := by
  have c0 := GRow.cell h i (by simpa using hi) 0 (by decide)
  rw [List.getElem_map, Nat.mul_one, Nat.add_zero] at c0
  exact c0
theorem SRow.free {R : Nat} {l : List ByteArray} {w : World} (h : SRow R l w) (j : Nat) (hj : j < l.length) : w.frozen? ⟨R, j, none⟩ = false := GRow.free h j (by simpa using hj)
theorem SRow.below {R : Nat} {l : List ByteArray} {w w' : World} (h : SRow R l w) (hb : Below w.heap.size w w') : SRow R l w' := GRow.below h hb
theorem SRow.same {R : Nat} {l : List ByteArray} {w w' : World} (h : SRow R l w) (hs : w.heap.size ≤ w'.heap.size) (hb : w'.heap[R]? = w.heap[R]?) : SRow R l w' := GRow.same h hs hb
theorem SRow.sl {R B : Nat} {l : List ByteArray} {w : World} (h : SRow R l w) (hB : R < B) : Ss B (some ⟨R, 0, none⟩) l w := GRow.sl h hB
theorem SRow.set {R : Nat} {l : List ByteArray} {w : World} (h : SRow R l w) (k : Nat) (hk : k < l.length) (n : ByteArray) : SRow R (l.set k n) (w.setCell ⟨R, k, none⟩ (.string n)) := by
  have hk' : k < (l.map scell).length := by simpa using hk
  have := GRow.set h k 0 hk' (by decide) (.string n)
  rw [Nat.mul_one, Nat.add_zero] at this
  unfold SRow
  have e : (l.set k n).map scell = (l.map scell).set k ((l.map scell)[k].set 0 (.string n)) := by
    rw [List.map_set, List.getElem_map]; rfl
  rw [e]
  exact this
/-- texts that are owned in blocks lo .. hi - 1 (or none) -/
def OwnS (lo hi : Nat) (a : Option Addr) (l : List ByteArray) (w : World) : Prop := l = [] ∨ ∃ R, lo ≤ R ∧ R < hi ∧ a = some ⟨R, 0, none⟩ ∧ SRow R l w
theorem OwnS.out {lo hi l2 h2 : Nat} {a : Option Addr} {l : List ByteArray} {w w' : World} (h : OwnS lo hi a l w) (g : Out l2 h2 w w') (hd : hi ≤ l2 ∨ h2 ≤ lo) : OwnS lo hi a l w' := by
  rcases h with h | ⟨R, h1, h3, e, hr⟩
  · exact Or.inl h
  · exact Or.inr ⟨R, h1, h3, e, hr.same g.size (g.block R hr.lt (by omega))⟩
theorem OwnS.below {lo hi : Nat} {a : Option Addr} {l : List ByteArray} {w w' : World} (h : OwnS lo hi a l w) (g : Below w.heap.size w w') : OwnS lo hi a l w' := by
  rcases h with h | ⟨R, h1, h3, e, hr⟩
  · exact Or.inl h
  · exact Or.inr ⟨R, h1, h3, e, hr.below g⟩
theorem OwnS.ss {lo hi : Nat} {a : Option Addr} {l : List ByteArray} {w : World} (h : OwnS lo hi a l w) : Ss w.heap.size a l w := by
  rcases h with rfl | ⟨R, h1, h3, rfl, hr⟩
  · exact ⟨fun h0 => absurd h0 (by simp)⟩
  · exact hr.sl hr.lt
end Go.Proofs.Ytiionfmpbifbcaa
namespace Go.Proofs.Ytiionfmpbifbcaa
set_option maxRecDepth 100000
open Go Go.ChangeShapes Go.WideShapes Go.ChangeAt Go.RowKit
def icell (n : Int) : List Value := [.int .i64 n]
/-- a slice of numbers in memory below block B -/
def Is (B : Nat) (a : Option Addr) (l : List Int) (w : World) : Prop := GSl B 1 a (l.map icell) w
theorem Is.cell {B : Nat} {a : Option Addr} {l : List Int} {w : World} (h : Is B a l w) (h0 : 0 < l.length) : ∃ b off, a = some ⟨b, off, none⟩ ∧ b < B ∧ ∀ i (hi : i < l.length), w.cell? ⟨b, off + i, none⟩ = some (.int .i64 l[i]) := by
  obtain ⟨b, off, e, hb, hc⟩ := GSl.cell h (by simpa using h0)
  refine ⟨b, off, e, hb, fun i hi => ?_⟩
  have c0 := hc i (by simpa using hi) 0 (by decide)
  rw [List.getElem_map, Nat.mul_one, Nat.add_zero] at c0
  exact c0
theorem Is.below {B : Nat} {a : Option Addr} {l : List Int} {w w' : World} (h : Is B a l w) (g : Below B w w') : Is B a l w' := GSl.below h g
theorem Is.mono {B B' : Nat} {a : Option Addr} {l : List Int} {w : World} (h : Is B a l w) (hB : B ≤ B') : Is B' a l w := GSl.mono h hB
/-- a row of numbers that a call itself has made -/
def IRow (R : Nat) (l : List Int) (w : World) : Prop := GRow R 1 (l.map icell) w
theorem IRow.lt {R : Nat} {l : List Int} {w : World} (h : IRow R l w) : R < w.heap.size := GRow.lt h
theorem IRow.cell {R : Nat} {l : List Int} {w : World} (h : IRow R l w) (i : Nat) (hi : i < l.length) : w.cell? ⟨R, i, none⟩ = some (.int .i64 l[i]) := by
  have c0 := GRow.cell h i (by simpa using hi) 0 (by decide)
  rw [List.getElem_map, Nat.mul_one, Nat.add_zero] at c0
  exact c0
theorem IRow.free {R : Nat} {l : List Int} {w : World} (h : IRow R l w) (j : Nat) (hj : j < l.length) : w.frozen? ⟨R, j, none⟩ = false := GRow.free h j (by simpa using hj)
theorem IRow.below {R : Nat} {l : List Int} {w w' : World} (h : IRow R l w) (hb : Below w.heap.size w w') : IRow R l w' := GRow.below h hb
theorem IRow.same {R : Nat} {l : List Int} {w w' : World} (h : IRow R l w) (hs : w.heap.size ≤ w'.heap.size) (hb : w'.heap[R]? = w.heap[R]?) : IRow R l w' := GRow.same h hs hb
theorem IRow.sl {R B : Nat} {l : List Int} {w : World} (h : IRow R l w) (hB : R < B) : Is B (some ⟨R, 0, none⟩) l w := GRow.sl h hB
theorem IRow.set {R : Nat} {l : List Int} {w : World} (h : IRow R l w) (k : Nat) (hk : k < l.length) (n : Int) : IRow R (l.set k n) (w.setCell ⟨R, k, none⟩ (.int .i64 n)) := by
  have hk' : k < (l.map icell).length := by simpa using hk
  have := GRow.set h k 0 hk' (by decide) (.int .i64 n)
  rw [Nat.mul_one, Nat.add_zero] at this
  unfold IRow
  have e : (l.set k n).map icell = (l.map icell).set k ((l.map icell)[k].set 0 (.int .i64 n)) := by
    rw [List.map_set, List.getElem_map]; rfl
  rw [e]
  exact this
/-- numbers that are owned in blocks lo .. hi - 1 (or none) -/
def OwnI (lo hi : Nat) (a : Option Addr) (l : List Int) (w : World) : Prop := l = [] ∨ ∃ R, lo ≤ R ∧ R < hi ∧ a = some ⟨R, 0, none⟩ ∧ IRow R l w
theorem OwnI.out {lo hi l2 h2 : Nat} {a : Option Addr} {l : List Int} {w w' : World} (h : OwnI lo hi a l w) (g : Out l2 h2 w w') (hd : hi ≤ l2 ∨ h2 ≤ lo) : OwnI lo hi a l w' := by
  rcases h with h | ⟨R, h1, h3, e, hr⟩
  · exact Or.inl h
  · exact Or.inr ⟨R, h1, h3, e, hr.same g.size (g.block R hr.lt (by omega))⟩
theorem OwnI.below {lo hi : Nat} {a : Option Addr} {l : List Int} {w w' : World} (h : OwnI lo hi a l w) (g : Below w.heap.size w w') : OwnI lo hi a l w' := by
  rcases h with h | ⟨R, h1, h3, e, hr⟩
  · exact Or.inl h
  · exact Or.inr ⟨R, h1, h3, e, hr.below g⟩
theorem OwnI.is {lo hi : Nat} {a : Option Addr} {l : List Int} {w : World} (h : OwnI lo hi a l w) : Is w.heap.size a l w := by
  rcases h with rfl | ⟨R, h1, h3, rfl, hr⟩
  · exact ⟨fun h0 => absurd h0 (by simp)⟩
  · exact hr.sl hr.lt
end Go.Proofs.Ytiionfmpbifbcaa
namespace Go.Proofs.Ytiionfmpbifbcaa
open Go Go.RowKit
theorem hid {p : Prop} (h : p) : Hid p := h
theorem belowN (w : World) (n : Nat) : Below w.heap.size w (w.drewN n) := ⟨rfl, rfl, rfl, Nat.le_refl _, fun _ _ => rfl⟩
theorem boxB (w : World) (o : Obj) : Below w.heap.size w (w.alloc o) := (Below.refl _ _).alloc (Nat.le_refl _) _
theorem box_cell {wr : World} {R : Nat} {cs : Array Value} {t : TypeId} (h : wr.heap[R]? = some (.cells cs t)) (i : Nat) : wr.cell? ⟨R, i, none⟩ = cs[i]? := by
  unfold World.cell?
  rw [h]
  rfl
theorem box_free {wr : World} {R : Nat} {cs : Array Value} {t : TypeId} (h : wr.heap[R]? = some (.cells cs t)) (i : Nat) : wr.frozen? ⟨R, i, none⟩ = false := by
  unfold World.frozen?
  rw [h]
  simp
theorem box_set {wr : World} {R : Nat} {cs : Array Value} {t : TypeId} (h : wr.heap[R]? = some (.cells cs t)) (i : Nat) (u : Value) : (wr.setCell ⟨R, i, none⟩ u).heap[R]? = some (.cells (cs.setIfInBounds i u) t) := by
  unfold World.setCell
  simp only
  rw [Array.getElem?_modify, if_pos rfl, h]
  rfl
theorem keepB (w : World) (R i : Nat) (u : Value) (k : Nat) (h : k ≠ R) : (w.setCell ⟨R, i, none⟩ u).heap[k]? = w.heap[k]? := Below.heap_setCell _ _ _ _ h
theorem setB {B : Nat} {a w : World} (h : Below B a w) (R i : Nat) (hp : B ≤ R) (u : Value) : Below B a (w.setCell ⟨R, i, none⟩ u) := h.setCell hp u
theorem ret_bd {a b : Bool} (h : a = b) : Ending.returned (.bool a) = .returned (.bool b) := by rw [h]
end Go.Proofs.Ytiionfmpbifbcaa
namespace Go.Proofs.Ytiionfmpbifbcaa
set_option maxRecDepth 100000
open Go Go.ChangeShapes Go.WideShapes Go.ChangeAt Go.RowKit
/-- a layer -/
structure Ly where
  mark : Int
  bl : List Int
  dt : List ByteArray
/-- the number ahead of place k, -1 for none -/
def aheadI (l : List Int) : Nat → Int
  | 0 => -1
  | k + 1 => l.getD k 0
theorem aheadI_at (l : List Int) (k : Nat) (h : k < l.length) : aheadI l (k + 1) = l[k] := by
  show l.getD k 0 = _
  rw [List.getD_eq_getElem?_getD, List.getElem?_eq_getElem h]; rfl
/-- the k-th number of blocks is a block and rises -/
def blOk (l : List Int) (k : Nat) (x : Int) : Prop := aheadI l k < x ∧ 0 ≤ x ∧ x ≤ 15
instance (l : List Int) (k : Nat) (x : Int) : Decidable (blOk l k x) := by unfold blOk; infer_instance
def RiseOk (l : List Int) : Prop := ∀ k (h : k < l.length), blOk l k l[k]
instance (l : List Int) : Decidable (RiseOk l) := by unfold RiseOk; infer_instance
def TwoOk (l : List ByteArray) : Prop := ∀ k (h : k < l.length), l[k].size = 2
instance (l : List ByteArray) : Decidable (TwoOk l) := by unfold TwoOk; infer_instance
/-- a layer that is good, but for its mark -/
def lyOk (y : Ly) : Prop := RiseOk y.bl ∧ y.dt.length = y.bl.length ∧ TwoOk y.dt
instance (y : Ly) : Decidable (lyOk y) := by unfold lyOk; infer_instance
def aheadM (S : List Ly) : Nat → Int
  | 0 => -1
  | k + 1 => (S.map (·.mark)).getD k 0
theorem aheadM_at (S : List Ly) (k : Nat) (h : k < S.length) : aheadM S (k + 1) = S[k].mark := by
  show (S.map (·.mark)).getD k 0 = _
  rw [List.getD_eq_getElem?_getD, List.getElem?_map, List.getElem?_eq_getElem h]; rfl
/-- the k-th layer is good -/
def lyAt (S : List Ly) (k : Nat) (y : Ly) : Prop := aheadM S k < y.mark ∧ 0 ≤ y.mark ∧ y.mark ≤ 200 ∧ lyOk y
instance (S : List Ly) (k : Nat) (y : Ly) : Decidable (lyAt S k y) := by unfold lyAt; infer_instance
def LysOk (S : List Ly) : Prop := ∀ k (h : k < S.length), lyAt S k S[k]
instance (S : List Ly) : Decidable (LysOk S) := by unfold LysOk; infer_instance
def GoodK (S : List Ly) : Prop := 1 ≤ S.length ∧ S.length ≤ 8 ∧ LysOk S
instance (S : List Ly) : Decidable (GoodK S) := by unfold GoodK; infer_instance
def goodK (S : List Ly) : Bool := decide (GoodK S)
theorem goodK_iff {S : List Ly} : goodK S = true ↔ GoodK S := by unfold goodK; exact decide_eq_true_iff
theorem goodK_no {S : List Ly} (h : ¬ GoodK S) : goodK S = false := decide_eq_false h
theorem goodK_bad {S : List Ly} (k : Nat) (hk : k < S.length) (h : ¬ lyAt S k S[k]) : goodK S = false := goodK_no (fun g => h (g.2.2 k hk))
/-- layers in memory below block B -/
def Ys (B : Nat) (a : Option Addr) (S : List Ly) (w : World) : Prop := 0 < S.length → ∃ b off, a = some ⟨b, off, none⟩ ∧ b < B ∧ ∀ i (hi : i < S.length), ∃ p c q d, w.cell? ⟨b, off + i * 3, none⟩ = some (.int .i64 S[i].mark) ∧ w.cell? ⟨b, off + i * 3 + 1, none⟩ = some (.slice p S[i].bl.length c) ∧ w.cell? ⟨b, off + i * 3 + 2, none⟩ = some (.slice q S[i].dt.length d) ∧ Is B p S[i].bl w ∧ Ss B q S[i].dt w
theorem Ys.below {B : Nat} {a : Option Addr} {S : List Ly} {w w' : World} (h : Ys B a S w) (g : Below B w w') : Ys B a S w' := fun h0 => by
  obtain ⟨b, off, e, hb, hc⟩ := h h0
  refine ⟨b, off, e, hb, fun i hi => ?_⟩
  obtain ⟨p, c, q, d, h1, h2, h3, h4, h5⟩ := hc i hi
  exact ⟨p, c, q, d, (g.cell (p := ⟨b, _, none⟩) hb).trans h1, (g.cell (p := ⟨b, _, none⟩) hb).trans h2, (g.cell (p := ⟨b, _, none⟩) hb).trans h3, h4.below g, h5.below g⟩
theorem Ys.mono {B B' : Nat} {a : Option Addr} {S : List Ly} {w : World} (h : Ys B a S w) (hB : B ≤ B') : Ys B' a S w := fun h0 => by
  obtain ⟨b, off, e, hb, hc⟩ := h h0
  refine ⟨b, off, e, by omega, fun i hi => ?_⟩
  obtain ⟨p, c, q, d, h1, h2, h3, h4, h5⟩ := hc i hi
  exact ⟨p, c, q, d, h1, h2, h3, h4.mono hB, h5.mono hB⟩
theorem Ys.up {B : Nat} {a : Option Addr} {S : List Ly} {w w' : World} (h : Ys B a S w) (g : Below B w w') (hB : B ≤ w'.heap.size) : Ys w'.heap.size a S w' := (h.below g).mono hB
/-- a layer's value -/
def lyv (m : Int) (p : Option Addr) (n c : Nat) (q : Option Addr) (k d : Nat) : Value := .agg #[.int .i64 m, .slice p n c, .slice q k d]
end Go.Proofs.Ytiionfmpbifbcaa
