/- Small texts that the others stand on, in one. -/
import Derived.WalkKit
import Derived.Laws.MakeOwn
import Derived.ProofKit
import Derived.OpenShut
import Derived.Deep.Slices
import Derived.Deep.Strs
import Derived.SizedLaws
import Derived.Laws.IdiomStrings
import Derived.Lib.ConvBytes
import Derived.BigQuiet
import Derived.Test.YtmbkdollakbigaaChecked
import Derived.Laws.BytesArg
import Derived.Laws.AppendOwn
import Derived.Laws.CopyOwn
import Derived.RegionTactic
import Derived.Deep.RegionWith
import Derived.Maps.AppendAt
namespace Go.Proofs.Ytmbkdollakbigaa
open Go Go.RowKit
theorem heap_last (w : World) (o : Obj) : (w.alloc o).heap[w.heap.size]? = some o := by
  show (w.heap.push o)[w.heap.size]? = _
  rw [Array.getElem?_push_size]
theorem heap_size (w : World) (o : Obj) : (w.alloc o).heap.size = w.heap.size + 1 := by simp
theorem heap_last2 (w : World) (a o : Obj) : ((w.alloc a).alloc o).heap[w.heap.size + 1]? = some o := by
  rw [← heap_size w a]; exact heap_last _ _
theorem heap_mid2 (w : World) (a o : Obj) : ((w.alloc a).alloc o).heap[w.heap.size]? = some a := by
  rw [Below.heap_alloc _ _ _ (by rw [heap_size]; omega)]; exact heap_last _ _
theorem heap_last3 (w : World) (a b o : Obj) : (((w.alloc a).alloc b).alloc o).heap[w.heap.size + 1 + 1]? = some o := by
  rw [← heap_size w a, ← heap_size (w.alloc a) b]; exact heap_last _ _
theorem heap_mid3 (w : World) (a b o : Obj) : (((w.alloc a).alloc b).alloc o).heap[w.heap.size + 1]? = some b := by
  rw [Below.heap_alloc _ _ _ (by rw [heap_size, heap_size]; omega)]; exact heap_last2 _ _ _
/-- a row that a call itself has made, at block R: s cells an element -/
structure GRow (R s : Nat) (rows : List (List Value)) (w : World) : Prop where
  lt : R < w.heap.size
  wide : ∀ i (hi : i < rows.length), rows[i].length = s
  cell : ∀ i (hi : i < rows.length) j, j < s → w.cell? ⟨R, i * s + j, none⟩ = rows[i][j]?
  free : ∀ j, j < rows.length * s → w.frozen? ⟨R, j, none⟩ = false
theorem at_inj {s i j k l : Nat} (hj : j < s) (hl : l < s) (h : i * s + j = k * s + l) : i = k ∧ j = l := by
  have h1 : (i * s + j) / s = i := by rw [Nat.mul_comm, Nat.mul_add_div (by omega), Nat.div_eq_of_lt hj]; rfl
  have h2 : (k * s + l) / s = k := by rw [Nat.mul_comm, Nat.mul_add_div (by omega), Nat.div_eq_of_lt hl]; rfl
  have e : i = k := by rw [← h1, h, h2]
  subst e
  omega
theorem at_lt {s i j n : Nat} (hi : i < n) (hj : j < s) : i * s + j < n * s := by
  have : (i + 1) * s ≤ n * s := Nat.mul_le_mul_right s hi
  rw [Nat.add_mul, Nat.one_mul] at this
  omega
theorem GRow.set {R s : Nat} {rows : List (List Value)} {w : World} (h : GRow R s rows w) (k j : Nat) (hk : k < rows.length) (hj : j < s) (v : Value) :
    GRow R s (rows.set k (rows[k].set j v)) (w.setCell ⟨R, k * s + j, none⟩ v) := by
  refine ⟨by simpa [World.setCell] using h.lt, ?_, ?_, ?_⟩
  · intro i hi
    have hi' : i < rows.length := by simpa using hi
    rw [List.getElem_set]
    split
    · rw [List.length_set]; exact h.wide k hk
    · exact h.wide i hi'
  · intro i hi l hl
    have hi' : i < rows.length := by simpa using hi
    by_cases e : i = k
    · subst e
      have hkey : (rows.set i (rows[i].set j v))[i] = rows[i].set j v := List.getElem_set_self _
      rw [hkey]
      by_cases e2 : l = j
      · subst e2
        have hw := h.wide i hi'
        have hc := h.cell i hi' l hl
        rw [List.getElem?_eq_getElem (by omega)] at hc
        rw [World.cell?_setCell_same _ _ _ hc, List.getElem?_set_self (by omega)]
      · rw [List.getElem?_set_ne (fun e3 => e2 e3.symm), ← h.cell i hi' l hl]
        exact World.cell?_setCell_other _ _ _ _ (fun e3 => by
          have h3 : i * s + j = i * s + l := congrArg Addr.off e3
          omega)
    · have hkey : (rows.set k (rows[k].set j v))[i] = rows[i] := List.getElem_set_ne (fun e3 => e e3.symm) _
      rw [hkey, ← h.cell i hi' l hl]
      exact World.cell?_setCell_other _ _ _ _ (fun e3 => by
        have h3 : k * s + j = i * s + l := congrArg Addr.off e3
        exact e (at_inj hj hl h3).1.symm)
  · intro l hl
    rw [World.frozen?_setCell]
    exact h.free l (by simpa using hl)
theorem GRow.drew {R s : Nat} {rows : List (List Value)} {w : World} (h : GRow R s rows w) : GRow R s rows w.drew := ⟨h.lt, h.wide, h.cell, h.free⟩
theorem GRow.below {R s : Nat} {rows : List (List Value)} {w w' : World} (h : GRow R s rows w) (hb : Below w.heap.size w w') : GRow R s rows w' :=
  ⟨Nat.lt_of_lt_of_le h.lt hb.size, h.wide, fun i hi j hj => (hb.cell (p := ⟨R, _, none⟩) h.lt).trans (h.cell i hi j hj), fun j hj => (hb.frozen (p := ⟨R, _, none⟩) h.lt).trans (h.free j hj)⟩
/-- nothing of block R has turned -/
theorem GRow.same {R s : Nat} {rows : List (List Value)} {w w' : World} (h : GRow R s rows w) (hs : w.heap.size ≤ w'.heap.size) (hb : w'.heap[R]? = w.heap[R]?) : GRow R s rows w' := by
  have hc : ∀ o, w'.cell? ⟨R, o, none⟩ = w.cell? ⟨R, o, none⟩ := fun o => by unfold World.cell?; simp only [hb]
  have hf : ∀ o, w'.frozen? ⟨R, o, none⟩ = w.frozen? ⟨R, o, none⟩ := fun o => by unfold World.frozen?; simp only [hb]
  exact ⟨Nat.lt_of_lt_of_le h.lt hs, h.wide, fun i hi j hj => (hc _).trans (h.cell i hi j hj), fun j hj => (hf _).trans (h.free j hj)⟩
/-- the row behind 'make([]T, n)': n elements, each its type's zero value -/
theorem GRow.made (w : World) (T : TypeId) (n : Nat) (z : Array Value) : GRow w.heap.size z.size (List.replicate n z.toList) (w.alloc (.cells (madeCells z (n * z.size)) T)) := by
  refine ⟨by go_simp, ?_, ?_, ?_⟩
  · intro i hi
    rw [List.getElem_replicate]; simp
  · intro i hi j hj
    have hi' : i < n := by simpa using hi
    have hlt := at_lt hi' hj
    rw [World.cell?_alloc_new, List.getElem_replicate]
    have e : (i * z.size + j) % z.size = j := by rw [Nat.mul_comm, Nat.mul_add_mod, Nat.mod_eq_of_lt hj]
    simp [madeCells, hlt, e, hj]
  · intro j hj
    go_simp
/-- a slice of structs that came in, in memory below block B -/
structure GSl (B s : Nat) (a : Option Addr) (rows : List (List Value)) (w : World) : Prop where
  cell : 0 < rows.length → ∃ b off, a = some ⟨b, off, none⟩ ∧ b < B ∧ ∀ i (hi : i < rows.length) j, j < s → w.cell? ⟨b, off + i * s + j, none⟩ = rows[i][j]?
theorem GSl.below {B s : Nat} {a : Option Addr} {rows : List (List Value)} {w w' : World} (h : GSl B s a rows w) (g : Below B w w') : GSl B s a rows w' := by
  refine ⟨fun h0 => ?_⟩
  obtain ⟨b, off, e, hb, hc⟩ := h.cell h0
  exact ⟨b, off, e, hb, fun i hi j hj => (g.cell (p := ⟨b, _, none⟩) hb).trans (hc i hi j hj)⟩
theorem GSl.mono {B B' s : Nat} {a : Option Addr} {rows : List (List Value)} {w : World} (h : GSl B s a rows w) (hB : B ≤ B') : GSl B' s a rows w :=
  ⟨fun h0 => by obtain ⟨b, off, e, hb, hc⟩ := h.cell h0; exact ⟨b, off, e, by omega, hc⟩⟩
/-- a made row read as a slice -/
theorem GRow.sl {R s B : Nat} {rows : List (List Value)} {w : World} (h : GRow R s rows w) (hB : R < B) : GSl B s (some ⟨R, 0, none⟩) rows w :=
  ⟨fun _ => ⟨R, 0, rfl, hB, fun i hi j hj => by rw [Nat.zero_add]; exact h.cell i hi j hj⟩⟩
end Go.Proofs.Ytmbkdollakbigaa
namespace Go.Proofs.Ytmbkdollakbigaa
open Go Go.ChangeShapes Go.WideShapes Go.ChangeAt Go.RowKit Go.Deep
theorem list_of {α β : Type} {f : α → β} {Q : α → Prop} : ∀ (l : List β), (∀ x ∈ l, ∃ z, x = f z ∧ Q z) → ∃ zs : List α, l = zs.map f ∧ ∀ z ∈ zs, Q z
  | [], _ => ⟨[], rfl, fun _ h => by cases h⟩
  | x :: l, h => by
    obtain ⟨z, hz, qz⟩ := h x (List.mem_cons_self)
    obtain ⟨zs, hzs, qzs⟩ := list_of l (fun y hy => h y (List.mem_cons_of_mem _ hy))
    refine ⟨z :: zs, by rw [List.map_cons, ← hz, ← hzs], fun y hy => ?_⟩
    rcases List.mem_cons.1 hy with rfl | hy
    · exact qz
    · exact qzs y hy
theorem gsl_of {H : Type} {enc : TypeId × Value → H} {P : Program} {W : World} {t e : TypeId} {s fuel : Nat} (ht : P.underlying t = some (.slice e)) (hs : P.cellsOf e = s) (hs0 : 0 < s)
    {a : Option Addr} {len cap : Nat} {y : DataW H × List MemPlace} (h : DataW.trod enc P W 0 (fun _ => true) true fuel t [.slice a len cap] = some y) :
    ∃ rows : List (List Value), rows.length = len ∧ GSl W.heap.size s a rows W ∧ (∀ r ∈ rows, ∃ n x, DataW.trod enc P W 0 (fun _ => true) true n e r = some x) ∧
      len ≤ maxLen := by
  rcases open_slice ht h with ⟨hcs, hx⟩ | ⟨x, l, c, m, n, D, Pl, hcs, _, hl, hm, hmm, hx, hall⟩
  · obtain ⟨rfl, rfl, rfl⟩ : a = none ∧ len = 0 ∧ cap = 0 := by simpa using hcs
    exact ⟨[], rfl, ⟨fun h0 => absurd h0 (by simp)⟩, (fun r hr => absurd hr (by simp)), Nat.zero_le _⟩
  · obtain ⟨rfl, rfl, rfl⟩ : a = some x ∧ len = l ∧ cap = c := by simpa using hcs
    have hmc : m = cap := by simpa using hmm
    rw [hs] at hall
    obtain ⟨f, hf⟩ := @choose_lt (List Value) ⟨[]⟩ m (fun i cs' => W.cells? 0 (x.add (i * s)) s = some cs' ∧ DataW.trod enc P W 0 (fun _ => true) true n e cs' = some (D i, Pl i)) hall
    refine ⟨(List.range len).map f, by simp, ⟨fun h0 => ?_⟩, ?_, by omega⟩
    · have h0' : 0 < len := by simpa using h0
      obtain ⟨_, hl0, hc0⟩ := World.cells?_some (hf 0 (by omega)).1
      have hcell0 := hc0 0 (by omega)
      obtain ⟨b, off, spot⟩ := x
      have hspot : spot = none := by
        have := hcell0
        rw [add_add] at this
        rw [List.getElem?_eq_getElem (by omega)] at this
        simpa [Addr.add] using World.cell?_spot this
      subst hspot
      refine ⟨b, off, rfl, ?_, fun i hi j hj => ?_⟩
      · rw [List.getElem?_eq_getElem (by omega), add_add, add_plain] at hcell0
        exact World.block_lt_of_cell? _ _ hcell0
      · have hi' : i < len := by simpa using hi
        obtain ⟨_, hli, hci⟩ := World.cells?_some (hf i (by omega)).1
        have := hci j hj
        rw [add_add, add_plain] at this
        rw [List.getElem_map, List.getElem_range, Nat.add_assoc]
        exact this
    · intro r hr
      rw [List.mem_map] at hr
      obtain ⟨i, hi, rfl⟩ := hr
      have hi' : i < len := List.mem_range.1 hi
      exact ⟨n, _, (hf i (by omega)).2⟩
end Go.Proofs.Ytmbkdollakbigaa
namespace Go.Proofs.Ytmbkdollakbigaa
open Go Go.RowKit
structure ByteRow (B : Nat) (l : List UInt8) (w : World) : Prop where
  lt : B < w.heap.size
  cell : ∀ j (hj : j < l.length), w.cell? ⟨B, j, none⟩ = some (.int .u8 (l[j].toNat : Int))
  free : ∀ j, j < l.length → w.frozen? ⟨B, j, none⟩ = false
theorem ByteRow.drew {B : Nat} {l : List UInt8} {w : World} (h : ByteRow B l w) : ByteRow B l w.drew :=
  ⟨by go_simp; exact h.lt, fun j hj => by go_simp; exact h.cell j hj, fun j hj => by go_simp; exact h.free j hj⟩
theorem ByteRow.set {B : Nat} {l : List UInt8} {w : World} (h : ByteRow B l w) (k : Nat) (hk : k < l.length) (x : UInt8) : ByteRow B (l.set k x) (w.setCell ⟨B, k, none⟩ (.int .u8 (x.toNat : Int))) := by
  refine ⟨?_, ?_, ?_⟩
  · go_simp; exact h.lt
  · intro j hj
    have hj' : j < l.length := by simpa using hj
    by_cases e : k = j
    · subst e
      rw [List.getElem_set_self]
      exact World.cell?_setCell_same _ _ _ (h.cell k hk)
    · rw [List.getElem_set_ne e, ← h.cell j hj']
      exact World.cell?_setCell_other _ _ _ _ (by simp only [ne_eq, Addr.mk.injEq, true_and, and_true]; exact e)
  · intro j hj
    have hj' : j < l.length := by simpa using hj
    rw [World.frozen?_setCell]
    exact h.free j hj'
theorem ByteRow.below {B : Nat} {l : List UInt8} {w w' : World} (h : ByteRow B l w) (hb : Below w.heap.size w w') : ByteRow B l w' :=
  ⟨Nat.lt_of_lt_of_le h.lt hb.size, fun j hj => (hb.cell (p := ⟨B, j, none⟩) h.lt).trans (h.cell j hj), fun j hj => (hb.frozen (p := ⟨B, j, none⟩) h.lt).trans (h.free j hj)⟩
/-- the row behind '[]byte(s)' -/
theorem ByteRow.ofString (w : World) (s : ByteArray) : ByteRow w.heap.size s.data.toList (Lib.bytesWorld w 5 s) := by
  refine ⟨by rw [Lib.bytesWorld_size]; omega, fun j hj => ?_, fun j hj => ?_⟩
  · rw [Lib.bytesWorld_cell w 5 s j (by simpa using hj), List.getD_eq_getElem?_getD, List.getElem?_eq_getElem hj]; rfl
  · have hc : j < (Lib.bytesCells w 5 s).size := by
      simp [Lib.bytesCells]
      have : j < s.size := by simpa using hj
      omega
    unfold World.frozen?
    rw [Lib.bytesWorld_at_new]
    simp
    omega
theorem bytesWorld_below (w : World) (s : ByteArray) : Below w.heap.size w (Lib.bytesWorld w 5 s) :=
  ⟨rfl, rfl, rfl, by rw [Lib.bytesWorld_size]; omega, fun k hk => Lib.bytesWorld_at_old w 5 s k hk⟩
theorem made_get (n j : Nat) (hj : j < n) : (madeCells (Value.int .u8 0).cells n)[j]? = some (.int .u8 0) := by
  simp [madeCells, hj, Value.cells]
  rw [Nat.mod_one]
  rfl
/-- the row behind 'make([]byte, n)' -/
theorem ByteRow.made (w : World) (n : Nat) : ByteRow w.heap.size (List.replicate n 0) (w.alloc (.cells (madeCells (Value.int .u8 0).cells n) 5)) := by
  refine ⟨by go_simp, fun j hj => ?_, fun j hj => ?_⟩
  · have hj' : j < n := by simpa using hj
    rw [World.cell?_alloc_new, made_get n j hj']
    simp
  · go_simp
/-- two rows joined at a place, and the store that moves the place on -/
theorem mix_set (X Y : List UInt8) (k : Nat) (hX : k < X.length) (hY : Y.length = X.length) : (X.take k ++ Y.drop k).set k (X[k]) = X.take (k + 1) ++ Y.drop (k + 1) := by
  apply List.ext_getElem?
  intro i
  rw [List.getElem?_set]
  by_cases e : k = i
  · subst e
    have h1 : k < (X.take k ++ Y.drop k).length := by simp; omega
    rw [if_pos rfl, if_pos h1, List.getElem?_append_left (by simp; omega), List.getElem?_take, if_pos (by omega), List.getElem?_eq_getElem hX]
  · rw [if_neg e]
    by_cases hi : i < k
    · rw [List.getElem?_append_left (by simp; omega), List.getElem?_append_left (by simp; omega), List.getElem?_take, List.getElem?_take, if_pos hi, if_pos (by omega)]
    · rw [List.getElem?_append_right (by simp; omega), List.getElem?_append_right (by simp; omega), List.getElem?_drop, List.getElem?_drop]
      congr 1
      simp
      omega
theorem mix_length (X Y : List UInt8) (k : Nat) (hk : k ≤ X.length) (hY : Y.length = X.length) : (X.take k ++ Y.drop k).length = X.length := by simp; omega
theorem mix_at (X Y : List UInt8) (k : Nat) (hk : k < X.length) (hY : Y.length = X.length) (h : k < (X.take k ++ Y.drop k).length) : (X.take k ++ Y.drop k)[k] = Y[k] := by
  rw [List.getElem_append_right (by simp; omega), List.getElem_drop]
  congr 1
  simp
  omega
theorem ByteRow.step {B : Nat} {X Y : List UInt8} {k : Nat} {w : World} (h : ByteRow B (X.take k ++ Y.drop k) w) (hX : k < X.length) (hY : Y.length = X.length) {v : Int} (hv : v = (X[k].toNat : Int)) :
    ByteRow B (X.take (k + 1) ++ Y.drop (k + 1)) (w.setCell ⟨B, k, none⟩ (.int .u8 v)).drew := by
  rw [hv, ← mix_set X Y k hX hY]
  exact (h.set k (by rw [mix_length X Y k (by omega) hY]; exact hX) _).drew
theorem ByteRow.back {P : Program} {B n cap : Nat} {l : List UInt8} {w : World} (h : ByteRow B l w) (hn : n = l.length) (src dst : TypeId)
    (hs : P.underlying src = some (.slice 5)) (he : P.underlying 5 = some (.int .u8)) (hd : P.underlying dst = some .string) :
    Sem.run P (convert src dst (.slice (some ⟨B, 0, none⟩) n cap)) w = .ok (.string ⟨l.toArray⟩) w := by
  subst hn
  refine run_convert_bytes_back w src dst 5 ⟨B, 0, none⟩ cap l hs he hd (fun j hj => ?_)
  have e : (⟨B, 0, none⟩ : Addr).add j = ⟨B, j, none⟩ := by simp [Addr.add]; omega
  rw [e]
  exact h.cell j hj
theorem mix_end (X Y : List UInt8) (k : Nat) (h : X.length ≤ k) (hY : Y.length = X.length) : X.take k ++ Y.drop k = X := by
  rw [List.take_of_length_le h, List.drop_of_length_le (by omega), List.append_nil]
theorem xor_u8 (x y : UInt8) : bits .xor .u8 (x.toNat : Int) (y.toNat : Int) = ((x ^^^ y).toNat : Int) := by
  have hx := x.toNat_lt
  have hy := y.toNat_lt
  rw [u8_xor_nat _ _ (by omega) (by omega), UInt8.toNat_xor]
end Go.Proofs.Ytmbkdollakbigaa
namespace Go.Proofs.Ytmbkdollakbigaa
open Go Go.RowKit
/-- what was there stands as it stood, but for block B -/
structure But (B : Nat) (w w' : World) : Prop where
  os : w'.os = w.os
  tape : w'.tape = w.tape
  output : w'.output = w.output
  size : w.heap.size ≤ w'.heap.size
  block : ∀ k, k < w.heap.size → k ≠ B → w'.heap[k]? = w.heap[k]?
theorem But.refl (B : Nat) (w : World) : But B w w := ⟨rfl, rfl, rfl, Nat.le_refl _, fun _ _ _ => rfl⟩
theorem But.trans {B : Nat} {w w1 w2 : World} (h : But B w w1) (g : But B w1 w2) : But B w w2 :=
  ⟨g.os.trans h.os, g.tape.trans h.tape, g.output.trans h.output, Nat.le_trans h.size g.size, fun k hk hB => (g.block k (Nat.lt_of_lt_of_le hk h.size) hB).trans (h.block k hk hB)⟩
theorem But.ofBelow {B : Nat} {w w' : World} (h : Below w.heap.size w w') : But B w w' :=
  ⟨h.os, h.tape, h.output, h.size, fun k hk _ => h.block k hk⟩
theorem But.below {B B0 : Nat} {w w' : World} (h : But B w w') (h1 : B0 ≤ B) (h2 : B0 ≤ w.heap.size) : Below B0 w w' :=
  ⟨h.os, h.tape, h.output, h.size, fun k hk => h.block k (by omega) (by omega)⟩
theorem But.setCell {B : Nat} {w w' : World} (h : But B w w') (i : Nat) (v : Value) : But B w (w'.setCell ⟨B, i, none⟩ v) :=
  ⟨by rw [← h.os]; rfl, by rw [← h.tape]; rfl, by rw [← h.output]; rfl, by have := h.size; simpa [World.setCell] using this, fun k hk hB => by
    rw [← h.block k hk hB]
    have : B ≠ k := fun e => hB e.symm
    simp [World.setCell, Array.getElem?_modify, this]⟩
theorem But.drew {B : Nat} {w w' : World} (h : But B w w') : But B w w'.drew := ⟨h.os, h.tape, h.output, h.size, h.block⟩
theorem But.alloc {B : Nat} {w w' : World} (h : But B w w') (o : Obj) : But B w (w'.alloc o) :=
  ⟨h.os, h.tape, h.output, by have := h.size; simp; omega, fun k hk hB => (Below.heap_alloc _ _ _ (Nat.lt_of_lt_of_le hk h.size)).trans (h.block k hk hB)⟩
theorem But.setNew {B R : Nat} {w w' : World} (h : But B w w') (hR : w.heap.size ≤ R) (i : Nat) (v : Value) : But B w (w'.setCell ⟨R, i, none⟩ v) :=
  ⟨h.os, h.tape, h.output, by have := h.size; simpa [World.setCell] using this, fun k hk hB => (Below.heap_setCell _ _ _ _ (by show k ≠ R; omega)).trans (h.block k hk hB)⟩
theorem byte_of (v : Int) (h0 : 0 ≤ v) (h1 : v < 256) : ∃ x : UInt8, v = (x.toNat : Int) :=
  ⟨UInt8.ofNat v.toNat, by rw [UInt8.toNat_ofNat_of_lt' (by show v.toNat < 256; omega)]; omega⟩
theorem But.cell {B : Nat} {w w' : World} (h : But B w w') (k i : Nat) (hk : k < w.heap.size) (hB : k ≠ B) : w'.cell? ⟨k, i, none⟩ = w.cell? ⟨k, i, none⟩ := by
  have := h.block k hk hB
  unfold World.cell?
  simp only [this]
theorem But.frozen {B : Nat} {w w' : World} (h : But B w w') (k i : Nat) (hk : k < w.heap.size) (hB : k ≠ B) : w'.frozen? ⟨k, i, none⟩ = w.frozen? ⟨k, i, none⟩ := by
  have := h.block k hk hB
  unfold World.frozen?
  simp only [this]
theorem ByteRow.but {R B : Nat} {l : List UInt8} {w w' : World} (h : ByteRow R l w) (g : But B w w') (hR : R ≠ B) : ByteRow R l w' :=
  ⟨Nat.lt_of_lt_of_le h.lt g.size, fun j hj => (g.cell R j h.lt hR).trans (h.cell j hj), fun j hj => (g.frozen R j h.lt hR).trans (h.free j hj)⟩
/-- a cursor at block B: the code, the place, the seed; the place at most N -/
structure Cur (B N : Nat) (sv : Value) (w : World) : Prop where
  lt : B < w.heap.size
  code : w.cell? ⟨B, 0, none⟩ = some sv
  place : ∃ p : Int, 0 ≤ p ∧ p ≤ N ∧ w.cell? ⟨B, 1, none⟩ = some (.int .i64 p)
  seed : ∃ s : Int, 0 ≤ s ∧ s < 18446744073709551616 ∧ w.cell? ⟨B, 2, none⟩ = some (.int .u64 s)
  free1 : w.frozen? ⟨B, 1, none⟩ = false
  free2 : w.frozen? ⟨B, 2, none⟩ = false
/-- a slice of bytes in memory below block B -/
structure Code (B len cap : Nat) (a : Option Addr) (w : World) : Prop where
  small : len ≤ 1048576
  cell : 0 < len → ∃ b off, a = some ⟨b, off, none⟩ ∧ b < B ∧ ∀ i, i < len → ∃ z : Int, 0 ≤ z ∧ z < 256 ∧ w.cell? ⟨b, off + i, none⟩ = some (.int .u8 z)
theorem Code.but {B B' len cap : Nat} {a : Option Addr} {w w' : World} (h : Code B len cap a w) (g : But B' w w') (h1 : B ≤ B') (h2 : B ≤ w.heap.size) : Code B len cap a w' := by
  refine ⟨h.small, fun h0 => ?_⟩
  obtain ⟨b, off, e, hb, hc⟩ := h.cell h0
  refine ⟨b, off, e, hb, fun i hi => ?_⟩
  obtain ⟨z, z0, z1, hz⟩ := hc i hi
  exact ⟨z, z0, z1, (g.cell b (off + i) (by omega) (by omega)).trans hz⟩
theorem Cur.below {B N : Nat} {sv : Value} {w w' : World} (h : Cur B N sv w) (g : Below w.heap.size w w') : Cur B N sv w' := by
  have hc : ∀ i, w'.cell? ⟨B, i, none⟩ = w.cell? ⟨B, i, none⟩ := fun i => g.cell (p := ⟨B, i, none⟩) h.lt
  have hf : ∀ i, w'.frozen? ⟨B, i, none⟩ = w.frozen? ⟨B, i, none⟩ := fun i => g.frozen (p := ⟨B, i, none⟩) h.lt
  obtain ⟨p, p0, p1, hp⟩ := h.place
  obtain ⟨s, s0, s1, hs⟩ := h.seed
  exact ⟨Nat.lt_of_lt_of_le h.lt g.size, (hc 0).trans h.code, ⟨p, p0, p1, (hc 1).trans hp⟩, ⟨s, s0, s1, (hc 2).trans hs⟩, (hf 1).trans h.free1, (hf 2).trans h.free2⟩
theorem Cur.but {B B' N : Nat} {sv : Value} {w w' : World} (h : Cur B N sv w) (g : But B' w w') (hB : B ≠ B') : Cur B N sv w' := by
  have hc : ∀ i, w'.cell? ⟨B, i, none⟩ = w.cell? ⟨B, i, none⟩ := fun i => g.cell B i h.lt hB
  have hf : ∀ i, w'.frozen? ⟨B, i, none⟩ = w.frozen? ⟨B, i, none⟩ := fun i => g.frozen B i h.lt hB
  obtain ⟨p, p0, p1, hp⟩ := h.place
  obtain ⟨s, s0, s1, hs⟩ := h.seed
  exact ⟨Nat.lt_of_lt_of_le h.lt g.size, (hc 0).trans h.code, ⟨p, p0, p1, (hc 1).trans hp⟩, ⟨s, s0, s1, (hc 2).trans hs⟩, (hf 1).trans h.free1, (hf 2).trans h.free2⟩
theorem Cur.mono {B N N' : Nat} {sv : Value} {w : World} (h : Cur B N sv w) (hN : N ≤ N') : Cur B N' sv w := by
  obtain ⟨p, p0, p1, hp⟩ := h.place
  exact ⟨h.lt, h.code, ⟨p, p0, by omega, hp⟩, h.seed, h.free1, h.free2⟩
theorem Cur.setOther {B N R : Nat} {sv : Value} {w : World} (h : Cur B N sv w) (hR : R ≠ B) (i : Nat) (v : Value) : Cur B N sv (w.setCell ⟨R, i, none⟩ v) :=
  h.but ((But.refl R w).setCell i v) (fun e => hR e.symm)
theorem Cur.alloc {B N : Nat} {sv : Value} {w : World} (h : Cur B N sv w) (o : Obj) : Cur B N sv (w.alloc o) := h.below ((Below.refl _ _).alloc (Nat.le_refl _) o)
/-- the cursor goes a place on -/
theorem Cur.step {B N : Nat} {sv : Value} {w : World} (h : Cur B N sv w) (p s : Int) (p0 : 0 ≤ p) (p1 : p ≤ N) (s0 : 0 ≤ s) (s1 : s < 18446744073709551616) :
    Cur B (N + 1) sv ((w.setCell ⟨B, 1, none⟩ (.int .i64 (p + 1))).setCell ⟨B, 2, none⟩ (.int .u64 s)) := by
  obtain ⟨q, _, _, hq⟩ := h.place
  obtain ⟨r, _, _, hr⟩ := h.seed
  have e12 : (⟨B, 1, none⟩ : Addr) ≠ ⟨B, 2, none⟩ := by simp
  have e10 : (⟨B, 1, none⟩ : Addr) ≠ ⟨B, 0, none⟩ := by simp
  have e20 : (⟨B, 2, none⟩ : Addr) ≠ ⟨B, 0, none⟩ := by simp
  have e21 : (⟨B, 2, none⟩ : Addr) ≠ ⟨B, 1, none⟩ := by simp
  refine ⟨by simpa [World.setCell] using h.lt, ?_, ⟨p + 1, by omega, by omega, ?_⟩, ⟨s, s0, s1, ?_⟩, ?_, ?_⟩
  · rw [World.cell?_setCell_other _ _ _ _ e20, World.cell?_setCell_other _ _ _ _ e10]; exact h.code
  · rw [World.cell?_setCell_other _ _ _ _ e21]; exact World.cell?_setCell_same _ _ _ hq
  · exact World.cell?_setCell_same _ _ _ ((World.cell?_setCell_other _ _ _ _ e12).trans hr)
  · rw [World.frozen?_setCell, World.frozen?_setCell]; exact h.free1
  · rw [World.frozen?_setCell, World.frozen?_setCell]; exact h.free2
theorem Cur.drew {B N : Nat} {sv : Value} {w : World} (h : Cur B N sv w) : Cur B N sv w.drew := ⟨h.lt, h.code, h.place, h.seed, h.free1, h.free2⟩
theorem Cur.start (sv : Value) (T : TypeId) (w : World) : Cur w.heap.size 0 sv (w.alloc (.cells #[sv, .int .i64 0, .int .u64 0] T)) :=
  ⟨by simp, by rw [World.cell?_alloc_new]; rfl, ⟨0, by omega, by omega, by rw [World.cell?_alloc_new]; rfl⟩, ⟨0, by omega, by omega, by rw [World.cell?_alloc_new]; rfl⟩, by go_simp, by go_simp⟩
theorem Code.start {len cap : Nat} {a : Option Addr} {w : World} (h : Code w.heap.size len cap a w) (o : Obj) : Code w.heap.size len cap a (w.alloc o) :=
  h.but ((But.refl w.heap.size _).alloc o) (Nat.le_refl _) (Nat.le_refl _)
theorem Code.below {B len cap : Nat} {a : Option Addr} {w w' : World} (h : Code B len cap a w) (g : Below B w w') : Code B len cap a w' := by
  refine ⟨h.small, fun h0 => ?_⟩
  obtain ⟨b, off, e, hb, hc⟩ := h.cell h0
  refine ⟨b, off, e, hb, fun i hi => ?_⟩
  obtain ⟨z, z0, z1, hz⟩ := hc i hi
  exact ⟨z, z0, z1, (g.cell (p := ⟨b, off + i, none⟩) hb).trans hz⟩
theorem Code.mono {B B' len cap : Nat} {a : Option Addr} {w : World} (h : Code B len cap a w) (hB : B ≤ B') : Code B' len cap a w :=
  ⟨h.small, fun h0 => by obtain ⟨b, off, e, hb, hc⟩ := h.cell h0; exact ⟨b, off, e, by omega, hc⟩⟩
theorem But.done {w w' : World} {o : Obj} (h : But w.heap.size (w.alloc o) w') : Below w.heap.size w w' :=
  ((Below.refl _ _).alloc (Nat.le_refl _) o).trans (h.below (Nat.le_refl _) (by simp))
end Go.Proofs.Ytmbkdollakbigaa
namespace Go.Proofs.Ytmbkdollakbigaa
open Go Go.RowKit
/-- what was there stands as it stood, but for the blocks lo .. hi - 1 -/
structure Out (lo hi : Nat) (w w' : World) : Prop where
  os : w'.os = w.os
  tape : w'.tape = w.tape
  output : w'.output = w.output
  size : w.heap.size ≤ w'.heap.size
  block : ∀ k, k < w.heap.size → (k < lo ∨ hi ≤ k) → w'.heap[k]? = w.heap[k]?
theorem Out.refl (lo hi : Nat) (w : World) : Out lo hi w w := ⟨rfl, rfl, rfl, Nat.le_refl _, fun _ _ _ => rfl⟩
theorem Out.ofBelow {lo hi : Nat} {w w' : World} (h : Below w.heap.size w w') : Out lo hi w w' := ⟨h.os, h.tape, h.output, h.size, fun k hk _ => h.block k hk⟩
theorem Out.ofBut {lo hi R : Nat} {w w' : World} (h : But R w w') (h1 : lo ≤ R) (h2 : R < hi) : Out lo hi w w' := ⟨h.os, h.tape, h.output, h.size, fun k hk hb => h.block k hk (by omega)⟩
theorem Out.trans {lo hi : Nat} {w w1 w2 : World} (h : Out lo hi w w1) (g : Out lo hi w1 w2) : Out lo hi w w2 :=
  ⟨g.os.trans h.os, g.tape.trans h.tape, g.output.trans h.output, Nat.le_trans h.size g.size, fun k hk hb => (g.block k (Nat.lt_of_lt_of_le hk h.size) hb).trans (h.block k hk hb)⟩
theorem Out.alloc {lo hi : Nat} {w w' : World} (h : Out lo hi w w') (o : Obj) : Out lo hi w (w'.alloc o) :=
  ⟨h.os, h.tape, h.output, by have := h.size; simp; omega, fun k hk hb => (Below.heap_alloc _ _ _ (Nat.lt_of_lt_of_le hk h.size)).trans (h.block k hk hb)⟩
theorem Out.below {lo hi B : Nat} {w w' : World} (h : Out lo hi w w') (h1 : B ≤ lo) (h2 : B ≤ w.heap.size) : Below B w w' :=
  ⟨h.os, h.tape, h.output, h.size, fun k hk => h.block k (by omega) (by omega)⟩
/-- cells of the law's own variables: each a block of one cell -/
def Loc (L : List (Nat × Value × TypeId)) (w : World) : Prop := ∀ x ∈ L, w.heap[x.1]? = some (.cells #[x.2.1] x.2.2)
theorem Loc.nil (w : World) : Loc [] w := fun _ h => by cases h
theorem Loc.cons {x : Nat × Value × TypeId} {L : List (Nat × Value × TypeId)} {w : World} (h : w.heap[x.1]? = some (.cells #[x.2.1] x.2.2)) (g : Loc L w) : Loc (x :: L) w := fun y hy => by
  rcases List.mem_cons.1 hy with rfl | hy
  · exact h
  · exact g y hy
theorem Loc.lt {L : List (Nat × Value × TypeId)} {w : World} (h : Loc L w) (x : Nat × Value × TypeId) (hx : x ∈ L) : x.1 < w.heap.size := by
  rcases Nat.lt_or_ge x.1 w.heap.size with h' | h'
  · exact h'
  · have := h x hx
    rw [Array.getElem?_eq_none h'] at this; cases this
theorem Loc.out {L : List (Nat × Value × TypeId)} {lo hi : Nat} {w w' : World} (h : Loc L w) (g : Out lo hi w w') (hL : ∀ x ∈ L, x.1 < lo ∨ hi ≤ x.1) : Loc L w' := fun x hx =>
  (g.block x.1 (h.lt x hx) (hL x hx)).trans (h x hx)
theorem Loc.below {L : List (Nat × Value × TypeId)} {w w' : World} (h : Loc L w) (g : Below w.heap.size w w') : Loc L w' := fun x hx =>
  (g.block x.1 (h.lt x hx)).trans (h x hx)
theorem Loc.alloc {L : List (Nat × Value × TypeId)} {w : World} (h : Loc L w) (v : Value) (t : TypeId) : Loc ((w.heap.size, v, t) :: L) (w.alloc (.cells #[v] t)) := by
  refine Loc.cons ?_ (h.below ((Below.refl _ _).alloc (Nat.le_refl _) _))
  show (w.heap.push _)[w.heap.size]? = _
  rw [Array.getElem?_push_size]
theorem Loc.cell {L : List (Nat × Value × TypeId)} {w : World} (h : Loc L w) (k : Nat) (v : Value) (t : TypeId) (hx : (k, v, t) ∈ L) : w.cell? ⟨k, 0, none⟩ = some v := by
  have := h _ hx
  unfold World.cell?
  rw [this]
  rfl
theorem Loc.free {L : List (Nat × Value × TypeId)} {w : World} (h : Loc L w) (k : Nat) (v : Value) (t : TypeId) (hx : (k, v, t) ∈ L) : w.frozen? ⟨k, 0, none⟩ = false := by
  have := h _ hx
  unfold World.frozen?
  rw [this]
  rfl
theorem Loc.set {L : List (Nat × Value × TypeId)} {w : World} (h : Loc L w) (R i : Nat) (v : Value) (hL : ∀ x ∈ L, x.1 ≠ R) : Loc L (w.setCell ⟨R, i, none⟩ v) := fun x hx =>
  (Below.heap_setCell _ _ _ _ (hL x hx)).trans (h x hx)
end Go.Proofs.Ytmbkdollakbigaa
namespace Go.Proofs.Ytmbkdollakbigaa
set_option maxRecDepth 100000
open Go Go.ChangeShapes Go.WideShapes Go.ChangeAt Go.RowKit
def scell (n : ByteArray) : List Value := [.string n]
/-- a slice of texts in memory below block B -/
def Ss (B : Nat) (a : Option Addr) (l : List ByteArray) (w : World) : Prop := GSl B 1 a (l.map scell) w
theorem Ss.cell {B : Nat} {a : Option Addr} {l : List ByteArray} {w : World} (h : Ss B a l w) (h0 : 0 < l.length) : ∃ b off, a = some ⟨b, off, none⟩ ∧ b < B ∧ ∀ i (hi : i < l.length), w.cell? ⟨b, off + i, none⟩ = some (.string l[i]) := by
  obtain ⟨b, off, e, hb, hc⟩ := GSl.cell h (by simpa using h0)
  refine ⟨b, off, e, hb, fun i hi => ?_⟩
  have c0 := hc i (by simpa using hi) 0 (by decide)
  rw [List.getElem_map, Nat.mul_one, Nat.add_zero] at c0
  exact c0
theorem Ss.below {B : Nat} {a : Option Addr} {l : List ByteArray} {w w' : World} (h : Ss B a l w) (g : Below B w w') : Ss B a l w' := GSl.below h g
theorem Ss.mono {B B' : Nat} {a : Option Addr} {l : List ByteArray} {w : World} (h : Ss B a l w) (hB : B ≤ B') : Ss B' a l w := GSl.mono h hB
/-- a row of texts that a call itself has made -/
def SRow (R : Nat) (l : List ByteArray) (w : World) : Prop := GRow R 1 (l.map scell) w
theorem SRow.lt {R : Nat} {l : List ByteArray} {w : World} (h : SRow R l w) : R < w.heap.size := GRow.lt h
theorem SRow.cell {R : Nat} {l : List ByteArray} {w : World} (h : SRow R l w) (i : Nat) (hi : i < l.length) : w.cell? ⟨R, i, none⟩ = some (.string l[i]) := by
  have c0 := GRow.cell h i (by simpa using hi) 0 (by decide)
  rw [List.getElem_map, Nat.mul_one, Nat.add_zero] at c0
  exact c0
theorem SRow.free {R : Nat} {l : List ByteArray} {w : World} (h : SRow R l w) (j : Nat) (hj : j < l.length) : w.frozen? ⟨R, j, none⟩ = false := GRow.free h j (by simpa using hj)
theorem SRow.below {R : Nat} {l : List ByteArray} {w w' : World} (h : SRow R l w) (hb : Below w.heap.size w w') : SRow R l w' := GRow.below h hb
theorem SRow.same {R : Nat} {l : List ByteArray} {w w' : World} (h : SRow R l w) (hs : w.heap.size ≤ w'.heap.size) (hb : w'.heap[R]? = w.heap[R]?) : SRow R l w' := GRow.same h hs hb
theorem SRow.sl {R B : Nat} {l : List ByteArray} {w : World} (h : SRow R l w) (hB : R < B) : Ss B (some ⟨R, 0, none⟩) l w := GRow.sl h hB
theorem SRow.set {R : Nat} {l : List ByteArray} {w : World} (h : SRow R l w) (k : Nat) (hk : k < l.length) (n : ByteArray) : SRow R (l.set k n) (w.setCell ⟨R, k, none⟩ (.string n)) := by
  have hk' : k < (l.map scell).length := by simpa using hk
  have := GRow.set h k 0 hk' (by decide) (.string n)
  rw [Nat.mul_one, Nat.add_zero] at this
  unfold SRow
  have e : (l.set k n).map scell = (l.map scell).set k ((l.map scell)[k].set 0 (.string n)) := by
    rw [List.map_set, List.getElem_map]; rfl
  rw [e]
  exact this
/-- texts that are owned in blocks lo .. hi - 1 (or none) -/
def OwnS (lo hi : Nat) (a : Option Addr) (l : List ByteArray) (w : World) : Prop := l = [] ∨ ∃ R, lo ≤ R ∧ R < hi ∧ a = some ⟨R, 0, none⟩ ∧ SRow R l w
theorem OwnS.out {lo hi l2 h2 : Nat} {a : Option Addr} {l : List ByteArray} {w w' : World} (h : OwnS lo hi a l w) (g : Out l2 h2 w w') (hd : hi ≤ l2 ∨ h2 ≤ lo) : OwnS lo hi a l w' := by
  rcases h with h | ⟨R, h1, h3, e, hr⟩
  · exact Or.inl h
  · exact Or.inr ⟨R, h1, h3, e, hr.same g.size (g.block R hr.lt (by omega))⟩
theorem OwnS.below {lo hi : Nat} {a : Option Addr} {l : List ByteArray} {w w' : World} (h : OwnS lo hi a l w) (g : Below w.heap.size w w') : OwnS lo hi a l w' := by
  rcases h with h | ⟨R, h1, h3, e, hr⟩
  · exact Or.inl h
  · exact Or.inr ⟨R, h1, h3, e, hr.below g⟩
theorem OwnS.ss {lo hi : Nat} {a : Option Addr} {l : List ByteArray} {w : World} (h : OwnS lo hi a l w) : Ss w.heap.size a l w := by
  rcases h with rfl | ⟨R, h1, h3, rfl, hr⟩
  · exact ⟨fun h0 => absurd h0 (by simp)⟩
  · exact hr.sl hr.lt
end Go.Proofs.Ytmbkdollakbigaa
namespace Go.Proofs.Ytmbkdollakbigaa
set_option maxRecDepth 100000
open Go Go.ChangeShapes Go.WideShapes Go.ChangeAt Go.RowKit
def icell (n : Int) : List Value := [.int .i64 n]
/-- a slice of numbers in memory below block B -/
def Is (B : Nat) (a : Option Addr) (l : List Int) (w : World) : Prop := GSl B 1 a (l.map icell) w
theorem Is.cell {B : Nat} {a : Option Addr} {l : List Int} {w : World} (h : Is B a l w) (h0 : 0 < l.length) : ∃ b off, a = some ⟨b, off, none⟩ ∧ b < B ∧ ∀ i (hi : i < l.length), w.cell? ⟨b, off + i, none⟩ = some (.int .i64 l[i]) := by
  obtain ⟨b, off, e, hb, hc⟩ := GSl.cell h (by simpa using h0)
  refine ⟨b, off, e, hb, fun i hi => ?_⟩
  have c0 := hc i (by simpa using hi) 0 (by decide)
  rw [List.getElem_map, Nat.mul_one, Nat.add_zero] at c0
  exact c0
theorem Is.below {B : Nat} {a : Option Addr} {l : List Int} {w w' : World} (h : Is B a l w) (g : Below B w w') : Is B a l w' := GSl.below h g
theorem Is.mono {B B' : Nat} {a : Option Addr} {l : List Int} {w : World} (h : Is B a l w) (hB : B ≤ B') : Is B' a l w := GSl.mono h hB
/-- a row of numbers that a call itself has made -/
def IRow (R : Nat) (l : List Int) (w : World) : Prop := GRow R 1 (l.map icell) w
theorem IRow.lt {R : Nat} {l : List Int} {w : World} (h : IRow R l w) : R < w.heap.size := GRow.lt h
theorem IRow.cell {R : Nat} {l : List Int} {w : World} (h : IRow R l w) (i : Nat) (hi : i < l.length) : w.cell? ⟨R, i, none⟩ = some (.int .i64 l[i]) := by
  have c0 := GRow.cell h i (by simpa using hi) 0 (by decide)
  rw [List.getElem_map, Nat.mul_one, Nat.add_zero] at c0
  exact c0
theorem IRow.free {R : Nat} {l : List Int} {w : World} (h : IRow R l w) (j : Nat) (hj : j < l.length) : w.frozen? ⟨R, j, none⟩ = false := GRow.free h j (by simpa using hj)
theorem IRow.below {R : Nat} {l : List Int} {w w' : World} (h : IRow R l w) (hb : Below w.heap.size w w') : IRow R l w' := GRow.below h hb
theorem IRow.same {R : Nat} {l : List Int} {w w' : World} (h : IRow R l w) (hs : w.heap.size ≤ w'.heap.size) (hb : w'.heap[R]? = w.heap[R]?) : IRow R l w' := GRow.same h hs hb
theorem IRow.sl {R B : Nat} {l : List Int} {w : World} (h : IRow R l w) (hB : R < B) : Is B (some ⟨R, 0, none⟩) l w := GRow.sl h hB
theorem IRow.set {R : Nat} {l : List Int} {w : World} (h : IRow R l w) (k : Nat) (hk : k < l.length) (n : Int) : IRow R (l.set k n) (w.setCell ⟨R, k, none⟩ (.int .i64 n)) := by
  have hk' : k < (l.map icell).length := by simpa using hk
  have := GRow.set h k 0 hk' (by decide) (.int .i64 n)
  rw [Nat.mul_one, Nat.add_zero] at this
  unfold IRow
  have e : (l.set k n).map icell = (l.map icell).set k ((l.map icell)[k].set 0 (.int .i64 n)) := by
    rw [List.map_set, List.getElem_map]; rfl
  rw [e]
  exact this
/-- numbers that are owned in blocks lo .. hi - 1 (or none) -/
def OwnI (lo hi : Nat) (a : Option Addr) (l : List Int) (w : World) : Prop := l = [] ∨ ∃ R, lo ≤ R ∧ R < hi ∧ a = some ⟨R, 0, none⟩ ∧ IRow R l w
theorem OwnI.out {lo hi l2 h2 : Nat} {a : Option Addr} {l : List Int} {w w' : World} (h : OwnI lo hi a l w) (g : Out l2 h2 w w') (hd : hi ≤ l2 ∨ h2 ≤ lo) : OwnI lo hi a l w' := by
  rcases h with h | ⟨R, h1, h3, e, hr⟩
  · exact Or.inl h
  · exact Or.inr ⟨R, h1, h3, e, hr.same g.size (g.block R hr.lt (by omega))⟩
theorem OwnI.below {lo hi : Nat} {a : Option Addr} {l : List Int} {w w' : World} (h : OwnI lo hi a l w) (g : Below w.heap.size w w') : OwnI lo hi a l w' := by
  rcases h with h | ⟨R, h1, h3, e, hr⟩
  · exact Or.inl h
  · exact Or.inr ⟨R, h1, h3, e, hr.below g⟩
theorem OwnI.is {lo hi : Nat} {a : Option Addr} {l : List Int} {w : World} (h : OwnI lo hi a l w) : Is w.heap.size a l w := by
  rcases h with rfl | ⟨R, h1, h3, rfl, hr⟩
  · exact ⟨fun h0 => absurd h0 (by simp)⟩
  · exact hr.sl hr.lt
end Go.Proofs.Ytmbkdollakbigaa
namespace Go.Proofs.Ytmbkdollakbigaa
open Go Go.RowKit
theorem hid {p : Prop} (h : p) : Hid p := h
theorem belowN (w : World) (n : Nat) : Below w.heap.size w (w.drewN n) := ⟨rfl, rfl, rfl, Nat.le_refl _, fun _ _ => rfl⟩
theorem boxB (w : World) (o : Obj) : Below w.heap.size w (w.alloc o) := (Below.refl _ _).alloc (Nat.le_refl _) _
theorem box_cell {wr : World} {R : Nat} {cs : Array Value} {t : TypeId} (h : wr.heap[R]? = some (.cells cs t)) (i : Nat) : wr.cell? ⟨R, i, none⟩ = cs[i]? := by
  unfold World.cell?
  rw [h]
  rfl
theorem box_free {wr : World} {R : Nat} {cs : Array Value} {t : TypeId} (h : wr.heap[R]? = some (.cells cs t)) (i : Nat) : wr.frozen? ⟨R, i, none⟩ = false := by
  unfold World.frozen?
  rw [h]
  simp
theorem box_set {wr : World} {R : Nat} {cs : Array Value} {t : TypeId} (h : wr.heap[R]? = some (.cells cs t)) (i : Nat) (u : Value) : (wr.setCell ⟨R, i, none⟩ u).heap[R]? = some (.cells (cs.setIfInBounds i u) t) := by
  unfold World.setCell
  simp only
  rw [Array.getElem?_modify, if_pos rfl, h]
  rfl
theorem keepB (w : World) (R i : Nat) (u : Value) (k : Nat) (h : k ≠ R) : (w.setCell ⟨R, i, none⟩ u).heap[k]? = w.heap[k]? := Below.heap_setCell _ _ _ _ h
theorem setB {B : Nat} {a w : World} (h : Below B a w) (R i : Nat) (hp : B ≤ R) (u : Value) : Below B a (w.setCell ⟨R, i, none⟩ u) := h.setCell hp u
theorem ret_bd {a b : Bool} (h : a = b) : Ending.returned (.bool a) = .returned (.bool b) := by rw [h]
end Go.Proofs.Ytmbkdollakbigaa
namespace Go.Proofs.Ytmbkdollakbigaa
set_option maxRecDepth 100000
open Go Go.ChangeShapes Go.WideShapes Go.ChangeAt Go.RowKit
/-- a layer -/
structure Ly where
  mark : Int
  bl : List Int
  dt : List ByteArray
/-- the number ahead of place k, -1 for none -/
def aheadI (l : List Int) : Nat → Int
  | 0 => -1
  | k + 1 => l.getD k 0
theorem aheadI_at (l : List Int) (k : Nat) (h : k < l.length) : aheadI l (k + 1) = l[k] := by
  show l.getD k 0 = _
  rw [List.getD_eq_getElem?_getD, List.getElem?_eq_getElem h]; rfl
/-- the k-th number of blocks is a block and rises -/
def blOk (l : List Int) (k : Nat) (x : Int) : Prop := aheadI l k < x ∧ 0 ≤ x ∧ x ≤ 15
instance (l : List Int) (k : Nat) (x : Int) : Decidable (blOk l k x) := by unfold blOk; infer_instance
def RiseOk (l : List Int) : Prop := ∀ k (h : k < l.length), blOk l k l[k]
instance (l : List Int) : Decidable (RiseOk l) := by unfold RiseOk; infer_instance
def TwoOk (l : List ByteArray) : Prop := ∀ k (h : k < l.length), l[k].size = 2
instance (l : List ByteArray) : Decidable (TwoOk l) := by unfold TwoOk; infer_instance
/-- a layer that is good, but for its mark -/
def lyOk (y : Ly) : Prop := RiseOk y.bl ∧ y.dt.length = y.bl.length ∧ TwoOk y.dt
instance (y : Ly) : Decidable (lyOk y) := by unfold lyOk; infer_instance
def aheadM (S : List Ly) : Nat → Int
  | 0 => -1
  | k + 1 => (S.map (·.mark)).getD k 0
theorem aheadM_at (S : List Ly) (k : Nat) (h : k < S.length) : aheadM S (k + 1) = S[k].mark := by
  show (S.map (·.mark)).getD k 0 = _
  rw [List.getD_eq_getElem?_getD, List.getElem?_map, List.getElem?_eq_getElem h]; rfl
/-- the k-th layer is good -/
def lyAt (S : List Ly) (k : Nat) (y : Ly) : Prop := aheadM S k < y.mark ∧ 0 ≤ y.mark ∧ y.mark ≤ 200 ∧ lyOk y
instance (S : List Ly) (k : Nat) (y : Ly) : Decidable (lyAt S k y) := by unfold lyAt; infer_instance
def LysOk (S : List Ly) : Prop := ∀ k (h : k < S.length), lyAt S k S[k]
instance (S : List Ly) : Decidable (LysOk S) := by unfold LysOk; infer_instance
def GoodK (S : List Ly) : Prop := 1 ≤ S.length ∧ S.length ≤ 8 ∧ LysOk S
instance (S : List Ly) : Decidable (GoodK S) := by unfold GoodK; infer_instance
def goodK (S : List Ly) : Bool := decide (GoodK S)
theorem goodK_iff {S : List Ly} : goodK S = true ↔ GoodK S := by unfold goodK; exact decide_eq_true_iff
theorem goodK_no {S : List Ly} (h : ¬ GoodK S) : goodK S = false := decide_eq_false h
theorem goodK_bad {S : List Ly} (k : Nat) (hk : k < S.length) (h : ¬ lyAt S k S[k]) : goodK S = false := goodK_no (fun g => h (g.2.2 k hk))
/-- layers in memory below block B -/
def Ys (B : Nat) (a : Option Addr) (S : List Ly) (w : World) : Prop := 0 < S.length → ∃ b off, a = some ⟨b, off, none⟩ ∧ b < B ∧ ∀ i (hi : i < S.length), ∃ p c q d, w.cell? ⟨b, off + i * 3, none⟩ = some (.int .i64 S[i].mark) ∧ w.cell? ⟨b, off + i * 3 + 1, none⟩ = some (.slice p S[i].bl.length c) ∧ w.cell? ⟨b, off + i * 3 + 2, none⟩ = some (.slice q S[i].dt.length d) ∧ Is B p S[i].bl w ∧ Ss B q S[i].dt w
theorem Ys.below {B : Nat} {a : Option Addr} {S : List Ly} {w w' : World} (h : Ys B a S w) (g : Below B w w') : Ys B a S w' := fun h0 => by
  obtain ⟨b, off, e, hb, hc⟩ := h h0
  refine ⟨b, off, e, hb, fun i hi => ?_⟩
  obtain ⟨p, c, q, d, h1, h2, h3, h4, h5⟩ := hc i hi
  exact ⟨p, c, q, d, (g.cell (p := ⟨b, _, none⟩) hb).trans h1, (g.cell (p := ⟨b, _, none⟩) hb).trans h2, (g.cell (p := ⟨b, _, none⟩) hb).trans h3, h4.below g, h5.below g⟩
theorem Ys.mono {B B' : Nat} {a : Option Addr} {S : List Ly} {w : World} (h : Ys B a S w) (hB : B ≤ B') : Ys B' a S w := fun h0 => by
  obtain ⟨b, off, e, hb, hc⟩ := h h0
  refine ⟨b, off, e, by omega, fun i hi => ?_⟩
  obtain ⟨p, c, q, d, h1, h2, h3, h4, h5⟩ := hc i hi
  exact ⟨p, c, q, d, h1, h2, h3, h4.mono hB, h5.mono hB⟩
theorem Ys.up {B : Nat} {a : Option Addr} {S : List Ly} {w w' : World} (h : Ys B a S w) (g : Below B w w') (hB : B ≤ w'.heap.size) : Ys w'.heap.size a S w' := (h.below g).mono hB
/-- a layer's value -/
def lyv (m : Int) (p : Option Addr) (n c : Nat) (q : Option Addr) (k d : Nat) : Value := .agg #[.int .i64 m, .slice p n c, .slice q k d]
end Go.Proofs.Ytmbkdollakbigaa
namespace Go.Proofs.Ytmbkdollakbigaa
set_option maxRecDepth 100000
open Go Go.ChangeShapes Go.WideShapes Go.ChangeAt Go.RowKit Go.Deep
/-- what an int holds -/
def fit (n : Int) : Prop := -9223372036854775808 ≤ n ∧ n ≤ 9223372036854775807
theorem fit_of {n : Int} (h : (Lit.int .i64 n).wf = true) : fit n := by
  have := bounds_i64 h
  exact ⟨by omega, by omega⟩
theorem slice_at {H : Type} {enc : TypeId × Value → H} {P : Program} {W : World} {tS t : TypeId} {n : Nat} {x : Value} {y : DataW H × List MemPlace} (hS : P.underlying tS = some (.slice t))
    (g : DataW.trod enc P W 0 (fun _ => true) true n tS [x] = some y) : ∃ a len cap, x = .slice a len cap := by
  rcases open_slice hS g with ⟨hcs, _⟩ | ⟨x', l, c, _, _, _, _, hcs, _⟩
  · exact ⟨none, 0, 0, by simpa using hcs⟩
  · exact ⟨some x', l, c, by simpa using hcs⟩
theorem ints_at {H : Type} {enc : TypeId × Value → H} {P : Program} {W : World} {tS t : TypeId} {n : Nat} {x : Value} {y : DataW H × List MemPlace}
    (hS : P.underlying tS = some (.slice t)) (ht : P.underlying t = some (.int .i64)) (hc : P.cellsOf t = 1)
    (g : DataW.trod enc P W 0 (fun _ => true) true n tS [x] = some y) :
    ∃ (a : Option Addr) (cap : Nat) (l : List Int), x = .slice a l.length cap ∧ Is W.heap.size a l W ∧ (∀ x ∈ l, fit x) ∧ l.length ≤ 9223372036854775807 := by
  obtain ⟨a, len, cap, rfl⟩ := slice_at hS g
  obtain ⟨rows, hlen, hgs, hrows, hmax⟩ := gsl_of hS hc (by decide) g
  obtain ⟨l, rfl, hq⟩ := list_of (f := icell) (Q := fit) rows (fun r hr => by
    obtain ⟨n, x, hx⟩ := hrows r hr
    obtain ⟨m0, e0, _, w0⟩ := DataW.trod_int ht hx
    exact ⟨m0, e0, fit_of w0⟩)
  have hlen' : l.length = len := by simpa using hlen
  subst hlen'
  have e : maxLen = 9223372036854775807 := by decide
  rw [e] at hmax
  exact ⟨a, cap, l, rfl, hgs, hq, hmax⟩
theorem strs_at {H : Type} {enc : TypeId × Value → H} {P : Program} {W : World} {tS t : TypeId} {n : Nat} {x : Value} {y : DataW H × List MemPlace}
    (hS : P.underlying tS = some (.slice t)) (ht : P.underlying t = some .string) (hc : P.cellsOf t = 1)
    (g : DataW.trod enc P W 0 (fun _ => true) true n tS [x] = some y) :
    ∃ (a : Option Addr) (cap : Nat) (l : List ByteArray), x = .slice a l.length cap ∧ Ss W.heap.size a l W ∧ (∀ x ∈ l, x.size ≤ 9223372036854775807) ∧ l.length ≤ 9223372036854775807 := by
  obtain ⟨a, len, cap, rfl⟩ := slice_at hS g
  obtain ⟨rows, hlen, hgs, hrows, hmax⟩ := gsl_of hS hc (by decide) g
  have e : maxLen = 9223372036854775807 := by decide
  obtain ⟨l, rfl, hq⟩ := list_of (f := scell) (Q := fun s => s.size ≤ 9223372036854775807) rows (fun r hr => by
    obtain ⟨n, x, hx⟩ := hrows r hr
    obtain ⟨s, e0, _, hs⟩ := DataW.trod_string ht hx
    rw [e] at hs
    exact ⟨s, e0, hs⟩)
  have hlen' : l.length = len := by simpa using hlen
  subst hlen'
  rw [e] at hmax
  exact ⟨a, cap, l, rfl, hgs, hq, hmax⟩
theorem one_of {α : Type} {l : List α} (h : l.length = 1) : ∃ x, l = [x] := by
  match l, h with
  | [x], _ => exact ⟨x, rfl⟩
theorem three_of {α : Type} {l : List α} (h : l.length = 3) : ∃ x y z, l = [x, y, z] := by
  match l, h with
  | [x, y, z], _ => exact ⟨x, y, z, rfl⟩
/-- a layer: its numbers fit an int, its lengths too -/
structure fitY (y : Ly) : Prop where
  mark : fit y.mark
  bl : ∀ x ∈ y.bl, fit x
  nbl : y.bl.length ≤ 9223372036854775807
  dt : ∀ x ∈ y.dt, x.size ≤ 9223372036854775807
  ndt : y.dt.length ≤ 9223372036854775807
theorem layers_at {H : Type} {enc : TypeId × Value → H} {P : Program} {W : World} {tS t t1 t2 : TypeId} {f0 f1 f2 : Field} {n : Nat} {x : Value} {y : DataW H × List MemPlace}
    (hS : P.underlying tS = some (.slice t)) (ht : P.underlying t = some (.struct #[f0, f1, f2])) (hc : P.cellsOf t = 3) (o0 : f0.offset = 0) (o1 : f1.offset = 1) (o2 : f2.offset = 2)
    (u0 : P.underlying f0.type = some (.int .i64)) (u1 : P.underlying f1.type = some (.slice t1)) (u2 : P.underlying f2.type = some (.slice t2)) (v1 : P.underlying t1 = some (.int .i64)) (v2 : P.underlying t2 = some .string)
    (c0 : P.cellsOf f0.type = 1) (c1 : P.cellsOf f1.type = 1) (c2 : P.cellsOf f2.type = 1) (d1 : P.cellsOf t1 = 1) (d2 : P.cellsOf t2 = 1)
    (g : DataW.trod enc P W 0 (fun _ => true) true n tS [x] = some y) :
    ∃ (a : Option Addr) (cap : Nat) (S : List Ly), x = .slice a S.length cap ∧ Ys W.heap.size a S W ∧ (∀ s ∈ S, fitY s) ∧ S.length ≤ 9223372036854775807 := by
  obtain ⟨a, len, cap, rfl⟩ := slice_at hS g
  obtain ⟨rows, hlen, hgs, hrows, hmax⟩ := gsl_of hS hc (by decide) g
  obtain ⟨zs, rfl, hq⟩ := list_of (α := Ly × Option Addr × Nat × Option Addr × Nat) (f := fun z => [.int .i64 z.1.mark, .slice z.2.1 z.1.bl.length z.2.2.1, .slice z.2.2.2.1 z.1.dt.length z.2.2.2.2]) (Q := fun z => Is W.heap.size z.2.1 z.1.bl W ∧ Ss W.heap.size z.2.2.2.1 z.1.dt W ∧ fitY z.1) rows (fun r hr => by
    obtain ⟨n, x, hx⟩ := hrows r hr
    obtain ⟨y0, y1, y2, n2, _, hl, g0, g1, g2⟩ := trod_struct3 ht hx
    rw [o0, c0] at g0
    rw [o1, c1] at g1
    rw [o2, c2] at g2
    rw [hc] at hl
    obtain ⟨r0, r1, r2, rfl⟩ := three_of hl
    have g0' : DataW.trod enc P W 0 (fun _ => true) true n2 f0.type [r0] = some y0 := g0
    have g1' : DataW.trod enc P W 0 (fun _ => true) true n2 f1.type [r1] = some y1 := g1
    have g2' : DataW.trod enc P W 0 (fun _ => true) true n2 f2.type [r2] = some y2 := g2
    obtain ⟨m, e1, _, hm⟩ := DataW.trod_int u0 g0'
    have e1' : r0 = .int .i64 m := by simpa using e1
    subst e1'
    obtain ⟨p, c, l, rfl, hI, hfl, hll⟩ := ints_at u1 v1 d1 g1'
    obtain ⟨q, d, k, rfl, hJ, hfk, hkk⟩ := strs_at u2 v2 d2 g2'
    exact ⟨(⟨m, l, k⟩, p, c, q, d), rfl, hI, hJ, fit_of hm, hfl, hll, hfk, hkk⟩)
  have hlen' : zs.length = len := by simpa using hlen
  subst hlen'
  have e : maxLen = 9223372036854775807 := by decide
  rw [e] at hmax
  refine ⟨a, cap, zs.map (·.1), by simp, fun h0 => ?_, fun s hs => ?_, by simpa using hmax⟩
  · obtain ⟨b, off, ea, hb, hcl⟩ := hgs.cell (by simpa using h0)
    refine ⟨b, off, ea, hb, fun i hi => ?_⟩
    have hi' : i < zs.length := by simpa using hi
    have k0 := hcl i (by simpa using hi) 0 (by decide)
    have k1 := hcl i (by simpa using hi) 1 (by decide)
    have k2 := hcl i (by simpa using hi) 2 (by decide)
    rw [List.getElem_map] at k0 k1 k2
    rw [List.getElem_map]
    exact ⟨zs[i].2.1, zs[i].2.2.1, zs[i].2.2.2.1, zs[i].2.2.2.2, k0, k1, k2, (hq _ (List.getElem_mem hi')).1, (hq _ (List.getElem_mem hi')).2.1⟩
  · obtain ⟨z, hz, rfl⟩ := List.mem_map.1 hs
    exact (hq z hz).2.2
theorem marks_of {H : Type} {enc : TypeId × Value → H} {P : Program} {W : World} {r : Reach} {b0 : Nat} {tM tG t1 t2 : TypeId} {fS f0 f1 f2 : Field} {v : Value} {d : DataW H} {ps : List MemPlace}
    (hM : P.underlying tM = some (.struct #[fS])) (hcM : P.cellsOf tM = 1) (oS : fS.offset = 0) (cS : P.cellsOf fS.type = 1)
    (uS : P.underlying fS.type = some (.slice tG))
    (ht : P.underlying tG = some (.struct #[f0, f1, f2])) (hc : P.cellsOf tG = 3) (o0 : f0.offset = 0) (o1 : f1.offset = 1) (o2 : f2.offset = 2)
    (u0 : P.underlying f0.type = some (.int .i64)) (u1 : P.underlying f1.type = some (.slice t1)) (u2 : P.underlying f2.type = some (.slice t2)) (v1 : P.underlying t1 = some (.int .i64)) (v2 : P.underlying t2 = some .string)
    (c0 : P.cellsOf f0.type = 1) (c1 : P.cellsOf f1.type = 1) (c2 : P.cellsOf f2.type = 1) (d1 : P.cellsOf t1 = 1) (d2 : P.cellsOf t2 = 1)
    (hval : Value.okWide P W r b0 tM v) (h : DataW.Trod enc P W 0 (fun _ => true) true tM v d ps) :
    ∃ (aS : Option Addr) (kS : Nat) (S : List Ly), v = .agg #[.slice aS S.length kS] ∧ Ys W.heap.size aS S W ∧ (∀ s ∈ S, fitY s) ∧ S.length ≤ 9223372036854775807 := by
  obtain ⟨cs, rfl, hsz⟩ := okWide_struct hM hval
  obtain ⟨fuel, hf⟩ := h
  have hf' : DataW.trod enc P W 0 (fun _ => true) true fuel tM (Value.agg cs).cells.toList = some (d, ps) := hf
  have hcs : (Value.agg cs).cells.toList = cs.toList := by simp [Value.cells]
  rw [hcs] at hf'
  obtain ⟨y0, n, _, hl, g0⟩ := trod_struct1 hM hf'
  rw [oS, cS] at g0
  rw [hcM] at hl
  obtain ⟨x0, hx⟩ := one_of hl
  obtain rfl : cs = #[x0] := by
    apply Array.ext'
    exact hx
  have g0' : DataW.trod enc P W 0 (fun _ => true) true n fS.type [x0] = some y0 := g0
  obtain ⟨aS, kS, S, rfl, hG, hfS, hS⟩ := layers_at uS ht hc o0 o1 o2 u0 u1 u2 v1 v2 c0 c1 c2 d1 d2 g0'
  exact ⟨aS, kS, S, rfl, hG, hfS, hS⟩
end Go.Proofs.Ytmbkdollakbigaa
namespace Go.Proofs.Ytmbkdollakbigaa
set_option maxRecDepth 100000
open Go.ChangeShapes Go.WideShapes Go.ChangeAt Go.RowKit
def digs : Nat → Nat → List UInt8
  | 0, _ => []
  | f + 1, n => if n = 0 then [] else digs f (n / 10) ++ [48 + UInt8.ofNat (n % 10)]
theorem digs_fuel : ∀ f g n, n < f → n < g → digs f n = digs g n
  | 0, _, _, h, _ => absurd h (Nat.not_lt_zero _)
  | _, 0, _, _, h => absurd h (Nat.not_lt_zero _)
  | f + 1, g + 1, n, h1, h2 => by
    unfold digs
    split
    · rfl
    · rw [digs_fuel f g (n / 10) (by omega) (by omega)]
def dec (n : Nat) : List UInt8 := digs (n + 1) n
theorem dec_step (n : Nat) (h : 0 < n) : dec n = dec (n / 10) ++ [48 + UInt8.ofNat (n % 10)] := by
  unfold dec
  conv => lhs; unfold digs
  rw [if_neg (by omega), digs_fuel n (n / 10 + 1) (n / 10) (by omega) (by omega)]
theorem dec_len : ∀ f n, n < 10 ^ f → (dec n).length ≤ f
  | 0, n, h => by
    have : n = 0 := by simpa using h
    subst this; decide
  | f + 1, n, h => by
    by_cases h0 : n = 0
    · subst h0; show 0 ≤ _; omega
    · rw [dec_step n (by omega), List.length_append]
      have := dec_len f (n / 10) (by rw [Nat.pow_succ] at h; omega)
      simp; omega
theorem app_one (x : UInt8) (l : List UInt8) : (⟨#[x]⟩ : ByteArray) ++ ⟨l.toArray⟩ = ⟨(x :: l).toArray⟩ := by
  apply ByteArray.ext
  simp [ByteArray.data_append]
theorem ret_s {a b : ByteArray} (h : a = b) : Ending.returned (.string a) = .returned (.string b) := by rw [h]
def markT (n : Nat) : ByteArray := ⟨(109 :: dec n).toArray⟩
theorem one_byte (w : World) (x : Int) : Sem.run Try.prog (convert 94 9 (.slice (some ⟨w.heap.size, 0, none⟩) 1 1)) (w.alloc (.cells #[.int .u8 x] 5)) =
    .ok (.string ⟨#[UInt8.ofNat x.toNat]⟩) (w.alloc (.cells #[.int .u8 x] 5)) := by
  have h := run_convert_bytes_arg (w.alloc (.cells #[.int .u8 x] 5)) 94 5 Try.underlying94 Try.underlying5 w.heap.size 0 1 1 [x] rfl (fun i hi => by
    obtain rfl : i = 0 := by omega
    go_simp) 9 Try.underlying9
  exact h
set_option maxHeartbeats 1000000 in
theorem markText_any (n : Nat) (w : World) (h0 : 1 ≤ n) (h1 : n ≤ 100000000) :
    Calls Try.prog 67 #[.int .i64 n] w fun e w' => e = .returned (.string (markT n)) ∧ Below w.heap.size w w' := by
  have hd : decide ((n : Int) ≤ 0) = false := by simp; omega
  have hcv := one_byte
  go_enter Try.func67, Try.ntmps67
  go_wp2
  go_loopw [0, 3] (fun t o wr => ∃ (m : Nat) (l : List UInt8), m ≤ n ∧ t = .int .i64 m ∧ o = .string ⟨l.toArray⟩ ∧ dec m ++ l = dec n ∧ Below w.heap.size w wr) (fun t _ _ => (intOf t).toNat)
  case atStart => exact ⟨n, [], Nat.le_refl _, rfl, rfl, by simp, Below.refl _ _⟩
  case round =>
    obtain ⟨m, l, hm, rfl, rfl, hl, hbel⟩ := hrel
    have HL : Hid (dec m ++ l = dec n) := hl
    have HBEL : Hid (Below w.heap.size w wr) := hbel
    have hlen : l.length ≤ 9 := by
      have h9 := dec_len 9 n (by omega)
      rw [← hl, List.length_append] at h9
      omega
    have hsz : (⟨l.toArray⟩ : ByteArray).size = l.length := by simp [ByteArray.size]
    clear hl hbel
    by_cases hp : 0 < m
    · have hdm : decide (0 < (m : Int)) = true := by simp; omega
      have hs1 : ∀ x : UInt8, (⟨#[x]⟩ : ByteArray).size = 1 := fun _ => rfl
      go_wp2
      go_roundw
      case rel => exact ⟨m / 10, (48 + UInt8.ofNat (m % 10)) :: l, by omega, by go_num, by rw [app_one], by rw [← HL.out, dec_step m hp]; simp, HBEL.out.alloc HBEL.out.size _⟩
      case measure => simp [intOf]; omega
    · obtain rfl : m = 0 := by omega
      have hfin : (⟨#[109]⟩ : ByteArray) ++ ⟨l.toArray⟩ = markT n := by
        rw [app_one, markT, ← HL.out]; rfl
      have HF : Hid ((⟨#[109]⟩ : ByteArray) ++ ⟨l.toArray⟩ = markT n) := hfin
      clear hfin
      go_wp2
      go_ret
      exact ⟨ret_s HF.out, HBEL.out⟩
end Go.Proofs.Ytmbkdollakbigaa
namespace Go.Proofs.Ytmbkdollakbigaa
open Go Go.RowKit
theorem flat_len (s : Nat) : ∀ (rows : List (List Value)), (∀ i (hi : i < rows.length), rows[i].length = s) → rows.flatten.length = rows.length * s
  | [], _ => by simp
  | r :: rows, h => by
    have h0 : r.length = s := h 0 (by simp)
    have hr := flat_len s rows (fun i hi => h (i + 1) (by simpa using hi))
    rw [List.flatten_cons, List.length_append, hr, h0, List.length_cons, Nat.add_mul, Nat.one_mul]; omega
theorem flat_at (s : Nat) : ∀ (rows : List (List Value)), (∀ i (hi : i < rows.length), rows[i].length = s) → ∀ i (hi : i < rows.length) j, j < s → rows.flatten[i * s + j]? = rows[i][j]?
  | [], _, i, hi, _, _ => absurd hi (by simp)
  | r :: rows, h, 0, _, j, hj => by
    have h0 : r.length = s := h 0 (by simp)
    rw [Nat.zero_mul, Nat.zero_add, List.flatten_cons, List.getElem?_append_left (by omega)]; rfl
  | r :: rows, h, i + 1, hi, j, hj => by
    have h0 : r.length = s := h 0 (by simp)
    have hr := flat_at s rows (fun i hi => h (i + 1) (by simpa using hi)) i (by simpa using hi) j hj
    rw [List.flatten_cons, List.getElem?_append_right (by rw [h0, Nat.add_mul]; omega), h0, show (i + 1) * s + j - s = i * s + j by rw [Nat.add_mul]; omega, hr]
    rfl
theorem GRow.ofOwns {w : World} {base : Nat} {e : TypeId} {s n : Nat} {v : Value} {rows : List (List Value)} (hw : ∀ i (hi : i < rows.length), rows[i].length = s)
    (h : w.ownsRow base e s v n rows.flatten) (hn : n = rows.length) (hv : v ≠ .slice none 0 0) : ∃ R cap, v = .slice (some ⟨R, 0, none⟩) n cap ∧ base ≤ R ∧ GRow R s rows w := by
  obtain ⟨hl, h | ⟨g, cap, cur, rfl, hb, hg, h1, h2, h3, h4⟩⟩ := h
  · exact absurd h.1 hv
  · refine ⟨g, cap, rfl, hb, ?_⟩
    have hlt : g < w.heap.size := by
      rcases Nat.lt_or_ge g w.heap.size with h' | h'
      · exact h'
      · rw [Array.getElem?_eq_none h'] at hg; cases hg
    refine ⟨hlt, hw, fun i hi j hj => ?_, fun j _ => ?_⟩
    · rw [← flat_at s rows hw i hi j hj, ← h4]
      have hk := at_lt hi hj
      unfold World.cell?
      rw [hg]
      simp only [Option.isSome_none, Bool.false_eq_true, if_false]
      rw [List.getElem?_take, if_pos (by rw [hn]; exact hk), Array.getElem?_toList]
    · unfold World.frozen?
      rw [hg]
      simp
theorem GSl.news {s : Nat} {b off : Nat} {rows : List (List Value)} {w : World} (hs : 0 < s) (hw : ∀ i (hi : i < rows.length), rows[i].length = s)
    (hc : ∀ i (hi : i < rows.length) j, j < s → w.cell? ⟨b, off + i * s + j, none⟩ = rows[i][j]?) (j : Nat) (u : Value) (h : rows.flatten[j]? = some u) : w.cell? ((⟨b, off, none⟩ : Addr).add j) = some u := by
  have hlen := flat_len s rows hw
  have hj : j < rows.length * s := by
    rcases Nat.lt_or_ge j (rows.flatten.length) with h' | h'
    · omega
    · rw [List.getElem?_eq_none h'] at h; cases h
  have hi : j / s < rows.length := Nat.div_lt_of_lt_mul (by rw [Nat.mul_comm]; exact hj)
  have hm : j % s < s := Nat.mod_lt _ hs
  have he : j = j / s * s + j % s := by rw [Nat.mul_comm]; exact (Nat.div_add_mod j s).symm
  have := flat_at s rows hw (j / s) hi (j % s) hm
  rw [← he, h] at this
  have h2 := hc (j / s) hi (j % s) hm
  rw [← this] at h2
  have e : (⟨b, off, none⟩ : Addr).add j = ⟨b, off + j / s * s + j % s, none⟩ := by
    rw [WideShapes.add_plain]
    have : off + j = off + j / s * s + j % s := by omega
    rw [this]
  rw [e]
  exact h2
end Go.Proofs.Ytmbkdollakbigaa
namespace Go.Proofs.Ytmbkdollakbigaa
set_option maxRecDepth 100000
open Go.ChangeShapes Go.WideShapes Go.ChangeAt Go.RowKit
set_option maxHeartbeats 400000 in
theorem l1In_yes (n lo hi : Int) (w : World) (h : lo ≤ n) (g : n ≤ hi) : Calls Try.prog 42 #[.int .i64 n, .int .i64 lo, .int .i64 hi] w fun e w' => e = .returned (.bool true) ∧ w' = w := by
  go_enter Try.func42, Try.ntmps42
  go_wp2
  go_ret
  exact ⟨rfl, rfl⟩
set_option maxHeartbeats 400000 in
theorem l1In_no (n lo hi : Int) (w : World) (h : n < lo ∨ hi < n) : Calls Try.prog 42 #[.int .i64 n, .int .i64 lo, .int .i64 hi] w fun e w' => e = .returned (.bool false) ∧ w' = w := by
  by_cases g : n < lo
  · have hd : decide (lo ≤ n) = false := by simp; omega
    go_enter Try.func42, Try.ntmps42
    go_wp2
    go_ret
    exact ⟨rfl, rfl⟩
  · have hd : decide (n ≤ hi) = false := by simp; omega
    go_enter Try.func42, Try.ntmps42
    go_wp2
    go_ret
    exact ⟨rfl, rfl⟩
end Go.Proofs.Ytmbkdollakbigaa
namespace Go.Proofs.Ytmbkdollakbigaa
open Go Go.RowKit
def bvals (l : List UInt8) : List Value := l.map fun b => .int .u8 (b.toNat : Int)
theorem bvals_len (l : List UInt8) : (bvals l).length = l.length := by simp [bvals]
theorem bvals_one (l : List UInt8) : ∀ v ∈ bvals l, v.oneCell' = true := by
  intro v hv
  simp only [bvals, List.mem_map] at hv
  obtain ⟨b, _, rfl⟩ := hv
  rfl
theorem But.setRow {g : Nat} {w : World} (cs : Array Value) : But g w (w.setRow g cs) :=
  ⟨rfl, rfl, rfl, by simp [World.setRow], fun k _ hB => setRow_other w g k cs hB⟩
theorem run_copy_str {P : Program} (w : World) (dT sT ty elem : TypeId) (g o dLen dCap : Nat) (s : ByteArray) (cur : Array Value) (t : TypeId)
    (hu : P.underlying dT = some (.slice elem)) (hs : (P.info? elem).map (·.size) = some 1) (hg : w.heap[g]? = some (.cells cur t (0, 0))) (hle : s.size ≤ dLen) (hfit : o + s.size ≤ cur.size) :
    (Builtin.copy_ #[dT, sT] ty #[.slice (some ⟨g, o, none⟩) dLen dCap, .string s]).run P w =
      .ok (goInt s.size) (w.setRow g (splice cur.toList o (bvals s.data.toList)).toArray) := by
  have hsz : s.data.toList.length = s.size := Array.length_toList
  have hlen : (bvals s.data.toList).length = s.size := by rw [bvals_len, hsz]
  have hst := run_storeCells_at P g o t (bvals s.data.toList) 0 cur w hg (by rw [hlen]; simpa using hfit) (bvals_one _)
  have hmin : Nat.min s.size dLen = s.size := Nat.min_eq_left hle
  have htk : List.take s.size (List.map (fun b : UInt8 => Value.int IntKind.u8 (b.toNat : Int)) s.data.toList) = bvals s.data.toList := by
    rw [List.take_of_length_le (by rw [List.length_map, hsz]; exact Nat.le_refl _)]
    rfl
  rw [List.append_assoc] at hst
  simp only [Nat.add_zero] at hst
  cases hq : P.info? elem with
  | none => simp [hq] at hs
  | some i =>
    simp [Builtin.copy_, run_underlying hu, Builtin.lenOf, Builtin.firstCells, sizeOf, typeInfo, hq, hmin]
    rw [htk, hst]
    simp [Result.andThen, splice]
theorem run_copy_str0 {P : Program} (w : World) (dT sT ty elem : TypeId) (d : Option Addr) (dLen dCap : Nat) (s : ByteArray)
    (hu : P.underlying dT = some (.slice elem)) (hs : (P.info? elem).map (·.size) = some 1) (h0 : s.size = 0) :
    (Builtin.copy_ #[dT, sT] ty #[.slice d dLen dCap, .string s]).run P w = .ok (goInt 0) w := by
  cases hq : P.info? elem with
  | none => simp [hq] at hs
  | some i =>
    cases d <;> simp [Builtin.copy_, run_underlying hu, Builtin.lenOf, Builtin.firstCells, sizeOf, typeInfo, hq, h0, storeCells]
theorem wpList_copy_str {P : Program} {w : World} {ops : Array Oper} {rest : List Oper} {o : Oper} {a : Act} {Q : Exit → Act → World → Prop} (hgd : o.guard = none) (d s : Operand) (dT sT : TypeId)
    (ho : o.op = .call { callee := .builtin .copy, args := #[d, s], argTypes := #[dT, sT] }) (elem : TypeId) (hu : P.underlying dT = some (.slice elem)) (hsz : (P.info? elem).map (·.size) = some 1)
    (dp : Option Addr) (dLen dCap : Nat) (x : ByteArray) (hd : a.eval d = .slice dp dLen dCap) (hs : a.eval s = .string x)
    (g off : Nat) (cur : List Value) (t : TypeId) (hg : w.heap[g]? = some (.cells cur.toArray t (0, 0))) (hle : x.size ≤ dLen)
    (hpos : 0 < x.size → dp = some ⟨g, off, none⟩) (hfit : off + x.size ≤ cur.length)
    (h : ∀ w', Hid (w'.heap[g]? = some (.cells (splice cur off (bvals x.data.toList)).toArray t (0, 0))) → Hid (But g w w') → wpList P ops Q rest (a.put o.dst (goInt x.size)) w') :
    wpList P ops Q (o :: rest) a w := by
  by_cases h0 : x.size = 0
  · refine wpList_plain hgd fun K hK => ?_
    have hrun := run_copy_str0 (P := P) w dT sT o.type elem dp dLen dCap x hu hsz h0
    have hx : x.data.toList = [] := by
      have : x.data.toList.length = 0 := Array.length_toList.trans h0
      exact List.eq_nil_of_length_eq_zero this
    have hh := h w (show _ = _ by simpa [splice, hx, bvals] using hg) (But.refl g w)
    rw [h0] at hh
    unfold Oper.wp
    simp [execOp, ho, resolve, invoke, builtin, hd, hs, hrun, Result.andThen]
    exact hK _ _ hh
  · obtain rfl := hpos (by omega)
    refine wpList_plain hgd fun K hK => ?_
    have hrun := run_copy_str (P := P) w dT sT o.type elem g off dLen dCap x cur.toArray t hu hsz hg hle (by simpa using hfit)
    unfold Oper.wp
    simp [execOp, ho, resolve, invoke, builtin, hd, hs, hrun, Result.andThen]
    exact hK _ _ (h _ (show _ = _ from setRow_heap w g _ _ t _ hg) (But.setRow _))
theorem run_copy_rows {P : Program} (w : World) (dT sT ty elem : TypeId) (s g n dCap sCap : Nat) (a : Addr) (cur : Array Value) (t : TypeId) (cs : List Value)
    (hu : P.underlying dT = some (.slice elem)) (hs : (P.info? elem).map (·.size) = some s) (hg : w.heap[g]? = some (.cells cur t (0, 0))) (hn : cs.length = n * s)
    (hsrc : ∀ j v, cs[j]? = some v → w.cell? (a.add j) = some v) (hfit : cur.size = n * s) (h1 : ∀ v ∈ cs, v.oneCell' = true) :
    (Builtin.copy_ #[dT, sT] ty #[.slice (some ⟨g, 0, none⟩) n dCap, .slice (some a) n sCap]).run P w = .ok (goInt n) (w.setRow g cs.toArray) := by
  have hl := run_loadCells_list (P := P) w a cs hsrc
  have hst := run_storeCells_at P g 0 t cs 0 cur w hg (by omega) h1
  have e : cur.toList.take (0 + 0) ++ cs ++ cur.toList.drop (0 + 0 + cs.length) = cs := by
    rw [List.drop_of_length_le (by simp; omega)]; simp
  rw [e] at hst
  rw [hn] at hl
  have hmin : Nat.min n n = n := Nat.min_self n
  cases hq : P.info? elem with
  | none => simp [hq] at hs
  | some i =>
    have hi : i.size = s := by simpa [hq] using hs
    simp [Builtin.copy_, run_underlying hu, Builtin.lenOf, Builtin.firstCells, sizeOf, typeInfo, hq, hi, hmin, hl, hst]
theorem GRow.ofHeap {R s : Nat} {rows : List (List Value)} {t : TypeId} {w : World} (hw : ∀ i (hi : i < rows.length), rows[i].length = s) (h : w.heap[R]? = some (.cells rows.flatten.toArray t (0, 0))) : GRow R s rows w := by
  have hlt : R < w.heap.size := by
    rcases Nat.lt_or_ge R w.heap.size with h' | h'
    · exact h'
    · rw [Array.getElem?_eq_none h'] at h; cases h
  refine ⟨hlt, hw, fun i hi j hj => ?_, fun j _ => ?_⟩
  · rw [← flat_at s rows hw i hi j hj]
    unfold World.cell?
    rw [h]
    simp
  · unfold World.frozen?
    rw [h]
    simp
theorem wpList_copy_rows {P : Program} {w : World} {ops : Array Oper} {rest : List Oper} {o : Oper} {a : Act} {Q : Exit → Act → World → Prop} (hgd : o.guard = none) (d x : Operand) (dT sT : TypeId)
    (ho : o.op = .call { callee := .builtin .copy, args := #[d, x], argTypes := #[dT, sT] }) (elem : TypeId) (s : Nat) (hu : P.underlying dT = some (.slice elem)) (hsz : (P.info? elem).map (·.size) = some s)
    (g n dCap sCap : Nat) (ad : Addr) (hd : a.eval d = .slice (some ⟨g, 0, none⟩) n dCap) (hx : a.eval x = .slice (some ad) n sCap)
    (cur : Array Value) (t : TypeId) (hg : w.heap[g]? = some (.cells cur t (0, 0))) (hfit : cur.size = n * s) (rows : List (List Value)) (hw : ∀ i (hi : i < rows.length), rows[i].length = s) (hn : rows.length = n)
    (hsrc : ∀ j v, rows.flatten[j]? = some v → w.cell? (ad.add j) = some v) (h1 : ∀ v ∈ rows.flatten, v.oneCell' = true)
    (h : ∀ w', Hid (GRow g s rows w') → Hid (But g w w') → wpList P ops Q rest (a.put o.dst (goInt n)) w') :
    wpList P ops Q (o :: rest) a w := by
  refine wpList_plain hgd fun K hK => ?_
  have hfl : rows.flatten.length = n * s := by rw [flat_len s rows hw, hn]
  have hrun := run_copy_rows (P := P) w dT sT o.type elem s g n dCap sCap ad cur t rows.flatten hu hsz hg hfl hsrc hfit h1
  unfold Oper.wp
  simp [execOp, ho, resolve, invoke, builtin, hd, hx, hrun, Result.andThen]
  exact hK _ _ (h _ (GRow.ofHeap (t := t) hw (setRow_heap w g _ _ t _ hg)) (But.setRow _))
/-- 'clear(s[k:k+1])' of structs of three cells -/
theorem run_clear_three {P : Program} (w : World) (t e ty : TypeId) (z0 z1 z2 : Value) (ht : P.underlying t = some (.slice e)) (hv : ∀ w, (zeroValue e).run P w = .ok (.agg #[z0, z1, z2]) w)
    (h0 : z0.oneCell' = true) (h1 : z1.oneCell' = true) (h2 : z2.oneCell' = true) (b o c : Nat) (y0 y1 y2 : Value)
    (c0 : w.cell? ⟨b, o, none⟩ = some y0) (c1 : w.cell? ⟨b, o + 1, none⟩ = some y1) (c2 : w.cell? ⟨b, o + 2, none⟩ = some y2)
    (f0 : w.frozen? ⟨b, o, none⟩ = false) (f1 : w.frozen? ⟨b, o + 1, none⟩ = false) (f2 : w.frozen? ⟨b, o + 2, none⟩ = false) :
    (Builtin.clear_ #[t] ty #[.slice (some ⟨b, o, none⟩) 1 c]).run P w = .ok (.tuple #[]) (((w.setCell ⟨b, o, none⟩ z0).setCell ⟨b, o + 1, none⟩ z1).setCell ⟨b, o + 2, none⟩ z2) := by
  have e0 : (⟨b, o, none⟩ : Addr).add 0 = ⟨b, o, none⟩ := rfl
  have e1 : (⟨b, o, none⟩ : Addr).add 1 = ⟨b, o + 1, none⟩ := rfl
  have e2 : (⟨b, o, none⟩ : Addr).add 2 = ⟨b, o + 2, none⟩ := rfl
  have n01 : (⟨b, o, none⟩ : Addr) ≠ ⟨b, o + 1, none⟩ := by simp
  have n02 : (⟨b, o, none⟩ : Addr) ≠ ⟨b, o + 2, none⟩ := by simp
  have n12 : (⟨b, o + 1, none⟩ : Addr) ≠ ⟨b, o + 2, none⟩ := by simp
  have hz : (Builtin.zeroCells (Value.agg #[z0, z1, z2]).cells 1).toList = [z0, z1, z2] := by
    simp [Builtin.zeroCells, Value.cells]
    rfl
  have k1 : (w.setCell ⟨b, o, none⟩ z0).cell? ⟨b, o + 1, none⟩ = some y1 := (World.cell?_setCell_other _ _ _ _ n01).trans c1
  have k2 : ((w.setCell ⟨b, o, none⟩ z0).setCell ⟨b, o + 1, none⟩ z1).cell? ⟨b, o + 2, none⟩ = some y2 := (World.cell?_setCell_other _ _ _ _ n12).trans ((World.cell?_setCell_other _ _ _ _ n02).trans c2)
  have s0 : (store ⟨b, o, none⟩ z0).run P w = .ok () (w.setCell ⟨b, o, none⟩ z0) := by
    rw [run_store P w _ z0 _ h0, c0]; simp [f0]
  have s1 : (store ⟨b, o + 1, none⟩ z1).run P (w.setCell ⟨b, o, none⟩ z0) = .ok () ((w.setCell ⟨b, o, none⟩ z0).setCell ⟨b, o + 1, none⟩ z1) := by
    rw [run_store P _ _ z1 _ h1, k1]; simp [World.frozen?_setCell, f1]
  have s2 : (store ⟨b, o + 2, none⟩ z2).run P ((w.setCell ⟨b, o, none⟩ z0).setCell ⟨b, o + 1, none⟩ z1) = .ok () (((w.setCell ⟨b, o, none⟩ z0).setCell ⟨b, o + 1, none⟩ z1).setCell ⟨b, o + 2, none⟩ z2) := by
    rw [run_store P _ _ z2 _ h2, k2]; simp [World.frozen?_setCell, f2]
  simp [Builtin.clear_, run_underlying ht, hv, hz, storeCells, e0, e1, e2, s0, s1, s2]
end Go.Proofs.Ytmbkdollakbigaa
namespace Go.Proofs.Ytmbkdollakbigaa
set_option maxRecDepth 100000
open Go.ChangeShapes Go.WideShapes Go.ChangeAt Go.RowKit
theorem take_snoc {α : Type} (l : List α) (k : Nat) (h : k < l.length) : l.take (k + 1) = l.take k ++ [l[k]] := List.take_succ_eq_append_getElem h
def imarks (n k : Nat) : List Int := (List.range n).map fun i => ((k + i : Nat) : Int)
theorem imarks_len (n k : Nat) : (imarks n k).length = n := by simp [imarks]
theorem imarks_at (n k i : Nat) (h : i < (imarks n k).length) : (imarks n k)[i] = ((k + i : Nat) : Int) := by simp [imarks]
set_option maxHeartbeats 1000000 in
theorem eqIntS_same (a1 a2 : Option Addr) (c1 c2 : Nat) (l : List Int) (w : World) (hn : l.length ≤ 1048576) (h1 : Is w.heap.size a1 l w) (h2 : Is w.heap.size a2 l w) :
    Calls Try.prog 9 #[.slice a1 l.length c1, .slice a2 l.length c2] w fun e w' => e = .returned (.bool true) ∧ Below w.heap.size w w' := by
  have H1 : Hid (Is w.heap.size a1 l w) := h1
  have H2 : Hid (Is w.heap.size a2 l w) := h2
  clear h1 h2
  go_enter Try.func9, Try.ntmps9
  go_wp2
  go_loopw [5] (fun i wr => ∃ k : Nat, k ≤ l.length ∧ i = .int .i64 k ∧ Below w.heap.size w wr) (fun i _ => l.length - (intOf i).toNat)
  case atStart => exact ⟨0, Nat.zero_le _, rfl, Below.refl _ _⟩
  case round =>
    obtain ⟨k, hk, rfl, hbel⟩ := hrel
    have HBEL : Hid (Below w.heap.size w wr) := hbel
    by_cases hlt : k < l.length
    · obtain ⟨b1, o1, rfl, hb1, hc1⟩ := H1.out.cell (by omega)
      obtain ⟨b2, o2, rfl, hb2, hc2⟩ := H2.out.cell (by omega)
      have x0 := (hbel.cell (p := ⟨b1, o1 + k, none⟩) hb1).trans (hc1 k hlt)
      have y0 := (hbel.cell (p := ⟨b2, o2 + k, none⟩) hb2).trans (hc2 k hlt)
      clear hc1 hc2 hbel
      generalize l[k] = n at *
      go_wp2
      go_region
      all_goals
        go_wp2
        go_roundw
        · exact ⟨k + 1, by omega, by go_num, HBEL.out.drew⟩
        · simp [intOf]; omega
    · clear hbel
      go_wp2
      go_ret
      exact ⟨rfl, HBEL.out⟩
set_option maxHeartbeats 1000000 in
theorem markIntS_row (R cap k0 : Nat) (l : List Int) (w : World) (hn : l.length ≤ 1048576) (k1 : 1 ≤ k0) (k2 : k0 ≤ 4611686018427387904) (hR : IRow R l w) :
    Calls Try.prog 12 #[.slice (some ⟨R, 0, none⟩) l.length cap, .int .i64 k0] w fun e w' => e = .returned (.int .i64 (k0 + l.length : Nat)) ∧ IRow R (imarks l.length k0) w' ∧ But R w w' := by
  have HR : Hid (IRow R l w) := hR
  clear hR
  go_enter Try.func12, Try.ntmps12
  go_wp2
  go_loopw [1, 5] (fun t i wr => ∃ (j : Nat) (ys : List Int), j ≤ l.length ∧ i = .int .i64 j ∧ t = .int .i64 (k0 + j : Nat) ∧ ys.length = l.length ∧ ys.take j = (imarks l.length k0).take j ∧ IRow R ys wr ∧ But R w wr) (fun _ i _ => l.length - (intOf i).toNat)
  case atStart => exact ⟨0, l, Nat.zero_le _, rfl, rfl, rfl, rfl, HR.out, But.refl _ _⟩
  case round =>
    obtain ⟨j, ys, hj, rfl, rfl, hy, htk, hrow, hbut⟩ := hrel
    have HROW : Hid (IRow R ys wr) := hrow
    have HBUT : Hid (But R w wr) := hbut
    have HTK : Hid (ys.take j = (imarks l.length k0).take j) := htk
    by_cases hlt : j < l.length
    · have y0 := hrow.cell j (by omega)
      have f0 := hrow.free j (by omega)
      clear hrow hbut htk
      generalize ys[j] = yd at *
      go_wp2
      go_roundw
      case rel =>
        refine ⟨j + 1, ys.set j ((k0 + j : Nat) : Int), by omega, by go_num, by go_num, by simpa using hy, ?_, HROW.out.set j (by omega) _, HBUT.out.setCell _ _⟩
        have hjy : j < ys.length := by omega
        have hjm : j < (imarks l.length k0).length := by rw [imarks_len]; exact hlt
        rw [take_snoc _ j (by simpa using hjy), take_snoc _ j hjm, List.take_set_of_le (Nat.le_refl _), HTK.out, List.getElem_set_self, imarks_at]
      case measure => simp [intOf]; omega
    · obtain rfl : j = l.length := by omega
      clear hrow hbut
      go_wp2
      go_ret
      rw [List.take_of_length_le (by omega), List.take_of_length_le (by rw [imarks_len]; omega)] at htk
      subst htk
      exact ⟨rfl, HROW.out, HBUT.out⟩
set_option maxHeartbeats 400000 in
theorem markIntS_none (a : Option Addr) (cap k0 : Nat) (w : World) :
    Calls Try.prog 12 #[.slice a 0 cap, .int .i64 k0] w fun e w' => e = .returned (.int .i64 k0) ∧ w' = w := by
  go_enter Try.func12, Try.ntmps12
  go_wp2
  go_loop [1, 5] (fun t i => t = .int .i64 k0 ∧ i = .int .i64 0) (fun _ _ => 0)
  case atStart => exact ⟨rfl, rfl⟩
  case round =>
    obtain ⟨rfl, rfl⟩ := hrel
    go_wp2
    go_ret
    exact ⟨rfl, rfl⟩
set_option maxHeartbeats 1000000 in
theorem heldIntS_row (a : Option Addr) (cap k0 n : Nat) (w : World) (hn : n ≤ 1048576) (k1 : 1 ≤ k0) (k2 : k0 ≤ 4611686018427387904) (hR : Is w.heap.size a (imarks n k0) w) :
    Calls Try.prog 13 #[.slice a n cap, .int .i64 k0] w fun e w' => e = .returned (.int .i64 (k0 + n : Nat)) ∧ Below w.heap.size w w' := by
  have HR : Hid (Is w.heap.size a (imarks n k0) w) := hR
  clear hR
  have hml := imarks_len n k0
  go_enter Try.func13, Try.ntmps13
  go_wp2
  go_loopw [1, 5] (fun t i wr => ∃ j : Nat, j ≤ n ∧ i = .int .i64 j ∧ t = .int .i64 (k0 + j : Nat) ∧ Below w.heap.size w wr) (fun _ i _ => n - (intOf i).toNat)
  case atStart => exact ⟨0, Nat.zero_le _, rfl, rfl, Below.refl _ _⟩
  case round =>
    obtain ⟨j, hj, rfl, rfl, hbel⟩ := hrel
    have HBEL : Hid (Below w.heap.size w wr) := hbel
    by_cases hlt : j < n
    · obtain ⟨b, o, rfl, hb, hc⟩ := HR.out.cell (by omega)
      have x0 := (hbel.cell (p := ⟨b, o + j, none⟩) hb).trans (hc j (by omega))
      rw [imarks_at] at x0
      clear hc hbel
      go_wp2
      go_roundw
      case rel => exact ⟨j + 1, by omega, by go_num, by go_num, HBEL.out⟩
      case measure => simp [intOf]; omega
    · obtain rfl : j = n := by omega
      clear hbel
      go_wp2
      go_ret
      exact ⟨rfl, HBEL.out⟩
theorem mark_ownI (lo hi : Nat) (a : Option Addr) (c : Nat) (l : List Int) (w : World) (hn : l.length ≤ 1048576) (k0 : Nat) (k1 : 1 ≤ k0) (k2 : k0 ≤ 4611686018427387904) (h : OwnI lo hi a l w) :
    Calls Try.prog 12 #[.slice a l.length c, .int .i64 k0] w fun e w' => e = .returned (.int .i64 (k0 + l.length : Nat)) ∧ OwnI lo hi a (imarks l.length k0) w' ∧ Out lo hi w w' := by
  rcases h with rfl | ⟨R, h1, h3, rfl, hr⟩
  · exact (markIntS_none a c k0 w).mono fun e w' ⟨he, hb⟩ => ⟨he, Or.inl rfl, by subst hb; exact Out.refl _ _ _⟩
  · exact (markIntS_row R c k0 l w hn k1 k2 hr).mono fun e w' ⟨he, hrow, hb⟩ => ⟨he, Or.inr ⟨R, h1, h3, rfl, hrow⟩, Out.ofBut hb h1 h3⟩
theorem held_ownI (lo hi : Nat) (a : Option Addr) (c n : Nat) (w : World) (hn : n ≤ 1048576) (h : OwnI lo hi a (imarks n 1) w) :
    Calls Try.prog 13 #[.slice a n c, .int .i64 1] w fun e w' => e = .returned (.int .i64 (1 + n : Nat)) ∧ Below w.heap.size w w' :=
  heldIntS_row a c 1 n w hn (by omega) (by omega) h.is
theorem infoI : (Try.prog.info? 3).map (fun i => (i.zero, i.size, i.bytes)) = some (some (.int .i64 0), 1, 8) := by kernel_rfl
theorem make_ints (n : Nat) (hn : n ≤ 1048576) (W : World) : (Instr.makeSlice 26 (.int .i64 (n : Int)) (.int .i64 (n : Int))).run Try.prog W =
    .ok (.slice (some ⟨W.heap.size, 0, none⟩) n n) (W.alloc (.cells (madeCells (Value.int .i64 0).cells n) 3)) := by
  obtain ⟨i0, hi, hz0, hz1, hz2⟩ := info_parts infoI
  have h := run_make (P := Try.prog) W 26 3 i0 _ Try.underlying26 hi hz0 .i64 .i64 (n : Int) (n : Int) (by omega) (by omega) (by rw [hz2]; omega) (by omega)
  rw [hz1] at h
  simpa using h
theorem IRow.made (w : World) (n : Nat) : IRow w.heap.size (List.replicate n 0) (w.alloc (.cells (madeCells (Value.int .i64 0).cells n) 3)) := by
  have := GRow.made w 3 n #[.int .i64 0]
  unfold IRow
  rw [List.map_replicate]
  have e : (#[Value.int .i64 0] : Array Value).size = 1 := rfl
  rw [e, Nat.mul_one] at this
  exact this
set_option maxHeartbeats 1000000 in
theorem to_ownI (a : Option Addr) (cap : Nat) (l : List Int) (w : World) (hn : l.length ≤ 1048576) (hI : Is w.heap.size a l w) :
    Calls Try.prog 61 #[.slice a l.length cap] w fun e w' => ∃ b c, e = .returned (.slice b l.length c) ∧ OwnI w.heap.size w'.heap.size b l w' ∧ Below w.heap.size w w' := by
  have HI : Hid (Is w.heap.size a l w) := hI
  clear hI
  have hmk := make_ints l.length hn
  have hr0 := IRow.made w l.length
  generalize madeCells (Value.int .i64 0).cells l.length = M at *
  have HR : Hid (IRow w.heap.size (List.replicate l.length 0) (w.alloc (.cells M 3))) := hr0
  clear hr0
  go_enter Try.func61, Try.ntmps61
  go_wp2
  go_loopw [4] (fun i wr => ∃ (k : Nat) (ys : List Int), k ≤ l.length ∧ i = .int .i64 k ∧ ys.length = l.length ∧ ys.take k = l.take k ∧ IRow w.heap.size ys wr ∧ Below w.heap.size w wr) (fun i _ => l.length - (intOf i).toNat)
  case atStart => exact ⟨0, List.replicate l.length 0, Nat.zero_le _, rfl, by simp, rfl, HR.out, (Below.refl _ _).alloc (Nat.le_refl _) _⟩
  case round =>
    obtain ⟨k, ys, hk, rfl, hy, htk, hrow, hbel⟩ := hrel
    have HROW : Hid (IRow w.heap.size ys wr) := hrow
    have HBEL : Hid (Below w.heap.size w wr) := hbel
    have HTK : Hid (ys.take k = l.take k) := htk
    by_cases hlt : k < l.length
    · obtain ⟨b, off, rfl, hb, hc⟩ := HI.out.cell (by omega)
      have x0 := (hbel.cell (p := ⟨b, off + k, none⟩) hb).trans (hc k hlt)
      have y0 := hrow.cell k (by omega)
      have f0 := hrow.free k (by omega)
      clear hrow hbel htk hc
      go_wp2
      go_roundw
      case rel =>
        refine ⟨k + 1, ys.set k l[k], by omega, by go_num, by simpa using hy, ?_, HROW.out.set k (by omega) _, HBEL.out.setCell (Nat.le_refl _) _⟩
        have hky : k < ys.length := by omega
        rw [take_snoc _ k (by simpa using hky), take_snoc l k hlt, List.take_set_of_le (Nat.le_refl _), HTK.out, List.getElem_set_self]
      case measure => simp [intOf]; omega
    · obtain rfl : k = l.length := by omega
      rw [List.take_length, List.take_of_length_le (by omega)] at htk
      subst htk
      clear hrow hbel
      go_wp2
      go_ret
      have hO : OwnI w.heap.size wr.heap.size (some ⟨w.heap.size, 0, none⟩) ys wr := Or.inr ⟨_, Nat.le_refl _, HROW.out.lt, rfl, HROW.out⟩
      first
        | exact ⟨_, _, rfl, hO, HBEL.out⟩
        | exact ⟨_, ⟨_, rfl⟩, hO, HBEL.out⟩
        | exact ⟨hO, HBEL.out⟩
end Go.Proofs.Ytmbkdollakbigaa
namespace Go.Proofs.Ytmbkdollakbigaa
set_option maxRecDepth 100000
open Go.ChangeShapes Go.WideShapes Go.ChangeAt Go.RowKit
def smarks (n k : Nat) : List ByteArray := (List.range n).map fun (i : Nat) => markT (k + i)
theorem smarks_len (n k : Nat) : (smarks n k).length = n := by simp [smarks]
theorem smarks_at (n k i : Nat) (h : i < (smarks n k).length) : (smarks n k)[i] = markT (k + i) := by simp [smarks]
set_option maxHeartbeats 1000000 in
theorem eqStringS_same (a1 a2 : Option Addr) (c1 c2 : Nat) (l : List ByteArray) (w : World) (hn : l.length ≤ 1048576) (h1 : Ss w.heap.size a1 l w) (h2 : Ss w.heap.size a2 l w) :
    Calls Try.prog 66 #[.slice a1 l.length c1, .slice a2 l.length c2] w fun e w' => e = .returned (.bool true) ∧ Below w.heap.size w w' := by
  have H1 : Hid (Ss w.heap.size a1 l w) := h1
  have H2 : Hid (Ss w.heap.size a2 l w) := h2
  clear h1 h2
  go_enter Try.func66, Try.ntmps66
  go_wp2
  go_loopw [5] (fun i wr => ∃ k : Nat, k ≤ l.length ∧ i = .int .i64 k ∧ Below w.heap.size w wr) (fun i _ => l.length - (intOf i).toNat)
  case atStart => exact ⟨0, Nat.zero_le _, rfl, Below.refl _ _⟩
  case round =>
    obtain ⟨k, hk, rfl, hbel⟩ := hrel
    have HBEL : Hid (Below w.heap.size w wr) := hbel
    by_cases hlt : k < l.length
    · obtain ⟨b1, o1, rfl, hb1, hc1⟩ := H1.out.cell (by omega)
      obtain ⟨b2, o2, rfl, hb2, hc2⟩ := H2.out.cell (by omega)
      have x0 := (hbel.cell (p := ⟨b1, o1 + k, none⟩) hb1).trans (hc1 k hlt)
      have y0 := (hbel.cell (p := ⟨b2, o2 + k, none⟩) hb2).trans (hc2 k hlt)
      clear hc1 hc2 hbel
      generalize l[k] = n at *
      go_wp2
      go_region
      all_goals
        go_wp2
        go_roundw
        · exact ⟨k + 1, by omega, by go_num, HBEL.out.drew⟩
        · simp [intOf]; omega
    · clear hbel
      go_wp2
      go_ret
      exact ⟨rfl, HBEL.out⟩
set_option maxHeartbeats 1000000 in
theorem markStringS_row (R cap k0 : Nat) (l : List ByteArray) (w : World) (hn : l.length ≤ 1048576) (k1 : 1 ≤ k0) (k2 : k0 ≤ 10000000) (hR : SRow R l w) :
    Calls Try.prog 52 #[.slice (some ⟨R, 0, none⟩) l.length cap, .int .i64 k0] w fun e w' => e = .returned (.int .i64 (k0 + l.length : Nat)) ∧ SRow R (smarks l.length k0) w' ∧ But R w w' := by
  have HR : Hid (SRow R l w) := hR
  clear hR
  go_enter Try.func52, Try.ntmps52
  go_wp2
  go_loopw [1, 5] (fun t i wr => ∃ (j : Nat) (ys : List ByteArray), j ≤ l.length ∧ i = .int .i64 j ∧ t = .int .i64 (k0 + j : Nat) ∧ ys.length = l.length ∧ ys.take j = (smarks l.length k0).take j ∧ SRow R ys wr ∧ But R w wr) (fun _ i _ => l.length - (intOf i).toNat)
  case atStart => exact ⟨0, l, Nat.zero_le _, rfl, rfl, rfl, rfl, HR.out, But.refl _ _⟩
  case round =>
    obtain ⟨j, ys, hj, rfl, rfl, hy, htk, hrow, hbut⟩ := hrel
    have HROW : Hid (SRow R ys wr) := hrow
    have HBUT : Hid (But R w wr) := hbut
    have HTK : Hid (ys.take j = (smarks l.length k0).take j) := htk
    have hltr := hrow.lt
    by_cases hlt : j < l.length
    · have y0 := hrow.cell j (by omega)
      have f0 := hrow.free j (by omega)
      clear hrow hbut htk
      generalize ys[j] = yd at *
      have HC : Hid (∀ v, Calls Try.prog 67 #[.int .i64 (k0 + j : Nat)] v fun e w' => e = .returned (.string (markT (k0 + j))) ∧ Below v.heap.size v w') := fun v => markText_any _ v (by omega) (by omega)
      generalize hk : k0 + j = kk at *
      have hkb : kk ≤ 12000000 := by omega
      have HKK : Hid (k0 + j = kk) := hk
      clear hk
      go_wp2_with fail
      refine (HC.out _).mono ?_
      rintro e w1 ⟨rfl, b1⟩
      have g0 := (b1.cell (p := ⟨R, j, none⟩) hltr).trans y0
      have h0 := (b1.frozen (p := ⟨R, j, none⟩) hltr).trans f0
      have HB1 : Hid (Below wr.heap.size wr w1) := b1
      clear b1
      go_wp2
      go_roundw
      case rel =>
        refine ⟨j + 1, ys.set j (markT kk), by omega, by go_num, by have := HKK.out; go_num, by simpa using hy, ?_, (HROW.out.below HB1.out).set j (by omega) _, (HBUT.out.trans (But.ofBelow HB1.out)).setCell _ _⟩
        have hjy : j < ys.length := by omega
        have hjm : j < (smarks l.length k0).length := by rw [smarks_len]; exact hlt
        rw [take_snoc _ j (by simpa using hjy), take_snoc _ j hjm, List.take_set_of_le (Nat.le_refl _), HTK.out, List.getElem_set_self, smarks_at, HKK.out]
      case measure => simp [intOf]; omega
    · obtain rfl : j = l.length := by omega
      clear hrow hbut
      go_wp2
      go_ret
      rw [List.take_of_length_le (by omega), List.take_of_length_le (by rw [smarks_len]; omega)] at htk
      subst htk
      exact ⟨rfl, HROW.out, HBUT.out⟩
set_option maxHeartbeats 400000 in
theorem markStringS_none (a : Option Addr) (cap k0 : Nat) (w : World) :
    Calls Try.prog 52 #[.slice a 0 cap, .int .i64 k0] w fun e w' => e = .returned (.int .i64 k0) ∧ w' = w := by
  go_enter Try.func52, Try.ntmps52
  go_wp2
  go_loop [1, 5] (fun t i => t = .int .i64 k0 ∧ i = .int .i64 0) (fun _ _ => 0)
  case atStart => exact ⟨rfl, rfl⟩
  case round =>
    obtain ⟨rfl, rfl⟩ := hrel
    go_wp2
    go_ret
    exact ⟨rfl, rfl⟩
set_option maxHeartbeats 1000000 in
theorem heldStringS_row (a : Option Addr) (cap k0 n : Nat) (w : World) (hn : n ≤ 1048576) (k1 : 1 ≤ k0) (k2 : k0 ≤ 10000000) (hR : Ss w.heap.size a (smarks n k0) w) :
    Calls Try.prog 58 #[.slice a n cap, .int .i64 k0] w fun e w' => e = .returned (.int .i64 (k0 + n : Nat)) ∧ Below w.heap.size w w' := by
  have HR : Hid (Ss w.heap.size a (smarks n k0) w) := hR
  clear hR
  have hml := smarks_len n k0
  go_enter Try.func58, Try.ntmps58
  go_wp2
  go_loopw [1, 5] (fun t i wr => ∃ j : Nat, j ≤ n ∧ i = .int .i64 j ∧ t = .int .i64 (k0 + j : Nat) ∧ Below w.heap.size w wr) (fun _ i _ => n - (intOf i).toNat)
  case atStart => exact ⟨0, Nat.zero_le _, rfl, rfl, Below.refl _ _⟩
  case round =>
    obtain ⟨j, hj, rfl, rfl, hbel⟩ := hrel
    have HBEL : Hid (Below w.heap.size w wr) := hbel
    by_cases hlt : j < n
    · obtain ⟨b, o, rfl, hb, hc⟩ := HR.out.cell (by omega)
      have x0 := (hbel.cell (p := ⟨b, o + j, none⟩) hb).trans (hc j (by omega))
      rw [smarks_at] at x0
      have HC : Hid (∀ v, Calls Try.prog 67 #[.int .i64 (k0 + j : Nat)] v fun e w' => e = .returned (.string (markT (k0 + j))) ∧ Below v.heap.size v w') := fun v => markText_any _ v (by omega) (by omega)
      generalize hk : k0 + j = kk at *
      have hkb : kk ≤ 12000000 := by omega
      have HKK : Hid (k0 + j = kk) := hk
      have hbr : b < wr.heap.size := Nat.lt_of_lt_of_le hb HBEL.out.size
      clear hc hbel hk
      go_wp2_with fail
      go_region_with (go_at_call 67; refine (HC.out _).mono ?_; rintro e w9 ⟨rfl, b9⟩; have z0 := (b9.cell (p := ⟨b, o + j, none⟩) hbr).trans x0)
      all_goals
        have HB9 : Hid (Below w.heap.size w w9) := HBEL.out.trans ((show Below wr.heap.size wr w9 from ⟨b9.os, b9.tape, b9.output, b9.size, b9.block⟩).mono HBEL.out.size)
        clear b9
        go_wp2
        go_roundw
        · exact ⟨j + 1, by omega, by go_num, by have := HKK.out; go_num, HB9.out⟩
        · simp [intOf]; omega
    · obtain rfl : j = n := by omega
      clear hbel
      go_wp2
      go_ret
      exact ⟨rfl, HBEL.out⟩
theorem mark_ownS (lo hi : Nat) (a : Option Addr) (c : Nat) (l : List ByteArray) (w : World) (hn : l.length ≤ 1048576) (h : OwnS lo hi a l w) :
    Calls Try.prog 52 #[.slice a l.length c, .int .i64 1] w fun e w' => e = .returned (.int .i64 (1 + l.length : Nat)) ∧ OwnS lo hi a (smarks l.length 1) w' ∧ Out lo hi w w' := by
  rcases h with rfl | ⟨R, h1, h3, rfl, hr⟩
  · exact (markStringS_none a c 1 w).mono fun e w' ⟨he, hb⟩ => ⟨he, Or.inl rfl, by subst hb; exact Out.refl _ _ _⟩
  · exact (markStringS_row R c 1 l w hn (by omega) (by omega) hr).mono fun e w' ⟨he, hrow, hb⟩ => ⟨he, Or.inr ⟨R, h1, h3, rfl, hrow⟩, Out.ofBut hb h1 h3⟩
theorem held_ownS (lo hi : Nat) (a : Option Addr) (c n : Nat) (w : World) (hn : n ≤ 1048576) (h : OwnS lo hi a (smarks n 1) w) :
    Calls Try.prog 58 #[.slice a n c, .int .i64 1] w fun e w' => e = .returned (.int .i64 (1 + n : Nat)) ∧ Below w.heap.size w w' :=
  heldStringS_row a c 1 n w hn (by omega) (by omega) h.ss
theorem SRow.madeV (w : World) (n : Nat) : SRow w.heap.size (List.replicate n ⟨#[]⟩) (w.alloc (.cells (madeCells (Value.string ⟨#[]⟩).cells n) 9)) := by
  have := GRow.made w 9 n #[.string ⟨#[]⟩]
  unfold SRow
  rw [List.map_replicate]
  have e : n * (#[Value.string ⟨#[]⟩] : Array Value).size = n := Nat.mul_one n
  rw [e] at this
  exact this
theorem infoStrV : (Try.prog.info? 9).map (fun i => (i.zero, i.size, i.bytes)) = some (some (.string ⟨#[]⟩), 1, 16) := by kernel_rfl
theorem make_strsV (n : Nat) (hn : n ≤ 1048576) (W : World) : (Instr.makeSlice 62 (.int .i64 (n : Int)) (.int .i64 (n : Int))).run Try.prog W =
    .ok (.slice (some ⟨W.heap.size, 0, none⟩) n n) (W.alloc (.cells (madeCells (Value.string ⟨#[]⟩).cells n) 9)) := by
  obtain ⟨i0, hi, hz0, hz1, hz2⟩ := info_parts infoStrV
  have h := run_make (P := Try.prog) W 62 9 i0 _ Try.underlying62 hi hz0 .i64 .i64 (n : Int) (n : Int) (by omega) (by omega) (by rw [hz2]; omega) (by omega)
  rw [hz1] at h
  simpa using h
set_option maxHeartbeats 1000000 in
theorem toStringS_any (a : Option Addr) (cap : Nat) (l : List ByteArray) (w : World) (hn : l.length ≤ 1048576) (hZ : Ss w.heap.size a l w) :
    Calls Try.prog 62 #[.slice a l.length cap] w fun e w' => e = .returned (.slice (some ⟨w.heap.size, 0, none⟩) l.length l.length) ∧ SRow w.heap.size l w' ∧ Below w.heap.size w w' := by
  have HZ : Hid (Ss w.heap.size a l w) := hZ
  clear hZ
  have hmk := make_strsV l.length hn
  have hr0 := SRow.madeV w l.length
  generalize madeCells (Value.string ⟨#[]⟩).cells l.length = M at *
  have HR : Hid (SRow w.heap.size (List.replicate l.length ⟨#[]⟩) (w.alloc (.cells M 9))) := hr0
  clear hr0
  go_enter Try.func62, Try.ntmps62
  go_wp2
  go_loopw [4] (fun i wr => ∃ (k : Nat) (ys : List ByteArray), k ≤ l.length ∧ i = .int .i64 k ∧ ys.length = l.length ∧ ys.take k = l.take k ∧ SRow w.heap.size ys wr ∧ Below w.heap.size w wr) (fun i _ => l.length - (intOf i).toNat)
  case atStart => exact ⟨0, List.replicate l.length ⟨#[]⟩, Nat.zero_le _, rfl, by simp, rfl, HR.out, (Below.refl _ _).alloc (Nat.le_refl _) _⟩
  case round =>
    obtain ⟨k, ys, hk, rfl, hy, htk, hrow, hbel⟩ := hrel
    have HROW : Hid (SRow w.heap.size ys wr) := hrow
    have HBEL : Hid (Below w.heap.size w wr) := hbel
    have HTK : Hid (ys.take k = l.take k) := htk
    by_cases hlt : k < l.length
    · obtain ⟨b, off, rfl, hb, hcells⟩ := HZ.out.cell (by omega)
      have c0 := (hbel.cell (p := ⟨b, off + k, none⟩) hb).trans (hcells k hlt)
      have y0 := hrow.cell k (by omega)
      have f0 := hrow.free k (by omega)
      clear hrow hbel htk hcells
      have HLK : Hid (l.take (k + 1) = l.take k ++ [l[k]]) := take_snoc l k hlt
      generalize l[k] = D at *
      go_wp2_with fail
      go_roundw
      case rel =>
        refine ⟨k + 1, ys.set k D, by omega, by go_num, by simpa using hy, ?_, HROW.out.set k (by omega) D, HBEL.out.setCell (Nat.le_refl _) _⟩
        have hky : k < ys.length := by omega
        rw [take_snoc _ k (by simpa using hky), HLK.out, List.take_set_of_le (Nat.le_refl _), HTK.out, List.getElem_set_self]
      case measure => simp [intOf]; omega
    · obtain rfl : k = l.length := by omega
      rw [List.take_length, List.take_of_length_le (by omega)] at htk
      subst htk
      clear hrow hbel
      go_wp2
      go_ret
      exact ⟨rfl, HROW.out, HBEL.out⟩
theorem mark_ownSk (lo hi : Nat) (a : Option Addr) (c k : Nat) (l : List ByteArray) (w : World) (hn : l.length ≤ 1048576) (k1 : 1 ≤ k) (k2 : k ≤ 10000000) (h : OwnS lo hi a l w) :
    Calls Try.prog 52 #[.slice a l.length c, .int .i64 k] w fun e w' => e = .returned (.int .i64 (k + l.length : Nat)) ∧ OwnS lo hi a (smarks l.length k) w' ∧ Out lo hi w w' := by
  rcases h with rfl | ⟨R, h1, h3, rfl, hr⟩
  · exact (markStringS_none a c k w).mono fun e w' ⟨he, hb⟩ => ⟨he, Or.inl rfl, by subst hb; exact Out.refl _ _ _⟩
  · exact (markStringS_row R c k l w hn k1 k2 hr).mono fun e w' ⟨he, hrow, hb⟩ => ⟨he, Or.inr ⟨R, h1, h3, rfl, hrow⟩, Out.ofBut hb h1 h3⟩
end Go.Proofs.Ytmbkdollakbigaa
namespace Go.Proofs.Ytmbkdollakbigaa
set_option maxRecDepth 100000
open Go Go.ChangeShapes Go.WideShapes Go.ChangeAt Go.RowKit
/-- one box at the world's end -/
structure Bx (w : World) (o : Obj) (wr : World) : Prop where
  below : Below w.heap.size w wr
  box : wr.heap[w.heap.size]? = some o
theorem Bx.start (w : World) (o : Obj) : Bx w o (w.alloc o) := ⟨boxB w o, heap_last w o⟩
theorem Bx.lt {w : World} {o : Obj} {wr : World} (h : Bx w o wr) : w.heap.size < wr.heap.size := by
  rcases Nat.lt_or_ge w.heap.size wr.heap.size with h' | h'
  · exact h'
  · have := h.box
    rw [Array.getElem?_eq_none h'] at this; cases this
theorem Bx.on {w : World} {o : Obj} {wr w' : World} (h : Bx w o wr) (g : Below wr.heap.size wr w') : Bx w o w' :=
  ⟨h.below.trans (g.mono (Nat.le_of_lt h.lt)), (g.block _ h.lt).trans h.box⟩
set_option maxHeartbeats 400000 in
theorem szIntS_l (a : Option Addr) (cap n : Nat) (left : Int) (w : World) (h0 : 0 ≤ left) (h1 : left ≤ 1048576) (hn : n ≤ 9223372036854775807) :
    Calls Try.prog 59 #[.slice a n cap, .int .i64 left] w fun e w' => (∃ r : Int, e = .returned (.int .i64 r) ∧ r ≤ left ∧ -1 ≤ r ∧ (0 ≤ r → r + n ≤ left)) ∧ w' = w := by
  by_cases g : (n : Int) ≤ left
  · have hd : decide (left - (n : Int) < 0) = false := by simp; omega
    go_enter Try.func59, Try.ntmps59
    go_wp2
    go_ret
    exact ⟨⟨_, rfl, by omega, by omega, fun _ => by omega⟩, rfl⟩
  · have hd : decide (left - (n : Int) < 0) = true := by simp; omega
    go_enter Try.func59, Try.ntmps59
    go_wp2
    go_ret
    exact ⟨⟨-1, rfl, by omega, by omega, fun h => by omega⟩, rfl⟩
set_option maxHeartbeats 1000000 in
theorem szStringS_l (a : Option Addr) (cap : Nat) (l : List ByteArray) (left : Int) (w : World) (h0 : 0 ≤ left) (h1 : left ≤ 1048576) (hz : ∀ s ∈ l, s.size ≤ 9223372036854775807) (hn : l.length ≤ 9223372036854775807) (hZ : Ss w.heap.size a l w) :
    Calls Try.prog 60 #[.slice a l.length cap, .int .i64 left] w fun e w' => (∃ r : Int, e = .returned (.int .i64 r) ∧ r ≤ left ∧ -1 ≤ r ∧ (0 ≤ r → r + l.length ≤ left)) ∧ w' = w := by
  have HZ : Hid (Ss w.heap.size a l w) := hZ
  have HS : Hid (∀ s ∈ l, s.size ≤ 9223372036854775807) := hz
  clear hZ hz
  by_cases g : (l.length : Int) ≤ left
  · have hd : decide (left - (l.length : Int) < 0) = false := by simp; omega
    go_enter Try.func60, Try.ntmps60
    go_wp2
    go_loopw [1, 5] (fun t i wr => ∃ (k : Nat) (r : Int), k ≤ l.length ∧ i = .int .i64 k ∧ t = .int .i64 r ∧ 0 ≤ r ∧ r + l.length ≤ left ∧ wr = w) (fun _ i _ => l.length - (intOf i).toNat)
    case atStart => exact ⟨0, _, Nat.zero_le _, rfl, rfl, by omega, by omega, rfl⟩
    case round =>
      obtain ⟨k, r, hk, rfl, rfl, r0, r1, hwr⟩ := hrel
      obtain rfl := hwr.symm
      by_cases hlt : k < l.length
      · obtain ⟨b, off, rfl, hb, hcells⟩ := HZ.out.cell (by omega)
        have c0 := hcells k hlt
        have hsz := HS.out l[k] (List.getElem_mem hlt)
        clear hcells
        generalize l[k] = D at *
        by_cases hq : (D.size : Int) ≤ r
        · have hdq : decide (r - (D.size : Int) < 0) = false := by simp; omega
          go_wp2
          go_roundw
          case rel => exact ⟨k + 1, r - (D.size : Int), by omega, by go_num, by go_num, by omega, by omega, by trivial⟩
          case measure => simp [intOf]; omega
        · have hdq : decide (r - (D.size : Int) < 0) = true := by simp; omega
          go_wp2
          go_ret
          exact ⟨⟨-1, rfl, by omega, by omega, fun h => by omega⟩, rfl⟩
      · go_wp2
        go_ret
        exact ⟨⟨r, rfl, by omega, by omega, fun _ => by omega⟩, rfl⟩
  · have hd : decide (left - (l.length : Int) < 0) = true := by simp; omega
    go_enter Try.func60, Try.ntmps60
    go_wp2
    go_ret
    exact ⟨⟨-1, rfl, by omega, by omega, fun h => by omega⟩, rfl⟩
/-- lengths that a law can count -/
def cntY (y : Ly) : Prop := y.bl.length ≤ 9223372036854775807 ∧ (∀ s ∈ y.dt, s.size ≤ 9223372036854775807) ∧ y.dt.length ≤ 9223372036854775807
/-- what a layer weighs -/
def wtY (y : Ly) : Nat := 1 + y.bl.length + y.dt.length
def wtK (S : List Ly) : Nat := (S.map wtY).sum
theorem wtK_snoc (S : List Ly) (k : Nat) (h : k < S.length) : wtK (S.take (k + 1)) = wtK (S.take k) + wtY S[k] := by
  unfold wtK
  rw [take_snoc S k h, List.map_append, List.sum_append_nat]
  simp
theorem wtK_all (S : List Ly) : wtK (S.take S.length) = wtK S := by rw [List.take_length]
/-- marks of a size that the laws look at -/
def FitK (S : List Ly) : Prop := wtK S ≤ 1048576
theorem wtK_le (S : List Ly) (k : Nat) : wtK (S.take k) ≤ wtK S := by
  unfold wtK
  rw [List.map_take]
  have := List.take_append_drop k (S.map wtY)
  have h : (S.map wtY).sum = ((S.map wtY).take k).sum + ((S.map wtY).drop k).sum := by rw [← List.sum_append_nat, this]
  omega
theorem FitK.at {S : List Ly} (h : FitK S) (k : Nat) (hk : k < S.length) : wtY S[k] ≤ 1048576 := by
  have h1 := wtK_snoc S k hk
  have h2 := wtK_le S (k + 1)
  unfold FitK at h
  omega
theorem FitK.bl {S : List Ly} (h : FitK S) (k : Nat) (hk : k < S.length) : S[k].bl.length ≤ 1048576 := by have := h.at k hk; unfold wtY at this; omega
theorem FitK.dt {S : List Ly} (h : FitK S) (k : Nat) (hk : k < S.length) : S[k].dt.length ≤ 1048576 := by have := h.at k hk; unfold wtY at this; omega
theorem len_wt (S : List Ly) : S.length ≤ wtK S := by
  unfold wtK
  induction S with
  | nil => exact Nat.le_refl _
  | cons y l ih =>
    rw [List.length_cons, List.map_cons, List.sum_cons]
    have : 1 ≤ wtY y := by unfold wtY; omega
    omega
theorem FitK.len {S : List Ly} (h : FitK S) : S.length ≤ 1048576 := Nat.le_trans (len_wt S) h
set_option maxHeartbeats 1000000 in
theorem szLayer_l (p q : Option Addr) (c d : Nat) (y : Ly) (left : Int) (w : World) (h0 : 0 ≤ left) (h1 : left ≤ 1048576) (hc : cntY y) (hQ : Ss w.heap.size q y.dt w) :
    Calls Try.prog 41 #[.agg #[.int .i64 y.mark, .slice p y.bl.length c, .slice q y.dt.length d], .int .i64 left] w fun e w' => (∃ r : Int, e = .returned (.int .i64 r) ∧ r ≤ left ∧ -1 ≤ r ∧ (0 ≤ r → r + y.bl.length + y.dt.length ≤ left)) ∧ Below w.heap.size w w' := by
  obtain ⟨m, bl, dt⟩ := y
  simp only at hQ ⊢
  obtain ⟨c1, c2, c3⟩ := hc
  simp only at c1 c2 c3
  have HB := hid (boxB w (.cells #[.int .i64 m, .slice p bl.length c, .slice q dt.length d] 72))
  have y1 : (w.alloc (.cells #[.int .i64 m, .slice p bl.length c, .slice q dt.length d] 72)).cell? ⟨w.heap.size, 1, none⟩ = some (.slice p bl.length c) := box_cell (heap_last _ _) 1
  have y2 : (w.alloc (.cells #[.int .i64 m, .slice p bl.length c, .slice q dt.length d] 72)).cell? ⟨w.heap.size, 2, none⟩ = some (.slice q dt.length d) := box_cell (heap_last _ _) 2
  have HQ := hid ((hQ.below HB.out).mono HB.out.size)
  have HC := hid (fun v => szIntS_l p c bl.length left v h0 h1 c1)
  have HC2 := hid c2
  clear hQ c2
  generalize hW : w.alloc (.cells #[.int .i64 m, .slice p bl.length c, .slice q dt.length d] 72) = W at *
  go_enter Try.func41, Try.ntmps41
  go_wp2_with fail
  clear hW
  refine (HC.out _).mono ?_
  rintro e w2 ⟨⟨r, rfl, r1, r2, r3⟩, hw2⟩
  rw [hw2]
  clear hw2 HC
  have HR := hid r3
  clear r3
  by_cases g : r < 0
  · have hd : decide (r < 0) = true := decide_eq_true g
    go_wp2_with fail
    go_ret
    exact ⟨⟨-1, rfl, by omega, by omega, fun h => by omega⟩, HB.out⟩
  have hd : decide (r < 0) = false := decide_eq_false g
  have hr3 := HR.out (by omega)
  have HC3 := hid (szStringS_l q d dt r W (by omega) (by omega) HC2.out c3 HQ.out)
  clear HR HQ HC2
  go_wp2_with fail
  refine HC3.out.mono ?_
  rintro e w2 ⟨⟨s, rfl, s1, s2, s3⟩, hw2⟩
  rw [hw2]
  clear hw2 HC3
  have HS := hid s3
  clear s3
  by_cases g2 : s < 0
  · have hd2 : decide (s < 0) = true := decide_eq_true g2
    go_wp2_with fail
    go_ret
    exact ⟨⟨-1, rfl, by omega, by omega, fun h => by omega⟩, HB.out⟩
  · have hd2 : decide (s < 0) = false := decide_eq_false g2
    go_wp2_with fail
    go_ret
    exact ⟨⟨s, rfl, by omega, by omega, fun h => by have := HS.out h; omega⟩, HB.out⟩
set_option maxHeartbeats 1000000 in
theorem szLayerS_l (a : Option Addr) (cap : Nat) (S : List Ly) (w : World) (hn : S.length ≤ 9223372036854775807) (hf : ∀ s ∈ S, cntY s) (hG : Ys w.heap.size a S w) :
    Calls Try.prog 17 #[.slice a S.length cap, .int .i64 1048576] w fun e w' => (∃ r : Int, e = .returned (.int .i64 r) ∧ -1 ≤ r ∧ (0 ≤ r → FitK S)) ∧ Below w.heap.size w w' := by
  have HG := hid hG
  have HF := hid hf
  clear hG hf
  by_cases g : (S.length : Int) ≤ 1048576
  case neg =>
    have hd : decide ((1048576 : Int) - (S.length : Int) < 0) = true := by simp; omega
    go_enter Try.func17, Try.ntmps17
    go_wp2_with fail
    go_ret
    exact ⟨⟨-1, rfl, by omega, fun h => by omega⟩, Below.refl _ _⟩
  have hd : decide ((1048576 : Int) - (S.length : Int) < 0) = false := by simp; omega
  go_enter Try.func17, Try.ntmps17
  go_wp2_with fail
  go_loopw [1, 5] (fun u i wr => ∃ (k : Nat) (r : Int), k ≤ S.length ∧ i = .int .i64 k ∧ u = .int .i64 r ∧ 0 ≤ r ∧ r + S.length + wtK (S.take k) ≤ 1048576 + k ∧ Below w.heap.size w wr) (fun _ i _ => S.length - (intOf i).toNat)
  case atStart => exact ⟨0, 1048576 - S.length, Nat.zero_le _, rfl, rfl, by omega, (by show (1048576 - S.length : Int) + S.length + ((0 : Nat) : Int) ≤ _; omega), Below.refl _ _⟩
  case round =>
    obtain ⟨k, r, hk, rfl, rfl, r0, hsum, hbel⟩ := hrel
    have HBEL := hid hbel
    by_cases hlt : k < S.length
    · obtain ⟨b, off, rfl, hb, hcl⟩ := HG.out (by omega)
      obtain ⟨p, c, q, d, k0, k1, k2, -, hQ⟩ := hcl k hlt
      rw [← hbel.cell (p := ⟨b, off + k * 3, none⟩) hb] at k0
      rw [← hbel.cell (p := ⟨b, off + k * 3 + 1, none⟩) hb] at k1
      rw [← hbel.cell (p := ⟨b, off + k * 3 + 2, none⟩) hb] at k2
      have hf := HF.out S[k] (List.getElem_mem hlt)
      have hsn := wtK_snoc S k hlt
      have hQ1 := (hQ.below hbel).mono hbel.size
      generalize hy : S[k] = y at *
      have HC : Hid (∀ v, Below wr.heap.size wr v → Calls Try.prog 41 #[.agg #[.int .i64 y.mark, .slice p y.bl.length c, .slice q y.dt.length d], .int .i64 r] v fun e w' => (∃ t : Int, e = .returned (.int .i64 t) ∧ t ≤ r ∧ -1 ≤ t ∧ (0 ≤ t → t + y.bl.length + y.dt.length ≤ r)) ∧ Below v.heap.size v w') := fun v g => szLayer_l p q c d y r v r0 (by omega) hf ((hQ1.below g).mono g.size)
      unfold wtY at hsn
      clear hcl hbel hf hQ hQ1 hy
      obtain ⟨m, bl, dt⟩ := y
      simp only at k0 k1 k2 HC hsn
      have hbr := HBEL.out.size
      go_wp2_with fail
      refine (HC.out _ (Below.refl _ _)).mono ?_
      rintro e w2 ⟨⟨t, rfl, t1, t2, t3⟩, hb2⟩
      have HB2 := hid (HBEL.out.trans (hb2.mono hbr))
      have HT := hid t3
      clear HC hb2 k0 k1 k2 t3
      by_cases g : t < 0
      · have hdq : decide (t < 0) = true := decide_eq_true g
        go_wp2_with fail
        go_ret
        exact ⟨⟨-1, rfl, by omega, fun h => by omega⟩, HB2.out⟩
      · have hdq : decide (t < 0) = false := decide_eq_false g
        have ht := HT.out (by omega)
        go_wp2_with fail
        go_roundw
        case rel => exact ⟨k + 1, t, by omega, by go_num, rfl, by omega, by omega, HB2.out⟩
        case measure => simp [intOf]; omega
    · obtain rfl : k = S.length := by omega
      rw [wtK_all] at hsum
      clear hbel
      go_wp2_with fail
      go_ret
      exact ⟨⟨r, rfl, by omega, fun _ => by unfold FitK; omega⟩, HBEL.out⟩
set_option maxHeartbeats 1000000 in
theorem szMarks_l (a : Option Addr) (cap : Nat) (S : List Ly) (w : World) (hn : S.length ≤ 9223372036854775807) (hf : ∀ s ∈ S, cntY s) (hG : Ys w.heap.size a S w) :
    Calls Try.prog 5 #[.agg #[.slice a S.length cap], .int .i64 1048576] w fun e w' => (∃ r : Int, e = .returned (.int .i64 r) ∧ (0 ≤ r → FitK S)) ∧ Below w.heap.size w w' := by
  have HB := hid (Bx.start w (.cells #[.slice a S.length cap] 24))
  have y0 : (w.alloc (.cells #[.slice a S.length cap] 24)).cell? ⟨w.heap.size, 0, none⟩ = some (.slice a S.length cap) := box_cell HB.out.box 0
  have HC := hid (szLayerS_l a cap S _ hn hf ((hG.below HB.out.below).mono HB.out.below.size))
  clear hG hf
  generalize hW : w.alloc (.cells #[.slice a S.length cap] 24) = W at *
  go_enter Try.func5, Try.ntmps5
  go_wp2_with fail
  refine HC.out.mono ?_
  rintro e w2 ⟨⟨r, rfl, r1, r2⟩, b2⟩
  have HB2 := hid (HB.out.on b2)
  have HR := hid r2
  clear b2 r2 hW y0
  by_cases g : r < 0
  · have hdq : decide (r < 0) = true := decide_eq_true g
    go_wp2_with fail
    go_ret
    exact ⟨⟨-1, rfl, fun h => by omega⟩, HB2.out.below⟩
  · have hdq : decide (r < 0) = false := decide_eq_false g
    go_wp2_with fail
    go_ret
    exact ⟨⟨r, rfl, HR.out⟩, HB2.out.below⟩
end Go.Proofs.Ytmbkdollakbigaa
namespace Go.Proofs.Ytmbkdollakbigaa
set_option maxRecDepth 100000
open Go Go.ChangeShapes Go.WideShapes Go.ChangeAt Go.RowKit
set_option maxHeartbeats 1000000 in
theorem eqLayer_same (p1 p2 q1 q2 : Option Addr) (c1 c2 d1 d2 : Nat) (m : Int) (bl : List Int) (dt : List ByteArray) (w : World) (hn : bl.length ≤ 1048576) (hm : dt.length ≤ 1048576) (h1 : Is w.heap.size p1 bl w) (h2 : Is w.heap.size p2 bl w) (g1 : Ss w.heap.size q1 dt w) (g2 : Ss w.heap.size q2 dt w) :
    Calls Try.prog 51 #[.agg #[.int .i64 m, .slice p1 bl.length c1, .slice q1 dt.length d1], .agg #[.int .i64 m, .slice p2 bl.length c2, .slice q2 dt.length d2]] w fun e w' => e = .returned (.bool true) ∧ Below w.heap.size w w' := by
  have hK0 : Below w.heap.size w ((w.alloc (.cells #[.int .i64 m, .slice p1 bl.length c1, .slice q1 dt.length d1] 64)).alloc (.cells #[.int .i64 m, .slice p2 bl.length c2, .slice q2 dt.length d2] 64)) := (boxB w _).alloc (by simp) _
  have hx : ((w.alloc (.cells #[.int .i64 m, .slice p1 bl.length c1, .slice q1 dt.length d1] 64)).alloc (.cells #[.int .i64 m, .slice p2 bl.length c2, .slice q2 dt.length d2] 64)).heap[w.heap.size]? = some (.cells #[.int .i64 m, .slice p1 bl.length c1, .slice q1 dt.length d1] 64) := heap_mid2 _ _ _
  have hy : ((w.alloc (.cells #[.int .i64 m, .slice p1 bl.length c1, .slice q1 dt.length d1] 64)).alloc (.cells #[.int .i64 m, .slice p2 bl.length c2, .slice q2 dt.length d2] 64)).heap[w.heap.size + 1]? = some (.cells #[.int .i64 m, .slice p2 bl.length c2, .slice q2 dt.length d2] 64) := heap_last2 _ _ _
  have hsz : ((w.alloc (.cells #[.int .i64 m, .slice p1 bl.length c1, .slice q1 dt.length d1] 64)).alloc (.cells #[.int .i64 m, .slice p2 bl.length c2, .slice q2 dt.length d2] 64)).heap.size = w.heap.size + 2 := by simp
  have HC1 : Hid (∀ v, Below w.heap.size w v → Calls Try.prog 9 #[.slice p1 bl.length c1, .slice p2 bl.length c2] v fun e w' => e = .returned (.bool true) ∧ Below v.heap.size v w') := fun v g => eqIntS_same p1 p2 c1 c2 bl v hn ((h1.below g).mono g.size) ((h2.below g).mono g.size)
  have HC2 : Hid (∀ v, Below w.heap.size w v → Calls Try.prog 66 #[.slice q1 dt.length d1, .slice q2 dt.length d2] v fun e w' => e = .returned (.bool true) ∧ Below v.heap.size v w') := fun v g => eqStringS_same q1 q2 d1 d2 dt v hm ((g1.below g).mono g.size) ((g2.below g).mono g.size)
  clear h1 h2 g1 g2
  generalize hW : (w.alloc (.cells #[.int .i64 m, .slice p1 bl.length c1, .slice q1 dt.length d1] 64)).alloc (.cells #[.int .i64 m, .slice p2 bl.length c2, .slice q2 dt.length d2] 64) = W at *
  have HK0 := hid hK0
  have HX := hid hx
  have HY := hid hy
  clear hK0 hx hy
  have x0 : W.cell? ⟨w.heap.size, 0, none⟩ = some (.int .i64 m) := box_cell HX.out 0
  have x1 : W.cell? ⟨w.heap.size, 1, none⟩ = some (.slice p1 bl.length c1) := box_cell HX.out 1
  have y0 : W.cell? ⟨w.heap.size + 1, 0, none⟩ = some (.int .i64 m) := box_cell HY.out 0
  have y1 : W.cell? ⟨w.heap.size + 1, 1, none⟩ = some (.slice p2 bl.length c2) := box_cell HY.out 1
  go_enter Try.func51, Try.ntmps51
  go_wp2_with fail
  clear hW
  refine (HC1.out _ HK0.out).mono ?_
  rintro e w2 ⟨rfl, b2⟩
  have HB2 := hid (HK0.out.trans (b2.mono HK0.out.size))
  have x2 : w2.cell? ⟨w.heap.size, 2, none⟩ = some (.slice q1 dt.length d1) := box_cell ((b2.block _ (by omega)).trans HX.out) 2
  have y2 : w2.cell? ⟨w.heap.size + 1, 2, none⟩ = some (.slice q2 dt.length d2) := box_cell ((b2.block _ (by omega)).trans HY.out) 2
  clear b2 HC1 x0 x1 y0 y1
  go_wp2_with fail
  refine (HC2.out _ HB2.out).mono ?_
  rintro e w3 ⟨rfl, b3⟩
  have HB3 := hid (HB2.out.trans (b3.mono HB2.out.size))
  clear b3 HC2 x2 y2
  go_wp2_with fail
  go_ret
  exact ⟨rfl, HB3.out⟩
set_option maxHeartbeats 2000000 in
theorem eqLayerS_same (a1 a2 : Option Addr) (c1 c2 : Nat) (S : List Ly) (w : World) (hf : FitK S) (h1 : Ys w.heap.size a1 S w) (h2 : Ys w.heap.size a2 S w) :
    Calls Try.prog 30 #[.slice a1 S.length c1, .slice a2 S.length c2] w fun e w' => e = .returned (.bool true) ∧ Below w.heap.size w w' := by
  have H1 := hid h1
  have H2 := hid h2
  have HF := hid hf
  have hn := hf.len
  clear h1 h2 hf
  go_enter Try.func30, Try.ntmps30
  go_wp2_with fail
  go_loopw [5] (fun i wr => ∃ k : Nat, k ≤ S.length ∧ i = .int .i64 k ∧ Below w.heap.size w wr) (fun i _ => S.length - (intOf i).toNat)
  case atStart => exact ⟨0, Nat.zero_le _, rfl, Below.refl _ _⟩
  case round =>
    obtain ⟨k, hk, rfl, hbel⟩ := hrel
    have HBEL := hid hbel
    by_cases hlt : k < S.length
    · obtain ⟨b1, o1, rfl, hb1, hc1⟩ := H1.out (by omega)
      obtain ⟨b2, o2, rfl, hb2, hc2⟩ := H2.out (by omega)
      obtain ⟨p, c, q, d, x0, x1, x2, hI, hS⟩ := hc1 k hlt
      obtain ⟨p', c', q', d', y0, y1, y2, hJ, hT⟩ := hc2 k hlt
      have kc1 : ∀ o, wr.cell? ⟨b1, o, none⟩ = w.cell? ⟨b1, o, none⟩ := fun o => hbel.cell (p := ⟨b1, o, none⟩) hb1
      have kc2 : ∀ o, wr.cell? ⟨b2, o, none⟩ = w.cell? ⟨b2, o, none⟩ := fun o => hbel.cell (p := ⟨b2, o, none⟩) hb2
      rw [← kc1] at x0 x1 x2
      rw [← kc2] at y0 y1 y2
      have hm1 := HF.out.bl k hlt
      have hm2 := HF.out.dt k hlt
      generalize S[k] = s at *
      obtain ⟨m, bl, dt⟩ := s
      simp only at x0 x1 x2 y0 y1 y2 hI hJ hS hT hm1 hm2
      have hw := HBEL.out.drew
      have HC := hid (eqLayer_same p p' q q' c c' d d' m bl dt wr.drew hm1 hm2 ((hI.below hw).mono hw.size) ((hJ.below hw).mono hw.size) ((hS.below hw).mono hw.size) ((hT.below hw).mono hw.size))
      clear hw
      clear hc1 hc2 hbel hI hJ hS hT kc1 kc2
      go_wp2_with fail
      go_region_with (go_at_call 51; refine HC.out.mono ?_; rintro e w9 ⟨rfl, b9⟩)
      all_goals
        have HB9 : Hid (Below w.heap.size w w9) := HBEL.out.trans ((show Below wr.heap.size wr w9 from ⟨b9.os, b9.tape, b9.output, b9.size, b9.block⟩).mono HBEL.out.size)
        clear b9
        go_wp2
        go_roundw
        · exact ⟨k + 1, by omega, by go_num, HB9.out⟩
        · simp [intOf]; omega
    · clear hbel
      go_wp2
      go_ret
      exact ⟨rfl, HBEL.out⟩
set_option maxHeartbeats 1000000 in
theorem eqMarks_same (a1 a2 : Option Addr) (c1 c2 : Nat) (S : List Ly) (w : World) (hf : FitK S) (h1 : Ys w.heap.size a1 S w) (h2 : Ys w.heap.size a2 S w) :
    Calls Try.prog 10 #[.agg #[.slice a1 S.length c1], .agg #[.slice a2 S.length c2]] w fun e w' => e = .returned (.bool true) ∧ Below w.heap.size w w' := by
  have HB : Hid (Below w.heap.size w ((w.alloc (.cells #[.slice a1 S.length c1] 31)).alloc (.cells #[.slice a2 S.length c2] 31))) := (boxB w _).alloc (by simp) _
  have y0 : ((w.alloc (.cells #[.slice a1 S.length c1] 31)).alloc (.cells #[.slice a2 S.length c2] 31)).cell? ⟨w.heap.size, 0, none⟩ = some (.slice a1 S.length c1) := box_cell (heap_mid2 _ _ _) 0
  have z0 : ((w.alloc (.cells #[.slice a1 S.length c1] 31)).alloc (.cells #[.slice a2 S.length c2] 31)).cell? ⟨w.heap.size + 1, 0, none⟩ = some (.slice a2 S.length c2) := box_cell (heap_last2 _ _ _) 0
  have HC := hid (eqLayerS_same a1 a2 c1 c2 S _ hf ((h1.below HB.out).mono HB.out.size) ((h2.below HB.out).mono HB.out.size))
  clear h1 h2 hf
  generalize hW : (w.alloc (.cells #[.slice a1 S.length c1] 31)).alloc (.cells #[.slice a2 S.length c2] 31) = W at *
  go_enter Try.func10, Try.ntmps10
  go_wp2_with fail
  refine HC.out.mono ?_
  rintro e w2 ⟨rfl, hb2⟩
  have HB2 := hid (HB.out.trans (hb2.mono HB.out.size))
  clear hb2 hW y0 z0 HC HB
  go_wp2_with fail
  go_ret
  exact ⟨rfl, HB2.out⟩
end Go.Proofs.Ytmbkdollakbigaa
namespace Go.Proofs.Ytmbkdollakbigaa
set_option maxRecDepth 100000
open Go Go.ChangeShapes Go.WideShapes Go.ChangeAt Go.RowKit
def updA {α : Type} (f : Nat → α) (k : Nat) (x : α) : Nat → α := fun i => if i = k then x else f i
theorem updA_same {α : Type} (f : Nat → α) (k : Nat) (x : α) : updA f k x k = x := by simp [updA]
theorem updA_other {α : Type} (f : Nat → α) (k i : Nat) (x : α) (h : i ≠ k) : updA f k x i = f i := by simp [updA, h]
/-- where a layer's blocks and data lie -/
structure LA where
  p : Option Addr
  c : Nat
  f : Nat
  q : Option Addr
  d : Nat
  g : Nat
structure LyOwn (lo hi R : Nat) (A : Nat → LA) (S : List Ly) (w : World) : Prop where
  r0 : lo ≤ R
  r1 : R < hi
  r2 : hi ≤ w.heap.size
  cell : ∀ i (h : i < S.length), w.cell? ⟨R, i * 3, none⟩ = some (.int .i64 S[i].mark) ∧ w.cell? ⟨R, i * 3 + 1, none⟩ = some (.slice (A i).p S[i].bl.length (A i).c) ∧ w.cell? ⟨R, i * 3 + 2, none⟩ = some (.slice (A i).q S[i].dt.length (A i).d)
  free : ∀ j, j < S.length * 3 → w.frozen? ⟨R, j, none⟩ = false
  ownB : ∀ i (h : i < S.length), S[i].bl = [] ∨ (lo ≤ (A i).f ∧ (A i).f < hi ∧ (A i).f ≠ R ∧ (A i).p = some ⟨(A i).f, 0, none⟩ ∧ IRow (A i).f S[i].bl w)
  ownD : ∀ i (h : i < S.length), S[i].dt = [] ∨ (lo ≤ (A i).g ∧ (A i).g < hi ∧ (A i).g ≠ R ∧ (A i).q = some ⟨(A i).g, 0, none⟩ ∧ SRow (A i).g S[i].dt w)
  bb : ∀ i j (h : i < S.length) (g : j < S.length), i ≠ j → S[i].bl ≠ [] → S[j].bl ≠ [] → (A i).f ≠ (A j).f
  dd : ∀ i j (h : i < S.length) (g : j < S.length), i ≠ j → S[i].dt ≠ [] → S[j].dt ≠ [] → (A i).g ≠ (A j).g
  bd : ∀ i j (h : i < S.length) (g : j < S.length), S[i].bl ≠ [] → S[j].dt ≠ [] → (A i).f ≠ (A j).g
section
variable {lo hi R : Nat} {A : Nat → LA} {S : List Ly} {w : World}
theorem LyOwn.fB (h : LyOwn lo hi R A S w) (i : Nat) (hi' : i < S.length) (e : S[i].bl ≠ []) : lo ≤ (A i).f ∧ (A i).f < hi ∧ (A i).f ≠ R ∧ (A i).p = some ⟨(A i).f, 0, none⟩ ∧ IRow (A i).f S[i].bl w := (h.ownB i hi').resolve_left e
theorem LyOwn.fD (h : LyOwn lo hi R A S w) (i : Nat) (hi' : i < S.length) (e : S[i].dt ≠ []) : lo ≤ (A i).g ∧ (A i).g < hi ∧ (A i).g ≠ R ∧ (A i).q = some ⟨(A i).g, 0, none⟩ ∧ SRow (A i).g S[i].dt w := (h.ownD i hi').resolve_left e
theorem LyOwn.ys (h : LyOwn lo hi R A S w) : Ys w.heap.size (some ⟨R, 0, none⟩) S w := fun _ => by
  have := h.r1; have := h.r2
  refine ⟨R, 0, rfl, by omega, fun i hi => ?_⟩
  obtain ⟨h1, h2, h3⟩ := h.cell i hi
  refine ⟨(A i).p, (A i).c, (A i).q, (A i).d, by rw [Nat.zero_add]; exact h1, by rw [Nat.zero_add]; exact h2, by rw [Nat.zero_add]; exact h3, ?_, ?_⟩
  · rcases h.ownB i hi with h0 | ⟨_, h4, _, h6, h7⟩
    · rw [h0]; exact ⟨fun h0 => absurd h0 (by simp)⟩
    · rw [h6]; exact h7.sl (by omega)
  · rcases h.ownD i hi with h0 | ⟨_, h4, _, h6, h7⟩
    · rw [h0]; exact ⟨fun h0 => absurd h0 (by simp)⟩
    · rw [h6]; exact h7.sl (by omega)
/-- nothing of what is owned has turned -/
theorem LyOwn.keep (h : LyOwn lo hi R A S w) {w' : World} (hs : w.heap.size ≤ w'.heap.size) (hb : ∀ X, lo ≤ X → X < hi → w'.heap[X]? = w.heap[X]?) : LyOwn lo hi R A S w' := by
  have hR := hb R h.r0 h.r1
  have hc : ∀ o, w'.cell? ⟨R, o, none⟩ = w.cell? ⟨R, o, none⟩ := fun o => by unfold World.cell?; simp only [hR]
  have hf : ∀ o, w'.frozen? ⟨R, o, none⟩ = w.frozen? ⟨R, o, none⟩ := fun o => by unfold World.frozen?; simp only [hR]
  refine ⟨h.r0, h.r1, Nat.le_trans h.r2 hs, fun i hi => ?_, fun j hj => (hf _).trans (h.free j hj), fun i hi => ?_, fun i hi => ?_, h.bb, h.dd, h.bd⟩
  · rw [hc, hc, hc]; exact h.cell i hi
  · rcases h.ownB i hi with h0 | ⟨h3, h4, h5, h6, h7⟩
    · exact Or.inl h0
    · exact Or.inr ⟨h3, h4, h5, h6, h7.same hs (hb _ h3 h4)⟩
  · rcases h.ownD i hi with h0 | ⟨h3, h4, h5, h6, h7⟩
    · exact Or.inl h0
    · exact Or.inr ⟨h3, h4, h5, h6, h7.same hs (hb _ h3 h4)⟩
theorem LyOwn.on (h : LyOwn lo hi R A S w) {w' : World} (g : Below w.heap.size w w') : LyOwn lo hi R A S w' := h.keep g.size (fun X _ h1 => g.block X (Nat.lt_of_lt_of_le h1 h.r2))
theorem LyOwn.out (h : LyOwn lo hi R A S w) {w' : World} {l2 h2 : Nat} (g : Out l2 h2 w w') (hd : hi ≤ l2 ∨ h2 ≤ lo) : LyOwn lo hi R A S w' := h.keep g.size (fun X h0 h1 => g.block X (Nat.lt_of_lt_of_le h1 h.r2) (by omega))
/-- another layer in the place of the k-th, in new memory or in its own -/
theorem LyOwn.put (h : LyOwn lo hi R A S w) (k : Nat) (hk : k < S.length) (y : Ly) (a : LA) (hi' : Nat) (w' : World) (hh : hi ≤ hi') (hs : hi' ≤ w'.heap.size) (hsz : w.heap.size ≤ w'.heap.size)
    (c0 : w'.cell? ⟨R, k * 3, none⟩ = some (.int .i64 y.mark)) (c1 : w'.cell? ⟨R, k * 3 + 1, none⟩ = some (.slice a.p y.bl.length a.c)) (c2 : w'.cell? ⟨R, k * 3 + 2, none⟩ = some (.slice a.q y.dt.length a.d))
    (co : ∀ o, o < k * 3 ∨ k * 3 + 3 ≤ o → w'.cell? ⟨R, o, none⟩ = w.cell? ⟨R, o, none⟩) (fr : ∀ o, w'.frozen? ⟨R, o, none⟩ = w.frozen? ⟨R, o, none⟩)
    (rows : ∀ X, lo ≤ X → X < hi → X ≠ R → (S[k].bl ≠ [] → X ≠ (A k).f) → (S[k].dt ≠ [] → X ≠ (A k).g) → w'.heap[X]? = w.heap[X]?)
    (nb : y.bl = [] ∨ (lo ≤ a.f ∧ a.f < hi' ∧ a.f ≠ R ∧ a.p = some ⟨a.f, 0, none⟩ ∧ IRow a.f y.bl w' ∧ (hi ≤ a.f ∨ (a.f = (A k).f ∧ S[k].bl ≠ []))))
    (nd : y.dt = [] ∨ (lo ≤ a.g ∧ a.g < hi' ∧ a.g ≠ R ∧ a.q = some ⟨a.g, 0, none⟩ ∧ SRow a.g y.dt w' ∧ (hi ≤ a.g ∨ (a.g = (A k).g ∧ S[k].dt ≠ []))))
    (ne : y.bl ≠ [] → y.dt ≠ [] → a.f ≠ a.g) : LyOwn lo hi' R (updA A k a) (S.set k y) w' := by
  have hlen : (S.set k y).length = S.length := List.length_set
  refine ⟨h.r0, Nat.lt_of_lt_of_le h.r1 hh, hs, fun i hi2 => ?_, fun j hj => (fr j).trans (h.free j (by rw [← hlen]; exact hj)), fun i hi2 => ?_, fun i hi2 => ?_, fun i j hi2 hj2 hij ei ej => ?_, fun i j hi2 hj2 hij ei ej => ?_, fun i j hi2 hj2 ei ej => ?_⟩
  · have hi3 : i < S.length := by rw [← hlen]; exact hi2
    by_cases e : i = k
    · subst e
      rw [updA_same, List.getElem_set_self]
      exact ⟨c0, c1, c2⟩
    · rw [updA_other _ _ _ _ e, List.getElem_set_ne (fun e2 => e e2.symm), co _ (by omega), co _ (by omega), co _ (by omega)]
      exact h.cell i hi3
  · have hi3 : i < S.length := by rw [← hlen]; exact hi2
    by_cases e : i = k
    · subst e
      rw [updA_same, List.getElem_set_self]
      rcases nb with h0 | ⟨h1, h2, h3, h4, h5, _⟩
      · exact Or.inl h0
      · exact Or.inr ⟨h1, h2, h3, h4, h5⟩
    · rw [updA_other _ _ _ _ e, List.getElem_set_ne (fun e2 => e e2.symm)]
      by_cases hne : S[i].bl = []
      · exact Or.inl hne
      · obtain ⟨h1, h2, h3, h4, h5⟩ := h.fB i hi3 hne
        exact Or.inr ⟨h1, Nat.lt_of_lt_of_le h2 hh, h3, h4, h5.same hsz (rows _ h1 h2 h3 (fun ek => h.bb i k hi3 hk e hne ek) (fun ek => h.bd i k hi3 hk hne ek))⟩
  · have hi3 : i < S.length := by rw [← hlen]; exact hi2
    by_cases e : i = k
    · subst e
      rw [updA_same, List.getElem_set_self]
      rcases nd with h0 | ⟨h1, h2, h3, h4, h5, _⟩
      · exact Or.inl h0
      · exact Or.inr ⟨h1, h2, h3, h4, h5⟩
    · rw [updA_other _ _ _ _ e, List.getElem_set_ne (fun e2 => e e2.symm)]
      by_cases hne : S[i].dt = []
      · exact Or.inl hne
      · obtain ⟨h1, h2, h3, h4, h5⟩ := h.fD i hi3 hne
        exact Or.inr ⟨h1, Nat.lt_of_lt_of_le h2 hh, h3, h4, h5.same hsz (rows _ h1 h2 h3 (fun ek e2 => h.bd k i hk hi3 ek hne e2.symm) (fun ek => h.dd i k hi3 hk e hne ek))⟩
  · have hi3 : i < S.length := by rw [← hlen]; exact hi2
    have hj3 : j < S.length := by rw [← hlen]; exact hj2
    by_cases e1 : i = k
    · subst e1
      rw [List.getElem_set_self] at ei
      rw [List.getElem_set_ne hij] at ej
      rw [updA_same, updA_other _ _ _ _ (fun e => hij e.symm)]
      obtain ⟨_, _, _, _, _, hn⟩ := nb.resolve_left ei
      obtain ⟨_, h2, _⟩ := h.fB j hj3 ej
      rcases hn with hn | ⟨hn, hn2⟩
      · omega
      · rw [hn]; exact h.bb i j hi3 hj3 hij hn2 ej
    · rw [List.getElem_set_ne (fun e => e1 e.symm)] at ei
      rw [updA_other _ _ _ _ e1]
      by_cases e2 : j = k
      · subst e2
        rw [List.getElem_set_self] at ej
        rw [updA_same]
        obtain ⟨_, _, _, _, _, hn⟩ := nb.resolve_left ej
        obtain ⟨_, h2, _⟩ := h.fB i hi3 ei
        rcases hn with hn | ⟨hn, hn2⟩
        · omega
        · rw [hn]; exact h.bb i j hi3 hj3 hij ei hn2
      · rw [List.getElem_set_ne (fun e => e2 e.symm)] at ej
        rw [updA_other _ _ _ _ e2]
        exact h.bb i j hi3 hj3 hij ei ej
  · have hi3 : i < S.length := by rw [← hlen]; exact hi2
    have hj3 : j < S.length := by rw [← hlen]; exact hj2
    by_cases e1 : i = k
    · subst e1
      rw [List.getElem_set_self] at ei
      rw [List.getElem_set_ne hij] at ej
      rw [updA_same, updA_other _ _ _ _ (fun e => hij e.symm)]
      obtain ⟨_, _, _, _, _, hn⟩ := nd.resolve_left ei
      obtain ⟨_, h2, _⟩ := h.fD j hj3 ej
      rcases hn with hn | ⟨hn, hn2⟩
      · omega
      · rw [hn]; exact h.dd i j hi3 hj3 hij hn2 ej
    · rw [List.getElem_set_ne (fun e => e1 e.symm)] at ei
      rw [updA_other _ _ _ _ e1]
      by_cases e2 : j = k
      · subst e2
        rw [List.getElem_set_self] at ej
        rw [updA_same]
        obtain ⟨_, _, _, _, _, hn⟩ := nd.resolve_left ej
        obtain ⟨_, h2, _⟩ := h.fD i hi3 ei
        rcases hn with hn | ⟨hn, hn2⟩
        · omega
        · rw [hn]; exact h.dd i j hi3 hj3 hij ei hn2
      · rw [List.getElem_set_ne (fun e => e2 e.symm)] at ej
        rw [updA_other _ _ _ _ e2]
        exact h.dd i j hi3 hj3 hij ei ej
  · have hi3 : i < S.length := by rw [← hlen]; exact hi2
    have hj3 : j < S.length := by rw [← hlen]; exact hj2
    by_cases e1 : i = k
    · subst e1
      rw [List.getElem_set_self] at ei
      rw [updA_same]
      obtain ⟨_, _, _, _, _, hn⟩ := nb.resolve_left ei
      by_cases e2 : j = i
      · subst e2
        rw [List.getElem_set_self] at ej
        rw [updA_same]
        exact ne ei ej
      · rw [List.getElem_set_ne (fun e => e2 e.symm)] at ej
        rw [updA_other _ _ _ _ e2]
        obtain ⟨_, h2, _⟩ := h.fD j hj3 ej
        rcases hn with hn | ⟨hn, hn2⟩
        · omega
        · rw [hn]; exact h.bd i j hi3 hj3 hn2 ej
    · rw [List.getElem_set_ne (fun e => e1 e.symm)] at ei
      rw [updA_other _ _ _ _ e1]
      by_cases e2 : j = k
      · subst e2
        rw [List.getElem_set_self] at ej
        rw [updA_same]
        obtain ⟨_, _, _, _, _, hn⟩ := nd.resolve_left ej
        obtain ⟨_, h2, _⟩ := h.fB i hi3 ei
        rcases hn with hn | ⟨hn, hn2⟩
        · omega
        · rw [hn]; exact h.bd i j hi3 hj3 ei hn2
      · rw [List.getElem_set_ne (fun e => e2 e.symm)] at ej
        rw [updA_other _ _ _ _ e2]
        exact h.bd i j hi3 hj3 ei ej
end
/-- layers that are owned in blocks lo .. hi - 1 (or none) -/
def OwnK (lo hi : Nat) (a : Option Addr) (S : List Ly) (w : World) : Prop := S = [] ∨ ∃ R A, a = some ⟨R, 0, none⟩ ∧ LyOwn lo hi R A S w
theorem OwnK.ys {lo hi : Nat} {a : Option Addr} {S : List Ly} {w : World} (h : OwnK lo hi a S w) : Ys w.heap.size a S w := by
  rcases h with rfl | ⟨R, A, rfl, h⟩
  · exact fun h0 => absurd h0 (by simp)
  · exact h.ys
theorem OwnK.on {lo hi : Nat} {a : Option Addr} {S : List Ly} {w w' : World} (h : OwnK lo hi a S w) (g : Below w.heap.size w w') : OwnK lo hi a S w' := by
  rcases h with rfl | ⟨R, A, rfl, h⟩
  · exact Or.inl rfl
  · exact Or.inr ⟨R, A, rfl, h.on g⟩
theorem OwnK.out {lo hi l2 h2 : Nat} {a : Option Addr} {S : List Ly} {w w' : World} (h : OwnK lo hi a S w) (g : Out l2 h2 w w') (hd : hi ≤ l2 ∨ h2 ≤ lo) : OwnK lo hi a S w' := by
  rcases h with rfl | ⟨R, A, rfl, h⟩
  · exact Or.inl rfl
  · exact Or.inr ⟨R, A, rfl, h.out g hd⟩
end Go.Proofs.Ytmbkdollakbigaa
namespace Go.Proofs.Ytmbkdollakbigaa
set_option maxRecDepth 100000
open Go Go.ChangeShapes Go.WideShapes Go.ChangeAt Go.RowKit
/-- three boxes of layers -/
structure T3 (w : World) (X Z Y : Array Value) (wr : World) : Prop where
  below : Below w.heap.size w wr
  x : wr.heap[w.heap.size]? = some (.cells X 72)
  z : wr.heap[w.heap.size + 1]? = some (.cells Z 64)
  y : wr.heap[w.heap.size + 1 + 1]? = some (.cells Y 64)
theorem T3.start (w : World) (X Z Y : Array Value) : T3 w X Z Y (((w.alloc (.cells X 72)).alloc (.cells Z 64)).alloc (.cells Y 64)) := by
  refine ⟨(((Below.refl _ _).alloc (Nat.le_refl _) _).alloc (by simp) _).alloc (by simp; omega) _, ?_, ?_, heap_last3 _ _ _ _⟩
  · rw [Below.heap_alloc _ _ _ (by simp; omega), Below.heap_alloc _ _ _ (by simp)]
    exact heap_last _ _
  · exact heap_mid3 _ _ _ _
theorem T3.size {w : World} {X Z Y : Array Value} {wr : World} (h : T3 w X Z Y wr) : w.heap.size + 3 ≤ wr.heap.size := by
  rcases Nat.lt_or_ge (w.heap.size + 1 + 1) wr.heap.size with h' | h'
  · omega
  · have := h.y
    rw [Array.getElem?_eq_none h'] at this; cases this
theorem T3.on {w : World} {X Z Y : Array Value} {wr w' : World} (h : T3 w X Z Y wr) (g : Below wr.heap.size wr w') : T3 w X Z Y w' := by
  have hs := h.size
  exact ⟨h.below.trans (g.mono (by omega)), (g.block _ (by omega)).trans h.x, (g.block _ (by omega)).trans h.z, (g.block _ (by omega)).trans h.y⟩
theorem T3.setY {w : World} {X Z Y : Array Value} {wr : World} (h : T3 w X Z Y wr) (i : Nat) (u : Value) : T3 w X Z (Y.setIfInBounds i u) (wr.setCell ⟨w.heap.size + 1 + 1, i, none⟩ u) :=
  ⟨setB h.below _ _ (by omega) _, (keepB _ _ _ _ _ (by omega)).trans h.x, (keepB _ _ _ _ _ (by omega)).trans h.z, box_set h.y i u⟩
theorem T3.setZ {w : World} {X Z Y : Array Value} {wr : World} (h : T3 w X Z Y wr) (i : Nat) (u : Value) : T3 w X (Z.setIfInBounds i u) Y (wr.setCell ⟨w.heap.size + 1, i, none⟩ u) :=
  ⟨setB h.below _ _ (by omega) _, (keepB _ _ _ _ _ (by omega)).trans h.x, box_set h.z i u, (keepB _ _ _ _ _ (by omega)).trans h.y⟩
theorem own_setI {lo hi : Nat} {b : Option Addr} {l : List Int} {w : World} (h : OwnI lo hi b l w) (R i : Nat) (v : Value) (hR : R < lo ∨ hi ≤ R) : OwnI lo hi b l (w.setCell ⟨R, i, none⟩ v) := by
  rcases h with h | ⟨F, h1, h3, e, hr⟩
  · exact Or.inl h
  · exact Or.inr ⟨F, h1, h3, e, hr.same (by simp [World.setCell]) (keepB _ _ _ _ _ (by omega))⟩
theorem own_setS {lo hi : Nat} {b : Option Addr} {l : List ByteArray} {w : World} (h : OwnS lo hi b l w) (R i : Nat) (v : Value) (hR : R < lo ∨ hi ≤ R) : OwnS lo hi b l (w.setCell ⟨R, i, none⟩ v) := by
  rcases h with h | ⟨F, h1, h3, e, hr⟩
  · exact Or.inl h
  · exact Or.inr ⟨F, h1, h3, e, hr.same (by simp [World.setCell]) (keepB _ _ _ _ _ (by omega))⟩
theorem own_wideI {lo hi lo' hi' : Nat} {b : Option Addr} {l : List Int} {w : World} (h : OwnI lo hi b l w) (h1 : lo' ≤ lo) (h2 : hi ≤ hi') : OwnI lo' hi' b l w := by
  rcases h with h | ⟨F, h3, h4, e, hr⟩
  · exact Or.inl h
  · exact Or.inr ⟨F, by omega, by omega, e, hr⟩
theorem own_wideS {lo hi lo' hi' : Nat} {b : Option Addr} {l : List ByteArray} {w : World} (h : OwnS lo hi b l w) (h1 : lo' ≤ lo) (h2 : hi ≤ hi') : OwnS lo' hi' b l w := by
  rcases h with h | ⟨F, h3, h4, e, hr⟩
  · exact Or.inl h
  · exact Or.inr ⟨F, by omega, by omega, e, hr⟩
/-- a layer's blocks and data in memory of their own -/
def OwnY (lo hi : Nat) (p q : Option Addr) (bl : List Int) (dt : List ByteArray) (w : World) : Prop := ∃ mid, lo ≤ mid ∧ mid ≤ hi ∧ OwnI lo mid p bl w ∧ OwnS mid hi q dt w
theorem OwnY.set {lo hi : Nat} {p q : Option Addr} {bl : List Int} {dt : List ByteArray} {w : World} (h : OwnY lo hi p q bl dt w) (R i : Nat) (v : Value) (hR : R < lo ∨ hi ≤ R) : OwnY lo hi p q bl dt (w.setCell ⟨R, i, none⟩ v) := by
  obtain ⟨mid, h1, h2, h3, h4⟩ := h
  exact ⟨mid, h1, h2, own_setI h3 R i v (by omega), own_setS h4 R i v (by omega)⟩
theorem OwnY.wide {lo hi lo' hi' : Nat} {p q : Option Addr} {bl : List Int} {dt : List ByteArray} {w : World} (h : OwnY lo hi p q bl dt w) (g1 : lo' ≤ lo) (g2 : hi ≤ hi') : OwnY lo' hi' p q bl dt w := by
  obtain ⟨mid, h1, h2, h3, h4⟩ := h
  exact ⟨mid, by omega, by omega, own_wideI h3 g1 (Nat.le_refl _), own_wideS h4 (Nat.le_refl _) g2⟩
theorem OwnY.below {lo hi : Nat} {p q : Option Addr} {bl : List Int} {dt : List ByteArray} {w w' : World} (h : OwnY lo hi p q bl dt w) (g : Below w.heap.size w w') : OwnY lo hi p q bl dt w' := by
  obtain ⟨mid, h1, h2, h3, h4⟩ := h
  exact ⟨mid, h1, h2, h3.below g, h4.below g⟩
theorem set3 (m : Int) (a b c d : Value) : ((#[.int .i64 0, a, b] : Array Value).setIfInBounds 0 (.int .i64 m)) = #[.int .i64 m, a, b] ∧ ((#[.int .i64 m, a, b] : Array Value).setIfInBounds 1 c) = #[.int .i64 m, c, b] ∧ ((#[.int .i64 m, c, b] : Array Value).setIfInBounds 2 d) = #[.int .i64 m, c, d] := ⟨rfl, rfl, rfl⟩
set_option maxHeartbeats 4000000 in
theorem toLayer_any (p q : Option Addr) (c d : Nat) (m : Int) (bl : List Int) (dt : List ByteArray) (w : World) (h1 : bl.length ≤ 1048576) (h2 : dt.length ≤ 1048576) (hI : Is w.heap.size p bl w) (hS : Ss w.heap.size q dt w) :
    Calls Try.prog 45 #[.agg #[.int .i64 m, .slice p bl.length c, .slice q dt.length d]] w fun e w' => ∃ p' c' q' d', e = .returned (.agg #[.int .i64 m, .slice p' bl.length c', .slice q' dt.length d']) ∧ OwnY w.heap.size w'.heap.size p' q' bl dt w' ∧ Below w.heap.size w w' := by
  have HK := hid (T3.start w #[.int .i64 m, .slice p bl.length c, .slice q dt.length d] #[.int .i64 0, .slice none 0 0, .slice none 0 0] #[.int .i64 0, .slice none 0 0, .slice none 0 0])
  have HC1 : Hid (∀ v, Below w.heap.size w v → Calls Try.prog 61 #[.slice p bl.length c] v fun e w' => ∃ b c, e = .returned (.slice b bl.length c) ∧ OwnI v.heap.size w'.heap.size b bl w' ∧ Below v.heap.size v w') := fun v g => to_ownI p c bl v h1 ((hI.below g).mono g.size)
  have HC2 : Hid (∀ v, Below w.heap.size w v → Calls Try.prog 62 #[.slice q dt.length d] v fun e w' => e = .returned (.slice (some ⟨v.heap.size, 0, none⟩) dt.length dt.length) ∧ SRow v.heap.size dt w' ∧ Below v.heap.size v w') := fun v g => toStringS_any q d dt v h2 ((hS.below g).mono g.size)
  clear hI hS h1 h2
  generalize hW : ((w.alloc (.cells #[.int .i64 m, .slice p bl.length c, .slice q dt.length d] 72)).alloc (.cells #[.int .i64 0, .slice none 0 0, .slice none 0 0] 64)).alloc (.cells #[.int .i64 0, .slice none 0 0, .slice none 0 0] 64) = W at *
  have x0 : W.cell? ⟨w.heap.size, 0, none⟩ = some (.int .i64 m) := box_cell HK.out.x 0
  have y0 : W.cell? ⟨w.heap.size + 1 + 1, 0, none⟩ = some (.int .i64 0) := box_cell HK.out.y 0
  have f0 : W.frozen? ⟨w.heap.size + 1 + 1, 0, none⟩ = false := box_free HK.out.y 0
  have HK1 : Hid (T3 w #[.int .i64 m, .slice p bl.length c, .slice q dt.length d] #[.int .i64 0, .slice none 0 0, .slice none 0 0] #[.int .i64 m, .slice none 0 0, .slice none 0 0] (W.setCell ⟨w.heap.size + 1 + 1, 0, none⟩ (.int .i64 m))) := HK.out.setY 0 (.int .i64 m)
  have x1 : (W.setCell ⟨w.heap.size + 1 + 1, 0, none⟩ (.int .i64 m)).cell? ⟨w.heap.size, 1, none⟩ = some (.slice p bl.length c) := box_cell HK1.out.x 1
  go_enter Try.func45, Try.ntmps45
  go_wp2_with fail
  clear hW HK x0 y0 f0
  generalize W.setCell ⟨w.heap.size + 1 + 1, 0, none⟩ (.int .i64 m) = W1 at *
  refine (HC1.out W1 HK1.out.below).mono ?_
  rintro e w2 ⟨b, cb, rfl, o2, b2⟩
  have hK2 := HK1.out.on b2
  have hs1 := HK1.out.size
  have hs2 := b2.size
  have HO2 := hid o2
  clear b2 o2 HC1 HK1 x1
  have y1 : w2.cell? ⟨w.heap.size + 1 + 1, 1, none⟩ = some (.slice none 0 0) := box_cell hK2.y 1
  have f1 : w2.frozen? ⟨w.heap.size + 1 + 1, 1, none⟩ = false := box_free hK2.y 1
  have HK3 : Hid (T3 w #[.int .i64 m, .slice p bl.length c, .slice q dt.length d] #[.int .i64 0, .slice none 0 0, .slice none 0 0] #[.int .i64 m, .slice b bl.length cb, .slice none 0 0] (w2.setCell ⟨w.heap.size + 1 + 1, 1, none⟩ (.slice b bl.length cb))) := hK2.setY 1 (.slice b bl.length cb)
  have x2 : (w2.setCell ⟨w.heap.size + 1 + 1, 1, none⟩ (.slice b bl.length cb)).cell? ⟨w.heap.size, 2, none⟩ = some (.slice q dt.length d) := box_cell HK3.out.x 2
  have HO3 := hid (own_setI HO2.out (w.heap.size + 1 + 1) 1 (.slice b bl.length cb) (Or.inl (by omega)))
  have hz3 : (w2.setCell ⟨w.heap.size + 1 + 1, 1, none⟩ (.slice b bl.length cb)).heap.size = w2.heap.size := by simp [World.setCell]
  clear hK2 HO2
  go_wp2_with fail
  clear y1 f1
  generalize w2.setCell ⟨w.heap.size + 1 + 1, 1, none⟩ (.slice b bl.length cb) = W3 at *
  refine (HC2.out W3 HK3.out.below).mono ?_
  rintro e w4 ⟨rfl, r4, b4⟩
  have hK4 := HK3.out.on b4
  have HO4 := hid (HO3.out.below b4)
  have HR4 := hid r4
  have hlt4 := r4.lt
  clear b4 r4 HC2 HK3 HO3 x2
  rw [hz3] at HR4 hlt4 ⊢
  have y2 : w4.cell? ⟨w.heap.size + 1 + 1, 2, none⟩ = some (.slice none 0 0) := box_cell hK4.y 2
  have f2 : w4.frozen? ⟨w.heap.size + 1 + 1, 2, none⟩ = false := box_free hK4.y 2
  have y0 : w4.cell? ⟨w.heap.size + 1 + 1, 0, none⟩ = some (.int .i64 m) := box_cell hK4.y 0
  have y1 : w4.cell? ⟨w.heap.size + 1 + 1, 1, none⟩ = some (.slice b bl.length cb) := box_cell hK4.y 1
  have z0 : w4.cell? ⟨w.heap.size + 1, 0, none⟩ = some (.int .i64 0) := box_cell hK4.z 0
  have z1 : w4.cell? ⟨w.heap.size + 1, 1, none⟩ = some (.slice none 0 0) := box_cell hK4.z 1
  have z2 : w4.cell? ⟨w.heap.size + 1, 2, none⟩ = some (.slice none 0 0) := box_cell hK4.z 2
  have g0 : w4.frozen? ⟨w.heap.size + 1, 0, none⟩ = false := box_free hK4.z 0
  have g1 : w4.frozen? ⟨w.heap.size + 1, 1, none⟩ = false := box_free hK4.z 1
  have g2 : w4.frozen? ⟨w.heap.size + 1, 2, none⟩ = false := box_free hK4.z 2
  have hK5 : T3 w #[.int .i64 m, .slice p bl.length c, .slice q dt.length d] #[.int .i64 0, .slice none 0 0, .slice none 0 0] #[.int .i64 m, .slice b bl.length cb, .slice (some ⟨w2.heap.size, 0, none⟩) dt.length dt.length] (w4.setCell ⟨w.heap.size + 1 + 1, 2, none⟩ (.slice (some ⟨w2.heap.size, 0, none⟩) dt.length dt.length)) := hK4.setY 2 _
  have hK6 := ((hK5.setZ 0 (.int .i64 m)).setZ 1 (.slice b bl.length cb)).setZ 2 (.slice (some ⟨w2.heap.size, 0, none⟩) dt.length dt.length)
  have e0 := box_cell hK6.z 0
  have e1 := box_cell hK6.z 1
  have e2 := box_cell hK6.z 2
  have HB6 := hid hK6.below
  have hO6 : OwnY w.heap.size w4.heap.size b (some ⟨w2.heap.size, 0, none⟩) bl dt w4 := ⟨w2.heap.size, by omega, by omega, own_wideI HO4.out (by omega) (by omega), Or.inr ⟨w2.heap.size, Nat.le_refl _, hlt4, rfl, HR4.out⟩⟩
  have hO5 : OwnY (w.heap.size + 3) w4.heap.size b (some ⟨w2.heap.size, 0, none⟩) bl dt w4 := ⟨w2.heap.size, by omega, by omega, own_wideI HO4.out (by omega) (by omega), Or.inr ⟨w2.heap.size, Nat.le_refl _, hlt4, rfl, HR4.out⟩⟩
  have hO7 := (((hO5.set (w.heap.size + 1 + 1) 2 (.slice (some ⟨w2.heap.size, 0, none⟩) dt.length dt.length) (by omega)).set (w.heap.size + 1) 0 (.int .i64 m) (by omega)).set (w.heap.size + 1) 1 (.slice b bl.length cb) (by omega)).set (w.heap.size + 1) 2 (.slice (some ⟨w2.heap.size, 0, none⟩) dt.length dt.length) (by omega)
  have hz7 : ((((w4.setCell ⟨w.heap.size + 1 + 1, 2, none⟩ (.slice (some ⟨w2.heap.size, 0, none⟩) dt.length dt.length)).setCell ⟨w.heap.size + 1, 0, none⟩ (.int .i64 m)).setCell ⟨w.heap.size + 1, 1, none⟩ (.slice b bl.length cb)).setCell ⟨w.heap.size + 1, 2, none⟩ (.slice (some ⟨w2.heap.size, 0, none⟩) dt.length dt.length)).heap.size = w4.heap.size := by simp [World.setCell]
  have HO7 := hid hO7
  have HZ7 := hid hz7
  clear hK4 hK5 hK6 hO5 hO6 hO7 hz7 HR4 HO4
  go_wp2_with fail
  generalize (((w4.setCell ⟨w.heap.size + 1 + 1, 2, none⟩ (.slice (some ⟨w2.heap.size, 0, none⟩) dt.length dt.length)).setCell ⟨w.heap.size + 1, 0, none⟩ (.int .i64 m)).setCell ⟨w.heap.size + 1, 1, none⟩ (.slice b bl.length cb)).setCell ⟨w.heap.size + 1, 2, none⟩ (.slice (some ⟨w2.heap.size, 0, none⟩) dt.length dt.length) = W6 at *
  have e0' : W6.cell? ⟨w.heap.size + 1, 0, none⟩ = some (.int .i64 m) := e0
  have e1' : W6.cell? ⟨w.heap.size + 1, 1, none⟩ = some (.slice b bl.length cb) := e1
  have e2' : W6.cell? ⟨w.heap.size + 1, 2, none⟩ = some (.slice (some ⟨w2.heap.size, 0, none⟩) dt.length dt.length) := e2
  refine bodyPost_ret (v := .agg #[.int .i64 m, .slice b bl.length cb, .slice (some ⟨w2.heap.size, 0, none⟩) dt.length dt.length]) (by simp [results, Try.results45, go_sem, e0', e1', e2']) rfl ?_
  exact ⟨_, _, _, _, rfl, by rw [HZ7.out]; exact HO7.out.wide (by omega) (Nat.le_refl _), HB6.out⟩
/-- a new layer in the place of the k-th -/
theorem LyOwn.lay {lo hi R : Nat} {A : Nat → LA} {S : List Ly} {w w1 : World} (h : LyOwn lo hi R A S w) (g : Below w.heap.size w w1) (k : Nat) (hk : k < S.length) (y : Ly) (p q : Option Addr) (c d : Nat) (ho : OwnY w.heap.size w1.heap.size p q y.bl y.dt w1) :
    ∃ a, LyOwn lo w1.heap.size R (updA A k a) (S.set k y) (((w1.setCell ⟨R, k * 3, none⟩ (.int .i64 y.mark)).setCell ⟨R, k * 3 + 1, none⟩ (.slice p y.bl.length c)).setCell ⟨R, k * 3 + 2, none⟩ (.slice q y.dt.length d)) := by
  obtain ⟨mid, m1, m2, hI, hS⟩ := ho
  have hR : R < w.heap.size := Nat.lt_of_lt_of_le h.r1 h.r2
  have h1 := h.on g
  have hgs := g.size
  have hr2 := h.r2
  have hr0 := h.r0
  obtain ⟨F, hF⟩ : ∃ F, y.bl = [] ∨ (w.heap.size ≤ F ∧ F < mid ∧ p = some ⟨F, 0, none⟩ ∧ IRow F y.bl w1) := by
    rcases hI with h0 | ⟨F, f1, f2, f3, f4⟩
    · exact ⟨0, Or.inl h0⟩
    · exact ⟨F, Or.inr ⟨f1, f2, f3, f4⟩⟩
  obtain ⟨G, hG⟩ : ∃ G, y.dt = [] ∨ (mid ≤ G ∧ G < w1.heap.size ∧ q = some ⟨G, 0, none⟩ ∧ SRow G y.dt w1) := by
    rcases hS with h0 | ⟨F, f1, f2, f3, f4⟩
    · exact ⟨0, Or.inl h0⟩
    · exact ⟨F, Or.inr ⟨f1, f2, f3, f4⟩⟩
  have off : ∀ (a b' : Nat), a ≠ b' → (⟨R, a, none⟩ : Addr) ≠ ⟨R, b', none⟩ := fun a b' hab e => hab (congrArg Addr.off e)
  obtain ⟨c1, c2, c3⟩ := h1.cell k hk
  have hsz : (((w1.setCell ⟨R, k * 3, none⟩ (.int .i64 y.mark)).setCell ⟨R, k * 3 + 1, none⟩ (.slice p y.bl.length c)).setCell ⟨R, k * 3 + 2, none⟩ (.slice q y.dt.length d)).heap.size = w1.heap.size := by simp [World.setCell]
  have hblk : ∀ X, X ≠ R → (((w1.setCell ⟨R, k * 3, none⟩ (.int .i64 y.mark)).setCell ⟨R, k * 3 + 1, none⟩ (.slice p y.bl.length c)).setCell ⟨R, k * 3 + 2, none⟩ (.slice q y.dt.length d)).heap[X]? = w1.heap[X]? := fun X hX => by
    rw [keepB _ _ _ _ _ hX, keepB _ _ _ _ _ hX, keepB _ _ _ _ _ hX]
  refine ⟨⟨p, c, F, q, d, G⟩, h1.put k hk y _ w1.heap.size _ (by omega) (by rw [hsz]; exact Nat.le_refl _) (by rw [hsz]; exact Nat.le_refl _) ?_ ?_ ?_ ?_ ?_ ?_ ?_ ?_ ?_⟩
  · rw [World.cell?_setCell_other _ _ _ _ (off _ _ (by omega)), World.cell?_setCell_other _ _ _ _ (off _ _ (by omega))]
    exact World.cell?_setCell_same _ _ _ c1
  · rw [World.cell?_setCell_other _ _ _ _ (off _ _ (by omega))]
    have c3 : (w1.setCell ⟨R, k * 3, none⟩ (.int .i64 y.mark)).cell? ⟨R, k * 3 + 1, none⟩ = some (.slice (A k).p S[k].bl.length (A k).c) := by
      rw [World.cell?_setCell_other _ _ _ _ (off _ _ (by omega))]; exact c2
    exact World.cell?_setCell_same _ _ _ c3
  · have c4 : ((w1.setCell ⟨R, k * 3, none⟩ (.int .i64 y.mark)).setCell ⟨R, k * 3 + 1, none⟩ (.slice p y.bl.length c)).cell? ⟨R, k * 3 + 2, none⟩ = some (.slice (A k).q S[k].dt.length (A k).d) := by
      rw [World.cell?_setCell_other _ _ _ _ (off _ _ (by omega)), World.cell?_setCell_other _ _ _ _ (off _ _ (by omega))]; exact c3
    exact World.cell?_setCell_same _ _ _ c4
  · intro o ho
    rw [World.cell?_setCell_other _ _ _ _ (off _ _ (by omega)), World.cell?_setCell_other _ _ _ _ (off _ _ (by omega)), World.cell?_setCell_other _ _ _ _ (off _ _ (by omega))]
  · intro o
    rw [World.frozen?_setCell, World.frozen?_setCell, World.frozen?_setCell]
  · intro X _ _ hX _ _
    exact hblk X hX
  · rcases hF with h0 | ⟨f1, f2, f3, f4⟩
    · exact Or.inl h0
    · exact Or.inr ⟨by show lo ≤ F; omega, by show F < _; omega, by show F ≠ R; omega, f3, f4.same (by rw [hsz]; exact Nat.le_refl _) (hblk F (by omega)), Or.inl (by show hi ≤ F; omega)⟩
  · rcases hG with h0 | ⟨f1, f2, f3, f4⟩
    · exact Or.inl h0
    · exact Or.inr ⟨by show lo ≤ G; omega, by show G < _; omega, by show G ≠ R; omega, f3, f4.same (by rw [hsz]; exact Nat.le_refl _) (hblk G (by omega)), Or.inl (by show hi ≤ G; omega)⟩
  · intro e1 e2
    obtain ⟨f1, f2, _⟩ := hF.resolve_left e1
    obtain ⟨g1, g2, _⟩ := hG.resolve_left e2
    show F ≠ G
    omega
theorem infoLy : (Try.prog.info? 64).map (fun i => (i.zero, i.size, i.bytes)) = some (some (.agg #[.int .i64 0, .slice none 0 0, .slice none 0 0]), 3, 56) := by kernel_rfl
theorem make_lys (n : Nat) (hn : n ≤ 1048576) (W : World) : (Instr.makeSlice 29 (.int .i64 (n : Int)) (.int .i64 (n : Int))).run Try.prog W =
    .ok (.slice (some ⟨W.heap.size, 0, none⟩) n n) (W.alloc (.cells (madeCells (Value.agg #[.int .i64 0, .slice none 0 0, .slice none 0 0]).cells (n * 3)) 64)) := by
  obtain ⟨i0, hi, hz0, hz1, hz2⟩ := info_parts infoLy
  have h := run_make (P := Try.prog) W 29 64 i0 _ Try.underlying29 hi hz0 .i64 .i64 (n : Int) (n : Int) (by omega) (by omega) (by rw [hz2]; omega) (by omega)
  rw [hz1] at h
  simpa using h
theorem LyOwn.made (w : World) (n : Nat) : LyOwn w.heap.size (w.heap.size + 1) w.heap.size (fun _ => ⟨none, 0, 0, none, 0, 0⟩) (List.replicate n ⟨0, [], []⟩) (w.alloc (.cells (madeCells (Value.agg #[.int .i64 0, .slice none 0 0, .slice none 0 0]).cells (n * 3)) 64)) := by
  have h := GRow.made w 64 n #[.int .i64 0, .slice none 0 0, .slice none 0 0]
  refine ⟨Nat.le_refl _, by omega, by simp, fun i hi => ?_, fun j hj => ?_, fun i hi => Or.inl (by simp), fun i hi => Or.inl (by simp), fun i j hi hj _ ei _ => absurd (by simp) ei, fun i j hi hj _ ei _ => absurd (by simp) ei, fun i j hi hj ei _ => absurd (by simp) ei⟩
  · have h0 := h.cell i (by simpa using hi) 0 (by decide)
    have h1 := h.cell i (by simpa using hi) 1 (by decide)
    have h2 := h.cell i (by simpa using hi) 2 (by decide)
    rw [List.getElem_replicate] at h0 h1 h2
    rw [List.getElem_replicate]
    exact ⟨h0, h1, h2⟩
  · exact h.free j (by simpa using hj)
theorem set_take {α : Type} (ys l : List α) (k : Nat) (hy : ys.length = l.length) (hk : k < l.length) (h : ys.take k = l.take k) : (ys.set k l[k]).take (k + 1) = l.take (k + 1) := by
  have hky : k < ys.length := by omega
  rw [take_snoc _ k (by simpa using hky), take_snoc l k hk, List.take_set_of_le (Nat.le_refl _), h, List.getElem_set_self]
set_option maxHeartbeats 2000000 in
theorem toLayerS_any (a : Option Addr) (cap : Nat) (S : List Ly) (w : World) (hf : FitK S) (hG : Ys w.heap.size a S w) :
    Calls Try.prog 21 #[.slice a S.length cap] w fun e w' => e = .returned (.slice (some ⟨w.heap.size, 0, none⟩) S.length S.length) ∧ (∃ A, LyOwn w.heap.size w'.heap.size w.heap.size A S w') ∧ Below w.heap.size w w' := by
  have HG := hid hG
  have HF := hid hf
  have hn := hf.len
  clear hG hf
  have hmk := make_lys S.length hn
  have hr0 := LyOwn.made w S.length
  generalize madeCells (Value.agg #[.int .i64 0, .slice none 0 0, .slice none 0 0]).cells (S.length * 3) = M at *
  have HR : Hid (LyOwn w.heap.size (w.alloc (.cells M 64)).heap.size w.heap.size (fun _ => ⟨none, 0, 0, none, 0, 0⟩) (List.replicate S.length ⟨0, [], []⟩) (w.alloc (.cells M 64))) := by
    show LyOwn w.heap.size (w.alloc (.cells M 64)).heap.size w.heap.size (fun _ => ⟨none, 0, 0, none, 0, 0⟩) (List.replicate S.length ⟨0, [], []⟩) (w.alloc (.cells M 64))
    rw [heap_size]
    exact hr0
  clear hr0
  go_enter Try.func21, Try.ntmps21
  go_wp2_with fail
  go_loopw [4] (fun i wr => ∃ (k : Nat) (ys : List Ly), k ≤ S.length ∧ i = .int .i64 k ∧ ys.length = S.length ∧ ys.take k = S.take k ∧ (∃ A, LyOwn w.heap.size wr.heap.size w.heap.size A ys wr) ∧ Below w.heap.size w wr) (fun i _ => S.length - (intOf i).toNat)
  case atStart => exact ⟨0, List.replicate S.length ⟨0, [], []⟩, Nat.zero_le _, rfl, by simp, rfl, ⟨_, HR.out⟩, boxB w _⟩
  case round =>
    clear HR hmk
    obtain ⟨k, ys, hk, rfl, hy, htk, ⟨A, hrow⟩, hbel⟩ := hrel
    have HROW := hid hrow
    have HBEL := hid hbel
    have HTK := hid htk
    by_cases hlt : k < S.length
    · obtain ⟨b, off, rfl, hb, hcl⟩ := HG.out (by omega)
      obtain ⟨p, c, q, d, c0, c1, c2, hI, hS⟩ := hcl k hlt
      have kc : ∀ o, wr.cell? ⟨b, o, none⟩ = w.cell? ⟨b, o, none⟩ := fun o => hbel.cell (p := ⟨b, o, none⟩) hb
      rw [← kc] at c0 c1 c2
      obtain ⟨y0, y1, y2⟩ := hrow.cell k (by omega)
      have f0 := hrow.free (k * 3) (by omega)
      have f1 := hrow.free (k * 3 + 1) (by omega)
      have f2 := hrow.free (k * 3 + 2) (by omega)
      have hszr := hbel.size
      have hltr : w.heap.size < wr.heap.size := hrow.r1
      have hm1 := HF.out.bl k hlt
      have hm2 := HF.out.dt k hlt
      have HST := hid (set_take ys S k hy hlt htk)
      generalize hs : S[k] = s at *
      obtain ⟨m, bl, dt⟩ := s
      simp only at c0 c1 c2 hm1 hm2 hI hS
      have HC := hid (toLayer_any p q c d m bl dt wr hm1 hm2 ((hI.below hbel).mono hszr) ((hS.below hbel).mono hszr))
      clear hcl hrow hbel htk hI hS hs kc
      go_wp2_with fail
      refine HC.out.mono ?_
      rintro e w1 ⟨p', c', q', d', rfl, ho, b1⟩
      have hc1 : ∀ o, w1.cell? ⟨w.heap.size, o, none⟩ = wr.cell? ⟨w.heap.size, o, none⟩ := fun o => b1.cell (p := ⟨w.heap.size, o, none⟩) hltr
      have hf1 : ∀ o, w1.frozen? ⟨w.heap.size, o, none⟩ = wr.frozen? ⟨w.heap.size, o, none⟩ := fun o => b1.frozen (p := ⟨w.heap.size, o, none⟩) hltr
      rw [← hc1] at y0 y1 y2
      rw [← hf1] at f0 f1 f2
      obtain ⟨F, hF⟩ := HROW.out.lay b1 k (by omega) ⟨m, bl, dt⟩ p' q' c' d' ho
      simp only at hF
      have HSET : Hid (LyOwn w.heap.size (((w1.setCell ⟨w.heap.size, k * 3, none⟩ (.int .i64 m)).setCell ⟨w.heap.size, k * 3 + 1, none⟩ (.slice p' bl.length c')).setCell ⟨w.heap.size, k * 3 + 2, none⟩ (.slice q' dt.length d')).heap.size w.heap.size (updA A k F) (ys.set k ⟨m, bl, dt⟩) (((w1.setCell ⟨w.heap.size, k * 3, none⟩ (.int .i64 m)).setCell ⟨w.heap.size, k * 3 + 1, none⟩ (.slice p' bl.length c')).setCell ⟨w.heap.size, k * 3 + 2, none⟩ (.slice q' dt.length d'))) := by
        have e : (((w1.setCell ⟨w.heap.size, k * 3, none⟩ (.int .i64 m)).setCell ⟨w.heap.size, k * 3 + 1, none⟩ (.slice p' bl.length c')).setCell ⟨w.heap.size, k * 3 + 2, none⟩ (.slice q' dt.length d')).heap.size = w1.heap.size := by simp [World.setCell]
        unfold Hid
        rw [e]
        exact hF
      have HB1 : Hid (Below w.heap.size w (((w1.setCell ⟨w.heap.size, k * 3, none⟩ (.int .i64 m)).setCell ⟨w.heap.size, k * 3 + 1, none⟩ (.slice p' bl.length c')).setCell ⟨w.heap.size, k * 3 + 2, none⟩ (.slice q' dt.length d'))) := setB (setB (setB (HBEL.out.trans (b1.mono hszr)) _ _ (Nat.le_refl _) _) _ _ (Nat.le_refl _) _) _ _ (Nat.le_refl _) _
      clear hc1 hf1 b1 hF ho HC c0 c1 c2
      go_wp2_with fail
      go_roundw
      case rel => exact ⟨k + 1, ys.set k ⟨m, bl, dt⟩, by omega, by go_num, by simpa using hy, HST.out, ⟨_, HSET.out⟩, HB1.out⟩
      case measure => simp [intOf]; omega
    · obtain rfl : k = S.length := by omega
      rw [List.take_length, List.take_of_length_le (by omega)] at htk
      subst htk
      clear hrow hbel
      go_wp2_with fail
      go_ret
      exact ⟨rfl, ⟨_, HROW.out⟩, HBEL.out⟩
set_option maxHeartbeats 2000000 in
theorem toMarks_any (a : Option Addr) (cap : Nat) (S : List Ly) (w : World) (hf : FitK S) (hG : Ys w.heap.size a S w) :
    Calls Try.prog 7 #[.agg #[.slice a S.length cap]] w fun e w' => ∃ b c, e = .returned (.agg #[.slice b S.length c]) ∧ OwnK w.heap.size w'.heap.size b S w' ∧ Below w.heap.size w w' ∧ S.length ≤ c := by
  have hb0 : Below w.heap.size w (((w.alloc (.cells #[.slice a S.length cap] 24)).alloc (.cells #[.slice none 0 0] 31)).alloc (.cells #[.slice none 0 0] 31)) := (((Below.refl _ _).alloc (Nat.le_refl _) _).alloc (by simp) _).alloc (by simp; omega) _
  have hx : (((w.alloc (.cells #[.slice a S.length cap] 24)).alloc (.cells #[.slice none 0 0] 31)).alloc (.cells #[.slice none 0 0] 31)).heap[w.heap.size]? = some (.cells #[.slice a S.length cap] 24) := by
    rw [Below.heap_alloc _ _ _ (by simp; omega), Below.heap_alloc _ _ _ (by simp)]
    exact heap_last _ _
  have hz : (((w.alloc (.cells #[.slice a S.length cap] 24)).alloc (.cells #[.slice none 0 0] 31)).alloc (.cells #[.slice none 0 0] 31)).heap[w.heap.size + 1]? = some (.cells #[.slice none 0 0] 31) := heap_mid3 _ _ _ _
  have hy : (((w.alloc (.cells #[.slice a S.length cap] 24)).alloc (.cells #[.slice none 0 0] 31)).alloc (.cells #[.slice none 0 0] 31)).heap[w.heap.size + 1 + 1]? = some (.cells #[.slice none 0 0] 31) := heap_last3 _ _ _ _
  have hsz : (((w.alloc (.cells #[.slice a S.length cap] 24)).alloc (.cells #[.slice none 0 0] 31)).alloc (.cells #[.slice none 0 0] 31)).heap.size = w.heap.size + 3 := by simp
  have HC := hid (toLayerS_any a cap S _ hf ((hG.below hb0).mono hb0.size))
  have HB0 := hid hb0
  have HZ := hid hz
  have HY := hid hy
  have x0 : (((w.alloc (.cells #[.slice a S.length cap] 24)).alloc (.cells #[.slice none 0 0] 31)).alloc (.cells #[.slice none 0 0] 31)).cell? ⟨w.heap.size, 0, none⟩ = some (.slice a S.length cap) := box_cell hx 0
  clear hG hf hb0 hx hz hy
  generalize hW : ((w.alloc (.cells #[.slice a S.length cap] 24)).alloc (.cells #[.slice none 0 0] 31)).alloc (.cells #[.slice none 0 0] 31) = W at *
  rw [hsz] at HC
  go_enter Try.func7, Try.ntmps7
  go_wp2_with fail
  clear hW
  refine HC.out.mono ?_
  rintro e w2 ⟨rfl, ⟨A, o2⟩, b2⟩
  have hb2 : Below W.heap.size W w2 := by rw [hsz]; exact b2
  have hz2 := (hb2.block _ (by omega)).trans HZ.out
  have hy2 := (hb2.block _ (by omega)).trans HY.out
  have hlt2 := o2.r1
  have y0 : w2.cell? ⟨w.heap.size + 1 + 1, 0, none⟩ = some (.slice none 0 0) := box_cell hy2 0
  have f0 : w2.frozen? ⟨w.heap.size + 1 + 1, 0, none⟩ = false := box_free hy2 0
  have z0 : w2.cell? ⟨w.heap.size + 1, 0, none⟩ = some (.slice none 0 0) := box_cell hz2 0
  have g0 : w2.frozen? ⟨w.heap.size + 1, 0, none⟩ = false := box_free hz2 0
  have HB2 : Hid (Below w.heap.size w ((w2.setCell ⟨w.heap.size + 1 + 1, 0, none⟩ (.slice (some ⟨w.heap.size + 3, 0, none⟩) S.length S.length)).setCell ⟨w.heap.size + 1, 0, none⟩ (.slice (some ⟨w.heap.size + 3, 0, none⟩) S.length S.length))) := setB (setB (HB0.out.trans (b2.mono (by omega))) _ _ (by omega) _) _ _ (by omega) _
  have HO2 : Hid (LyOwn (w.heap.size + 3) w2.heap.size (w.heap.size + 3) A S ((w2.setCell ⟨w.heap.size + 1 + 1, 0, none⟩ (.slice (some ⟨w.heap.size + 3, 0, none⟩) S.length S.length)).setCell ⟨w.heap.size + 1, 0, none⟩ (.slice (some ⟨w.heap.size + 3, 0, none⟩) S.length S.length))) := o2.keep (by simp [World.setCell]) (fun X h1 h2 => by rw [keepB _ _ _ _ _ (by omega), keepB _ _ _ _ _ (by omega)])
  have HZ2 : Hid (((w2.setCell ⟨w.heap.size + 1 + 1, 0, none⟩ (.slice (some ⟨w.heap.size + 3, 0, none⟩) S.length S.length)).setCell ⟨w.heap.size + 1, 0, none⟩ (.slice (some ⟨w.heap.size + 3, 0, none⟩) S.length S.length)).heap.size = w2.heap.size) := by
    show ((w2.setCell ⟨w.heap.size + 1 + 1, 0, none⟩ (.slice (some ⟨w.heap.size + 3, 0, none⟩) S.length S.length)).setCell ⟨w.heap.size + 1, 0, none⟩ (.slice (some ⟨w.heap.size + 3, 0, none⟩) S.length S.length)).heap.size = w2.heap.size
    simp [World.setCell]
  have e0 : ((w2.setCell ⟨w.heap.size + 1 + 1, 0, none⟩ (.slice (some ⟨w.heap.size + 3, 0, none⟩) S.length S.length)).setCell ⟨w.heap.size + 1, 0, none⟩ (.slice (some ⟨w.heap.size + 3, 0, none⟩) S.length S.length)).cell? ⟨w.heap.size + 1, 0, none⟩ = some (.slice (some ⟨w.heap.size + 3, 0, none⟩) S.length S.length) := box_cell (box_set ((keepB _ _ _ _ _ (by omega)).trans hz2) 0 _) 0
  clear o2 b2 hb2 hz2 hy2 HC x0 HY HZ
  go_wp2_with fail
  generalize (w2.setCell ⟨w.heap.size + 1 + 1, 0, none⟩ (.slice (some ⟨w.heap.size + 3, 0, none⟩) S.length S.length)).setCell ⟨w.heap.size + 1, 0, none⟩ (.slice (some ⟨w.heap.size + 3, 0, none⟩) S.length S.length) = XX at *
  refine bodyPost_ret (v := .agg #[.slice (some ⟨w.heap.size + 3, 0, none⟩) S.length S.length]) (by simp [results, Try.results7, go_sem, e0]) rfl ?_
  refine ⟨_, _, rfl, Or.inr ⟨_, A, rfl, ?_⟩, HB2.out, Nat.le_refl _⟩
  have h := HO2.out
  rw [HZ2.out]
  exact ⟨by have := h.r0; omega, h.r1, h.r2, h.cell, h.free, fun i hi => (h.ownB i hi).imp id (fun ⟨a1, a2⟩ => ⟨by omega, a2⟩), fun i hi => (h.ownD i hi).imp id (fun ⟨a1, a2⟩ => ⟨by omega, a2⟩), h.bb, h.dd, h.bd⟩
end Go.Proofs.Ytmbkdollakbigaa
namespace Go.Proofs.Ytmbkdollakbigaa
set_option maxRecDepth 100000
open Go Go.ChangeShapes Go.WideShapes Go.ChangeAt Go.RowKit
theorem updA_id {α : Type} (f : Nat → α) (k : Nat) : updA f k (f k) = f := by
  funext i
  unfold updA
  split
  · rename_i h; rw [h]
  · rfl
def kmk (y : Ly) (k : Nat) : Ly := ⟨(k : Int), imarks y.bl.length (k + 1), smarks y.dt.length (k + 1 + y.bl.length)⟩
def kmarks : List Ly → Nat → List Ly
  | [], _ => []
  | y :: l, k => kmk y k :: kmarks l (k + wtY y)
theorem kmarks_len : ∀ (S : List Ly) (k : Nat), (kmarks S k).length = S.length
  | [], _ => rfl
  | y :: l, k => by show (kmarks l _).length + 1 = l.length + 1; rw [kmarks_len l]
theorem kmarks_at : ∀ (S : List Ly) (k i : Nat) (h : i < S.length) (h' : i < (kmarks S k).length), (kmarks S k)[i] = kmk S[i] (k + wtK (S.take i))
  | y :: l, k, 0, _, _ => rfl
  | y :: l, k, i + 1, h, h' => by
    have hl : i < l.length := by simpa using h
    have := kmarks_at l (k + wtY y) i hl (by rw [kmarks_len]; exact hl)
    show (kmarks l (k + wtY y))[i]'_ = kmk l[i] (k + wtK (y :: l.take i))
    rw [this]
    have e : wtK (y :: l.take i) = wtY y + wtK (l.take i) := by unfold wtK; rw [List.map_cons, List.sum_cons]
    rw [e, Nat.add_assoc]
theorem wt_kmarks (S : List Ly) (k : Nat) : wtK (kmarks S k) = wtK S := by
  unfold wtK
  have : (kmarks S k).map wtY = S.map wtY := by
    induction S generalizing k with
    | nil => rfl
    | cons y l ih =>
      show wtY (kmk y k) :: (kmarks l (k + wtY y)).map wtY = wtY y :: l.map wtY
      rw [ih (k + wtY y)]
      have : wtY (kmk y k) = wtY y := by unfold wtY kmk; simp only; rw [imarks_len, smarks_len]
      rw [this]
  rw [this]
section
variable {lo hi R : Nat} {A : Nat → LA} {S : List Ly} {w : World}
theorem LyOwn.markM (h : LyOwn lo hi R A S w) (k : Nat) (hk : k < S.length) (m : Int) : LyOwn lo hi R A (S.set k ⟨m, S[k].bl, S[k].dt⟩) (w.setCell ⟨R, k * 3, none⟩ (.int .i64 m)) ∧ Out lo hi w (w.setCell ⟨R, k * 3, none⟩ (.int .i64 m)) := by
  obtain ⟨c0, c1, c2⟩ := h.cell k hk
  have off : ∀ (a b' : Nat), a ≠ b' → (⟨R, a, none⟩ : Addr) ≠ ⟨R, b', none⟩ := fun a b' hab e => hab (congrArg Addr.off e)
  have hsz : (w.setCell ⟨R, k * 3, none⟩ (.int .i64 m)).heap.size = w.heap.size := by simp [World.setCell]
  have nb : S[k].bl = [] ∨ (lo ≤ (A k).f ∧ (A k).f < hi ∧ (A k).f ≠ R ∧ (A k).p = some ⟨(A k).f, 0, none⟩ ∧ IRow (A k).f S[k].bl (w.setCell ⟨R, k * 3, none⟩ (.int .i64 m)) ∧ (hi ≤ (A k).f ∨ ((A k).f = (A k).f ∧ S[k].bl ≠ []))) := by
    by_cases e : S[k].bl = []
    · exact Or.inl e
    · obtain ⟨a1, a2, a3, a4, a5⟩ := h.fB k hk e
      exact Or.inr ⟨a1, a2, a3, a4, a5.same (by rw [hsz]; exact Nat.le_refl _) (keepB _ _ _ _ _ a3), Or.inr ⟨rfl, e⟩⟩
  have nd : S[k].dt = [] ∨ (lo ≤ (A k).g ∧ (A k).g < hi ∧ (A k).g ≠ R ∧ (A k).q = some ⟨(A k).g, 0, none⟩ ∧ SRow (A k).g S[k].dt (w.setCell ⟨R, k * 3, none⟩ (.int .i64 m)) ∧ (hi ≤ (A k).g ∨ ((A k).g = (A k).g ∧ S[k].dt ≠ []))) := by
    by_cases e : S[k].dt = []
    · exact Or.inl e
    · obtain ⟨a1, a2, a3, a4, a5⟩ := h.fD k hk e
      exact Or.inr ⟨a1, a2, a3, a4, a5.same (by rw [hsz]; exact Nat.le_refl _) (keepB _ _ _ _ _ a3), Or.inr ⟨rfl, e⟩⟩
  refine ⟨?_, Out.ofBut ((But.refl R w).setCell _ _) h.r0 h.r1⟩
  have := h.put k hk ⟨m, S[k].bl, S[k].dt⟩ (A k) hi (w.setCell ⟨R, k * 3, none⟩ (.int .i64 m)) (Nat.le_refl _) (by rw [hsz]; exact h.r2) (by rw [hsz]; exact Nat.le_refl _) (World.cell?_setCell_same _ _ _ c0)
    (by rw [World.cell?_setCell_other _ _ _ _ (off _ _ (by omega))]; exact c1) (by rw [World.cell?_setCell_other _ _ _ _ (off _ _ (by omega))]; exact c2)
    (fun o ho => World.cell?_setCell_other _ _ _ _ (off _ _ (by omega))) (fun o => by rw [World.frozen?_setCell]) (fun X _ _ hX _ _ => keepB _ _ _ _ _ hX) nb nd (fun e1 e2 => h.bd k k hk hk e1 e2)
  rw [updA_id] at this
  exact this
/-- the k-th layer's blocks are marked -/
theorem LyOwn.markB (h : LyOwn lo hi R A S w) (k : Nat) (hk : k < S.length) (l : List Int) (hl : l.length = S[k].bl.length) {w' : World} (hw : (S[k].bl = [] ∧ w' = w) ∨ (S[k].bl ≠ [] ∧ IRow (A k).f l w' ∧ But (A k).f w w')) :
    LyOwn lo hi R A (S.set k ⟨S[k].mark, l, S[k].dt⟩) w' ∧ Out lo hi w w' := by
  rcases hw with ⟨e, rfl⟩ | ⟨e, hr, hb⟩
  · have hl0 : l = [] := List.length_eq_zero_iff.1 (by rw [hl, e]; rfl)
    have : S.set k ⟨S[k].mark, l, S[k].dt⟩ = S := by
      rw [hl0, ← e]
      exact List.set_getElem_self hk
    rw [this]
    exact ⟨h, Out.refl _ _ _⟩
  · obtain ⟨a1, a2, a3, a4, a5⟩ := h.fB k hk e
    obtain ⟨c0, c1, c2⟩ := h.cell k hk
    have hR : R < w.heap.size := Nat.lt_of_lt_of_le h.r1 h.r2
    have kc : ∀ o, w'.cell? ⟨R, o, none⟩ = w.cell? ⟨R, o, none⟩ := fun o => hb.cell R o hR (fun g => a3 g.symm)
    have kf : ∀ o, w'.frozen? ⟨R, o, none⟩ = w.frozen? ⟨R, o, none⟩ := fun o => hb.frozen R o hR (fun g => a3 g.symm)
    have nd : S[k].dt = [] ∨ (lo ≤ (A k).g ∧ (A k).g < hi ∧ (A k).g ≠ R ∧ (A k).q = some ⟨(A k).g, 0, none⟩ ∧ SRow (A k).g S[k].dt w' ∧ (hi ≤ (A k).g ∨ ((A k).g = (A k).g ∧ S[k].dt ≠ []))) := by
      by_cases e2 : S[k].dt = []
      · exact Or.inl e2
      · obtain ⟨b1, b2, b3, b4, b5⟩ := h.fD k hk e2
        exact Or.inr ⟨b1, b2, b3, b4, b5.same hb.size (hb.block _ b5.lt (fun g => h.bd k k hk hk e e2 g.symm)), Or.inr ⟨rfl, e2⟩⟩
    refine ⟨?_, Out.ofBut hb a1 a2⟩
    have := h.put k hk ⟨S[k].mark, l, S[k].dt⟩ (A k) hi w' (Nat.le_refl _) (Nat.le_trans h.r2 hb.size) hb.size (by rw [kc]; exact c0) (by rw [kc]; show _ = some (Value.slice _ l.length _); rw [hl]; exact c1) (by rw [kc]; exact c2)
      (fun o _ => kc o) kf (fun X _ hX2 _ hX3 _ => hb.block X (Nat.lt_of_lt_of_le hX2 h.r2) (hX3 e)) (Or.inr ⟨a1, a2, a3, a4, hr, Or.inr ⟨rfl, e⟩⟩) nd (fun _ e2 => h.bd k k hk hk e e2)
    rw [updA_id] at this
    exact this
theorem LyOwn.markD (h : LyOwn lo hi R A S w) (k : Nat) (hk : k < S.length) (l : List ByteArray) (hl : l.length = S[k].dt.length) {w' : World} (hw : (S[k].dt = [] ∧ w' = w) ∨ (S[k].dt ≠ [] ∧ SRow (A k).g l w' ∧ But (A k).g w w')) :
    LyOwn lo hi R A (S.set k ⟨S[k].mark, S[k].bl, l⟩) w' ∧ Out lo hi w w' := by
  rcases hw with ⟨e, rfl⟩ | ⟨e, hr, hb⟩
  · have hl0 : l = [] := List.length_eq_zero_iff.1 (by rw [hl, e]; rfl)
    have : S.set k ⟨S[k].mark, S[k].bl, l⟩ = S := by
      rw [hl0, ← e]
      exact List.set_getElem_self hk
    rw [this]
    exact ⟨h, Out.refl _ _ _⟩
  · obtain ⟨a1, a2, a3, a4, a5⟩ := h.fD k hk e
    obtain ⟨c0, c1, c2⟩ := h.cell k hk
    have hR : R < w.heap.size := Nat.lt_of_lt_of_le h.r1 h.r2
    have kc : ∀ o, w'.cell? ⟨R, o, none⟩ = w.cell? ⟨R, o, none⟩ := fun o => hb.cell R o hR (fun g => a3 g.symm)
    have kf : ∀ o, w'.frozen? ⟨R, o, none⟩ = w.frozen? ⟨R, o, none⟩ := fun o => hb.frozen R o hR (fun g => a3 g.symm)
    have nb : S[k].bl = [] ∨ (lo ≤ (A k).f ∧ (A k).f < hi ∧ (A k).f ≠ R ∧ (A k).p = some ⟨(A k).f, 0, none⟩ ∧ IRow (A k).f S[k].bl w' ∧ (hi ≤ (A k).f ∨ ((A k).f = (A k).f ∧ S[k].bl ≠ []))) := by
      by_cases e2 : S[k].bl = []
      · exact Or.inl e2
      · obtain ⟨b1, b2, b3, b4, b5⟩ := h.fB k hk e2
        exact Or.inr ⟨b1, b2, b3, b4, b5.same hb.size (hb.block _ b5.lt (fun g => h.bd k k hk hk e2 e g)), Or.inr ⟨rfl, e2⟩⟩
    refine ⟨?_, Out.ofBut hb a1 a2⟩
    have := h.put k hk ⟨S[k].mark, S[k].bl, l⟩ (A k) hi w' (Nat.le_refl _) (Nat.le_trans h.r2 hb.size) hb.size (by rw [kc]; exact c0) (by rw [kc]; exact c1) (by rw [kc]; show _ = some (Value.slice _ l.length _); rw [hl]; exact c2)
      (fun o _ => kc o) kf (fun X _ hX2 _ _ hX3 => hb.block X (Nat.lt_of_lt_of_le hX2 h.r2) (hX3 e)) nb (Or.inr ⟨a1, a2, a3, a4, hr, Or.inr ⟨rfl, e⟩⟩) (fun e2 _ => h.bd k k hk hk e2 e)
    rw [updA_id] at this
    exact this
end
theorem Out.trans2 {lo hi : Nat} {w w1 w2 : World} (h : Out lo hi w w1) (g : Out lo hi w1 w2) : Out lo hi w w2 := ⟨g.os.trans h.os, g.tape.trans h.tape, g.output.trans h.output, Nat.le_trans h.size g.size, fun k hk hb => (g.block k (Nat.lt_of_lt_of_le hk h.size) hb).trans (h.block k hk hb)⟩
theorem markB_any (lo hi R : Nat) (A : Nat → LA) (S : List Ly) (k k0 : Nat) (w : World) (hk : k < S.length) (hn : S[k].bl.length ≤ 1048576) (k1 : 1 ≤ k0) (k2 : k0 ≤ 4611686018427387904) (h : LyOwn lo hi R A S w) :
    Calls Try.prog 12 #[.slice (A k).p S[k].bl.length (A k).c, .int .i64 k0] w fun e w' => e = .returned (.int .i64 (k0 + S[k].bl.length : Nat)) ∧ LyOwn lo hi R A (S.set k ⟨S[k].mark, imarks S[k].bl.length k0, S[k].dt⟩) w' ∧ Out lo hi w w' := by
  by_cases e : S[k].bl = []
  · have hm := markIntS_none (A k).p (A k).c k0 w
    have hz : S[k].bl.length = 0 := by rw [e]; rfl
    rw [hz]
    exact hm.mono fun _ _ ⟨he, hw⟩ => ⟨he, h.markB k hk _ (by rw [imarks_len, hz]) (Or.inl ⟨e, hw⟩)⟩
  · obtain ⟨a1, a2, a3, a4, a5⟩ := h.fB k hk e
    rw [a4]
    exact (markIntS_row (A k).f (A k).c k0 S[k].bl w hn k1 k2 a5).mono fun _ _ ⟨he, hr, hb⟩ => ⟨he, h.markB k hk _ (imarks_len _ _) (Or.inr ⟨e, hr, hb⟩)⟩
theorem markD_any (lo hi R : Nat) (A : Nat → LA) (S : List Ly) (k k0 : Nat) (w : World) (hk : k < S.length) (hn : S[k].dt.length ≤ 1048576) (k1 : 1 ≤ k0) (k2 : k0 ≤ 10000000) (h : LyOwn lo hi R A S w) :
    Calls Try.prog 52 #[.slice (A k).q S[k].dt.length (A k).d, .int .i64 k0] w fun e w' => e = .returned (.int .i64 (k0 + S[k].dt.length : Nat)) ∧ LyOwn lo hi R A (S.set k ⟨S[k].mark, S[k].bl, smarks S[k].dt.length k0⟩) w' ∧ Out lo hi w w' := by
  by_cases e : S[k].dt = []
  · have hm := markStringS_none (A k).q (A k).d k0 w
    have hz : S[k].dt.length = 0 := by rw [e]; rfl
    rw [hz]
    exact hm.mono fun _ _ ⟨he, hw⟩ => ⟨he, h.markD k hk _ (by rw [smarks_len, hz]) (Or.inl ⟨e, hw⟩)⟩
  · obtain ⟨a1, a2, a3, a4, a5⟩ := h.fD k hk e
    rw [a4]
    exact (markStringS_row (A k).g (A k).d k0 S[k].dt w hn k1 k2 a5).mono fun _ _ ⟨he, hr, hb⟩ => ⟨he, h.markD k hk _ (smarks_len _ _) (Or.inr ⟨e, hr, hb⟩)⟩
end Go.Proofs.Ytmbkdollakbigaa
namespace Go.Proofs.Ytmbkdollakbigaa
set_option maxRecDepth 100000
open Go Go.ChangeShapes Go.WideShapes Go.ChangeAt Go.RowKit
theorem markB_set (lo hi R : Nat) (A : Nat → LA) (ys : List Ly) (j k0 : Nat) (m : Int) (bl : List Int) (dt : List ByteArray) (w : World) (hj : j < ys.length) (hn : bl.length ≤ 1048576) (k1 : 1 ≤ k0) (k2 : k0 ≤ 4611686018427387904) (h : LyOwn lo hi R A (ys.set j ⟨m, bl, dt⟩) w) :
    Calls Try.prog 12 #[.slice (A j).p bl.length (A j).c, .int .i64 k0] w fun e w' => e = .returned (.int .i64 (k0 + bl.length : Nat)) ∧ LyOwn lo hi R A (ys.set j ⟨m, imarks bl.length k0, dt⟩) w' ∧ Out lo hi w w' := by
  have := markB_any lo hi R A (ys.set j ⟨m, bl, dt⟩) j k0 w (by simpa using hj) (by simpa using hn) k1 k2 h
  simp only [List.getElem_set_self, List.set_set] at this
  exact this
theorem markD_set (lo hi R : Nat) (A : Nat → LA) (ys : List Ly) (j k0 : Nat) (m : Int) (bl : List Int) (dt : List ByteArray) (w : World) (hj : j < ys.length) (hn : dt.length ≤ 1048576) (k1 : 1 ≤ k0) (k2 : k0 ≤ 10000000) (h : LyOwn lo hi R A (ys.set j ⟨m, bl, dt⟩) w) :
    Calls Try.prog 52 #[.slice (A j).q dt.length (A j).d, .int .i64 k0] w fun e w' => e = .returned (.int .i64 (k0 + dt.length : Nat)) ∧ LyOwn lo hi R A (ys.set j ⟨m, bl, smarks dt.length k0⟩) w' ∧ Out lo hi w w' := by
  have := markD_any lo hi R A (ys.set j ⟨m, bl, dt⟩) j k0 w (by simpa using hj) (by simpa using hn) k1 k2 h
  simp only [List.getElem_set_self, List.set_set] at this
  exact this
theorem LyOwn.at_set {lo hi R : Nat} {A : Nat → LA} {ys : List Ly} {w : World} (j : Nat) (m : Int) (bl : List Int) (dt : List ByteArray) (h : LyOwn lo hi R A (ys.set j ⟨m, bl, dt⟩) w) (hj : j < ys.length) : w.cell? ⟨R, j * 3, none⟩ = some (.int .i64 m) ∧ w.cell? ⟨R, j * 3 + 1, none⟩ = some (.slice (A j).p bl.length (A j).c) ∧ w.cell? ⟨R, j * 3 + 2, none⟩ = some (.slice (A j).q dt.length (A j).d) := by
  have := h.cell j (by simpa using hj)
  simp only [List.getElem_set_self] at this
  exact this
set_option maxHeartbeats 4000000 in
theorem markLayerS_own (lo hi R : Nat) (A : Nat → LA) (cap k0 : Nat) (S : List Ly) (w : World) (hf : FitK S) (k1 : 1 ≤ k0) (k2 : k0 ≤ 5000000) (h : LyOwn lo hi R A S w) :
    Calls Try.prog 31 #[.slice (some ⟨R, 0, none⟩) S.length cap, .int .i64 k0] w fun e w' => e = .returned (.int .i64 (k0 + wtK S : Nat)) ∧ LyOwn lo hi R A (kmarks S k0) w' ∧ Out lo hi w w' := by
  have HF := hid hf
  have H := hid h
  have hn := hf.len
  clear hf h
  go_enter Try.func31, Try.ntmps31
  go_wp2_with fail
  go_loopw [1, 5] (fun t i wr => ∃ (j : Nat) (ys : List Ly), j ≤ S.length ∧ i = .int .i64 j ∧ t = .int .i64 (k0 + wtK (S.take j) : Nat) ∧ ys.length = S.length ∧ (∀ r (h : r < ys.length) (h' : r < (kmarks S k0).length), r < j → ys[r] = (kmarks S k0)[r]) ∧ (∀ r (h : r < ys.length) (h' : r < S.length), j ≤ r → ys[r] = S[r]) ∧ LyOwn lo hi R A ys wr ∧ Out lo hi w wr) (fun _ i _ => S.length - (intOf i).toNat)
  case atStart => exact ⟨0, S, Nat.zero_le _, rfl, rfl, rfl, (fun _ _ _ h => absurd h (Nat.not_lt_zero _)), (fun _ _ _ _ => rfl), H.out, Out.refl _ _ _⟩
  case round =>
    clear H
    obtain ⟨j, ys, hj, rfl, rfl, hy, hlo, hhi, hown, hout⟩ := hrel
    have HLO := hid hlo
    have HHI := hid hhi
    have HOWN := hid hown
    have HOUT := hid hout
    clear hlo hhi hown hout
    by_cases hlt : j < S.length
    · have hjy : j < ys.length := by omega
      have hyj := HHI.out j hjy hlt (Nat.le_refl _)
      have hm1 := HF.out.bl j hlt
      have hm2 := HF.out.dt j hlt
      have hsn := wtK_snoc S j hlt
      have hle := wtK_le S (j + 1)
      have hfit : wtK S ≤ 1048576 := HF.out
      have HKA := hid (fun h' => kmarks_at S k0 j hlt h')
      obtain ⟨c0, c1, c2⟩ := HOWN.out.cell j hjy
      have f0 := HOWN.out.free (j * 3) (by omega)
      obtain ⟨F1, G1⟩ := HOWN.out.markM j hjy ((k0 + wtK (S.take j) : Nat) : Int)
      rw [hyj] at c0 c1 c2 F1
      clear hyj
      generalize hsj : S[j] = y at *
      obtain ⟨m, bl, dt⟩ := y
      simp only at c0 c1 c2 F1 hm1 hm2
      have hwy : wtY ⟨m, bl, dt⟩ = 1 + bl.length + dt.length := rfl
      rw [hwy] at hsn
      have HSN := hid hsn
      generalize hkk : k0 + wtK (S.take j) = kk at *
      have hkb : kk + 1 + bl.length + dt.length ≤ 7000000 := by omega
      have hkl : 1 ≤ kk := by omega
      have HKK := hid hkk
      obtain ⟨x0, x1, x2⟩ := F1.at_set j _ _ _ hjy
      have HC1 := hid (markB_set lo hi R A ys j (kk + 1) kk bl dt _ hjy hm1 (by omega) (by omega) F1)
      have HC2 : Hid (∀ v, LyOwn lo hi R A (ys.set j ⟨(kk : Int), imarks bl.length (kk + 1), dt⟩) v → Calls Try.prog 52 #[.slice (A j).q dt.length (A j).d, .int .i64 (kk + 1 + bl.length : Nat)] v fun e w' => e = .returned (.int .i64 (kk + 1 + bl.length + dt.length : Nat)) ∧ LyOwn lo hi R A (ys.set j ⟨(kk : Int), imarks bl.length (kk + 1), smarks dt.length (kk + 1 + bl.length)⟩) w' ∧ Out lo hi v w') := fun v g => markD_set lo hi R A ys j (kk + 1 + bl.length) kk (imarks bl.length (kk + 1)) dt v hjy hm2 (by omega) (by omega) g
      have HG1 := hid G1
      have HXC : Hid (∀ v, LyOwn lo hi R A (ys.set j ⟨(kk : Int), imarks bl.length (kk + 1), dt⟩) v → v.cell? ⟨R, j * 3 + 2, none⟩ = some (.slice (A j).q dt.length (A j).d)) := fun v g => (g.at_set j _ _ _ hjy).2.2
      generalize hn1 : kk + 1 + bl.length = n1 at *
      have e1 : IntKind.i64.wrap ((kk : Int) + 1) = ((kk + 1 : Nat) : Int) := by rw [IntKind.wrap_i64]; omega
      have HN1 := hid hn1
      clear hsn hkk hle hn1 F1 G1 hfit
      generalize hpp : (A j).p = pp at *
      generalize hcc : (A j).c = cc at *
      generalize hqq : (A j).q = qq at *
      generalize hdd : (A j).d = dd at *
      go_wp2_with fail
      refine HC1.out.mono ?_
      rintro e w2 ⟨rfl, o2, t2⟩
      have y2 := HXC.out w2 o2
      have HO2 := hid o2
      have HT2 := hid (HG1.out.trans2 t2)
      clear o2 t2 HC1 HG1 HXC c0 c1 c2 x0 x1 x2 f0
      go_wp2_with fail
      refine (HC2.out w2 HO2.out).mono ?_
      rintro e w3 ⟨rfl, o3, t3⟩
      have HO3 := hid o3
      have HT3 := hid (HT2.out.trans2 t3)
      clear o3 t3 HC2 y2 HO2 HT2
      go_wp2_with fail
      go_roundw
      case rel =>
        refine ⟨j + 1, ys.set j ⟨(kk : Int), imarks bl.length (kk + 1), smarks dt.length n1⟩, by omega, by go_num, ?_, by simpa using hy, ?_, ?_, HO3.out, HOUT.out.trans2 HT3.out⟩
        · have h1 := HSN.out
          have h2 := HKK.out
          have h3 := HN1.out
          have h4 : ((n1 + dt.length : Nat) : Int) = ((k0 + wtK (S.take (j + 1)) : Nat) : Int) := by omega
          rw [← h4]
          go_num
        · intro r hr h' hrj
          by_cases e : r = j
          · subst e
            rw [List.getElem_set_self, HKA.out h']
            unfold kmk
            simp only [HN1.out]
          · rw [List.getElem_set_ne (fun e2 => e e2.symm)]
            exact HLO.out r (by simpa using hr) h' (by omega)
        · intro r hr h' hrj
          rw [List.getElem_set_ne (by omega)]
          exact HHI.out r (by simpa using hr) h' (by omega)
      case measure => simp [intOf]; omega
    · obtain rfl : j = S.length := by omega
      have HEQ : Hid (ys = kmarks S k0) := List.ext_getElem (by rw [kmarks_len]; exact hy) (fun r h1 h2 => HLO.out r h1 h2 (by omega))
      have HWT := hid (wtK_all S)
      go_wp2_with fail
      go_ret
      rw [HWT.out]
      refine ⟨rfl, ?_, HOUT.out⟩
      rw [← HEQ.out]
      exact HOWN.out
set_option maxHeartbeats 4000000 in
theorem heldLayerS_any (a : Option Addr) (cap k0 : Nat) (S : List Ly) (w : World) (hf : FitK S) (k1 : 1 ≤ k0) (k2 : k0 ≤ 5000000) (h : Ys w.heap.size a (kmarks S k0) w) :
    Calls Try.prog 40 #[.slice a S.length cap, .int .i64 k0] w fun e w' => e = .returned (.int .i64 (k0 + wtK S : Nat)) ∧ Below w.heap.size w w' := by
  have HF := hid hf
  have H := hid h
  have hn := hf.len
  clear hf h
  go_enter Try.func40, Try.ntmps40
  go_wp2_with fail
  go_loopw [1, 5] (fun t i wr => ∃ j : Nat, j ≤ S.length ∧ i = .int .i64 j ∧ t = .int .i64 (k0 + wtK (S.take j) : Nat) ∧ Below w.heap.size w wr) (fun _ i _ => S.length - (intOf i).toNat)
  case atStart => exact ⟨0, Nat.zero_le _, rfl, rfl, Below.refl _ _⟩
  case round =>
    obtain ⟨j, hj, rfl, rfl, hbel⟩ := hrel
    have HBEL := hid hbel
    have hszr := hbel.size
    by_cases hlt : j < S.length
    · have hjm : j < (kmarks S k0).length := by rw [kmarks_len]; exact hlt
      obtain ⟨b, off, rfl, hb, hcl⟩ := H.out (by omega)
      obtain ⟨p, c, q, d, c0, c1, c2, hI, hS⟩ := hcl j hjm
      have kc : ∀ o, wr.cell? ⟨b, o, none⟩ = w.cell? ⟨b, o, none⟩ := fun o => hbel.cell (p := ⟨b, o, none⟩) hb
      rw [← kc] at c0 c1 c2
      rw [kmarks_at S k0 j hlt hjm] at c0 c1 c2 hI hS
      have hm1 := HF.out.bl j hlt
      have hm2 := HF.out.dt j hlt
      have hsn := wtK_snoc S j hlt
      have hle := wtK_le S (j + 1)
      have hfit : wtK S ≤ 1048576 := HF.out
      have hI' := (hI.below hbel).mono hszr
      have hS' := hS
      have hwy : wtY S[j] = 1 + S[j].bl.length + S[j].dt.length := rfl
      rw [hwy] at hsn
      have HSN := hid hsn
      unfold kmk at c0 c1 c2 hI hI' hS hS'
      simp only [imarks_len, smarks_len] at c0 c1 c2 hI hI' hS hS'
      generalize S[j].bl.length = nb at *
      generalize S[j].dt.length = nd at *
      generalize hkk : k0 + wtK (S.take j) = kk at *
      have hkb : kk + 1 + nb + nd ≤ 7000000 := by omega
      have HKK := hid hkk
      have HC1 : Hid (Calls Try.prog 13 #[.slice p nb c, .int .i64 (kk + 1 : Nat)] wr fun e w' => e = .returned (.int .i64 (kk + 1 + nb : Nat)) ∧ Below wr.heap.size wr w') := (heldIntS_row p c (kk + 1) nb wr hm1 (by omega) (by omega) hI').mono fun _ _ h => h
      have HC2 : Hid (∀ v, Below w.heap.size w v → Calls Try.prog 58 #[.slice q nd d, .int .i64 (kk + 1 + nb : Nat)] v fun e w' => e = .returned (.int .i64 (kk + 1 + nb + nd : Nat)) ∧ Below v.heap.size v w') := fun v g => heldStringS_row q d (kk + 1 + nb) nd v hm2 (by omega) (by omega) ((hS.below g).mono g.size)
      have HKC : Hid (∀ v, Below w.heap.size w v → v.cell? ⟨b, off + j * 3 + 2, none⟩ = some (.slice q nd d)) := fun v g => by
        rw [g.cell (p := ⟨b, off + j * 3 + 2, none⟩) hb, ← kc]; exact c2
      have dm : ((kk : Int) == (kk : Int)) = true := beq_self_eq_true _
      generalize hn1 : kk + 1 + nb = n1 at *
      have HN1 := hid hn1
      have dn : decide (((n1 : Nat) : Int) < 0) = false := decide_eq_false (by omega)
      have dn2 : decide (((n1 + nd : Nat) : Int) < 0) = false := decide_eq_false (by omega)
      have e1 : IntKind.i64.wrap ((kk : Int) + 1) = ((kk + 1 : Nat) : Int) := by rw [IntKind.wrap_i64]; omega
      clear hcl kc hI hS hI' hS' hbel hsn hkk hn1 hle hfit hwy
      go_wp2_with fail
      refine HC1.out.mono ?_
      rintro e w2 ⟨rfl, b2⟩
      have HB2 := hid (HBEL.out.trans (b2.mono hszr))
      have y2 := HKC.out w2 HB2.out
      clear b2 HC1 c0 c1 c2 HKC
      go_wp2_with fail
      refine (HC2.out w2 HB2.out).mono ?_
      rintro e w3 ⟨rfl, b3⟩
      have HB3 := hid (HB2.out.trans (b3.mono HB2.out.size))
      clear b3 HC2 y2
      go_wp2_with fail
      go_roundw
      case rel =>
        refine ⟨j + 1, by omega, by go_num, ?_, HB3.out⟩
        have h1 := HSN.out
        have h2 := HKK.out
        have h3 := HN1.out
        have h4 : ((n1 + nd : Nat) : Int) = ((k0 + wtK (S.take (j + 1)) : Nat) : Int) := by omega
        rw [← h4]
        go_num
      case measure => simp [intOf]; omega
    · obtain rfl : j = S.length := by omega
      have HWT := hid (wtK_all S)
      clear hbel
      go_wp2_with fail
      go_ret
      rw [HWT.out]
      exact ⟨rfl, HBEL.out⟩
set_option maxHeartbeats 400000 in
theorem markLayerS_none (a : Option Addr) (cap k0 : Nat) (w : World) : Calls Try.prog 31 #[.slice a 0 cap, .int .i64 k0] w fun e w' => e = .returned (.int .i64 k0) ∧ w' = w := by
  go_enter Try.func31, Try.ntmps31
  go_wp2
  go_loop [1, 5] (fun t i => t = .int .i64 k0 ∧ i = .int .i64 0) (fun _ _ => 0)
  case atStart => exact ⟨rfl, rfl⟩
  case round =>
    obtain ⟨rfl, rfl⟩ := hrel
    go_wp2
    go_ret
    exact ⟨rfl, rfl⟩
theorem markLayerS_any (lo hi : Nat) (a : Option Addr) (cap : Nat) (S : List Ly) (w : World) (hf : FitK S) (h : OwnK lo hi a S w) :
    Calls Try.prog 31 #[.slice a S.length cap, .int .i64 1] w fun e w' => e = .returned (.int .i64 (1 + wtK S : Nat)) ∧ OwnK lo hi a (kmarks S 1) w' ∧ Out lo hi w w' := by
  rcases h with rfl | ⟨R, A, rfl, h⟩
  · exact (markLayerS_none a cap 1 w).mono fun e w' ⟨he, hw⟩ => ⟨he, Or.inl rfl, by subst hw; exact Out.refl _ _ _⟩
  · exact (markLayerS_own lo hi R A cap 1 S w hf (by omega) (by omega) h).mono fun e w' ⟨he, ho, ht⟩ => ⟨he, Or.inr ⟨R, A, rfl, ho⟩, ht⟩
set_option maxHeartbeats 1000000 in
theorem markMarks_any (lo hi : Nat) (a : Option Addr) (cap : Nat) (S : List Ly) (w : World) (hf : FitK S) (h : OwnK lo hi a S w) :
    Calls Try.prog 11 #[.agg #[.slice a S.length cap], .int .i64 1] w fun e w' => e = .returned (.int .i64 (1 + wtK S : Nat)) ∧ OwnK lo hi a (kmarks S 1) w' ∧ Out lo hi w w' := by
  have hb := boxB w (.cells #[.slice a S.length cap] 31)
  have HC := hid (markLayerS_any lo hi a cap S _ hf (h.on hb))
  have x0 : (w.alloc (.cells #[.slice a S.length cap] 31)).cell? ⟨w.heap.size, 0, none⟩ = some (.slice a S.length cap) := box_cell (heap_last _ _) 0
  have HT : Hid (Out lo hi w (w.alloc (.cells #[.slice a S.length cap] 31))) := ⟨hb.os, hb.tape, hb.output, hb.size, fun k hk _ => hb.block k hk⟩
  clear h hf hb
  generalize hW : w.alloc (.cells #[.slice a S.length cap] 31) = W at *
  generalize 1 + wtK S = n at *
  go_enter Try.func11, Try.ntmps11
  go_wp2_with fail
  refine HC.out.mono ?_
  rintro e w2 ⟨rfl, o2, t2⟩
  have HO2 := hid o2
  have HT2 := hid (HT.out.trans2 t2)
  clear o2 t2 hW x0
  go_wp2_with fail
  go_ret
  exact ⟨rfl, HO2.out, HT2.out⟩
set_option maxHeartbeats 1000000 in
theorem heldMarks_any (lo hi : Nat) (a : Option Addr) (cap : Nat) (S : List Ly) (w : World) (hf : FitK S) (h : OwnK lo hi a (kmarks S 1) w) :
    Calls Try.prog 16 #[.agg #[.slice a S.length cap], .int .i64 1] w fun e w' => e = .returned (.int .i64 (1 + wtK S : Nat)) ∧ Below w.heap.size w w' := by
  have hb := boxB w (.cells #[.slice a S.length cap] 31)
  have HC := hid (heldLayerS_any a cap 1 S _ hf (by omega) (by omega) (h.on hb).ys)
  have x0 : (w.alloc (.cells #[.slice a S.length cap] 31)).cell? ⟨w.heap.size, 0, none⟩ = some (.slice a S.length cap) := box_cell (heap_last _ _) 0
  have HB := hid hb
  have dn : decide (((1 + wtK S : Nat) : Int) < 0) = false := decide_eq_false (by omega)
  clear h hf hb
  generalize hW : w.alloc (.cells #[.slice a S.length cap] 31) = W at *
  generalize 1 + wtK S = n at *
  go_enter Try.func16, Try.ntmps16
  go_wp2_with fail
  refine HC.out.mono ?_
  rintro e w2 ⟨rfl, b2⟩
  have HB2 := hid (HB.out.trans (b2.mono HB.out.size))
  clear b2 hW x0
  go_wp2_with fail
  go_ret
  exact ⟨rfl, HB2.out⟩
end Go.Proofs.Ytmbkdollakbigaa
namespace Go.Proofs.Ytmbkdollakbigaa
set_option maxRecDepth 100000
open Go Go.ChangeShapes Go.WideShapes Go.ChangeAt Go.RowKit
def svals (l : List ByteArray) : List Value := l.map fun s => .string s
theorem svals_flat (l : List ByteArray) : (l.map scell).flatten = svals l := by
  unfold svals
  induction l with
  | nil => rfl
  | cons x l ih => rw [List.map_cons, List.flatten_cons, ih]; rfl
def ivals (l : List Int) : List Value := l.map fun n => .int .i64 n
theorem ivals_flat (l : List Int) : (l.map icell).flatten = ivals l := by
  unfold ivals
  induction l with
  | nil => rfl
  | cons x l ih => rw [List.map_cons, List.flatten_cons, ih]; rfl
theorem app_any (t e : TypeId) (i : TypeInfo) (z : Value) (sz bs : Nat) (ht : Try.prog.underlying t = some (.slice e)) (hi : Try.prog.info? e = some i) (hz : i.zero = some z) (hs : i.size = sz) (hb : i.bytes = bs) (hzs : z.cells.size = sz) (h0 : 0 < sz)
    (W : World) (lo : Nat) (v : Value) (n : Nat) (xs : List Value) (hown : W.ownsRow lo e sz v n xs) (X off m c : Nat) (news : List Value) (hl : news.length = m * sz) (hc : ∀ j (h : j < news.length), W.cell? ⟨X, off + j, none⟩ = some news[j]) (h1 : ∀ u ∈ news, u.oneCell' = true)
    (hm : n + m ≤ 10000) (hbs : bs ≤ 64) (hlo : lo ≤ W.heap.size) :
    ∃ v' w', (∀ ty, (Builtin.append_ #[t, t] ty #[v, .slice (some ⟨X, off, none⟩) m c]).run Try.prog W = .ok v' w') ∧ w'.ownsRow lo e sz v' (n + m) (xs ++ news) ∧ W.grownBy w' v.ownBlock ∧ (v'.ownBlock = v.ownBlock ∨ v'.ownBlock = some W.heap.size) := by
  have hbb : (n + m) * bs ≤ 140737488355328 := Nat.le_trans (Nat.mul_le_mul hm hbs) (by decide)
  have hn : ∀ j u, news[j]? = some u → W.cell? ((⟨X, off, none⟩ : Addr).add j) = some u := fun j u hu => by
    obtain ⟨hj, rfl⟩ := List.getElem?_eq_some_iff.1 hu
    have hadd : (⟨X, off, none⟩ : Addr).add j = ⟨X, off + j, none⟩ := by unfold Addr.add; split <;> simp_all
    rw [hadd]
    exact hc j hj
  obtain ⟨v', w', hr, h2, h3, _, h5⟩ := run_append_own_at W lo t t e i z sz bs ht hi hz hs hb hzs h0 v n xs hown ⟨X, off, none⟩ m c news hl hn h1 (by unfold maxLen; omega) hbb hlo
  exact ⟨v', w', fun ty => hr, h2, h3, h5⟩
theorem app_none (t e : TypeId) (i : TypeInfo) (ht : Try.prog.underlying t = some (.slice e)) (hi : Try.prog.info? e = some i) (W : World) (a : Option Addr) (n c c' : Nat) (hn : n ≤ c) (ty : TypeId) :
    (Builtin.append_ #[t, t] ty #[.slice a n c, .slice none 0 c']).run Try.prog W = .ok (.slice a n c) W := by
  cases a <;> simp [Builtin.append_, run_underlying ht, sizeOf, typeInfo, hi, Builtin.lenOf, Builtin.firstCells, loadCells, storeCells, hn]
theorem rw_cap {w : World} {base : Nat} {e : TypeId} {size : Nat} {a : Option Addr} {m n c : Nat} {xs : List Value} (h : w.ownsRow base e size (.slice a m c) n xs) : n ≤ c ∧ m = n := by
  rcases h.2 with ⟨h1, rfl⟩ | ⟨g', cap, cur, h1, _, _, h2, _⟩
  · injection h1 with _ h2 h3; omega
  · injection h1 with _ h3 h4; omega
theorem rw_form {w : World} {base : Nat} {e : TypeId} {size : Nat} {v : Value} {n : Nat} {xs : List Value} (h : w.ownsRow base e size v n xs) : ∃ a c, v = .slice a n c := by
  rcases h.2 with ⟨rfl, rfl⟩ | ⟨g', cap, cur, rfl, _⟩
  · exact ⟨_, _, rfl⟩
  · exact ⟨_, _, rfl⟩
theorem below_of_grown {lo : Nat} {w w' : World} {row : Option Nat} (g : w.grownBy w' row) (hlo : lo ≤ w.heap.size) (hr : ∀ k, row = some k → lo ≤ k) : Below lo w w' :=
  ⟨g.os, g.tape, g.output, g.size, fun k hk => g.block k (by omega) (fun e => by have := hr k e.symm; omega)⟩
/-- a row of one's own stands where its block stands -/
theorem rw_keep {w w' : World} {base : Nat} {e : TypeId} {size : Nat} {v : Value} {n : Nat} {xs : List Value} (h : w.ownsRow base e size v n xs) (hb : ∀ k, v.ownBlock = some k → w'.heap[k]? = w.heap[k]?) : w'.ownsRow base e size v n xs := by
  obtain ⟨hl, h | ⟨g, cap, cur, rfl, h1, hg, h2, h3, h4, h5⟩⟩ := h
  · exact ⟨hl, Or.inl h⟩
  · exact ⟨hl, Or.inr ⟨g, cap, cur, rfl, h1, (hb g rfl).trans hg, h2, h3, h4, h5⟩⟩
theorem rw_below {w w' : World} {base : Nat} {e : TypeId} {size : Nat} {v : Value} {n : Nat} {xs : List Value} (h : w.ownsRow base e size v n xs) (g : Below w.heap.size w w') : w'.ownsRow base e size v n xs :=
  rw_keep h (fun k hk => g.block k (h.lt k hk).2)
theorem rw_mono {w : World} {base base' : Nat} {e : TypeId} {size : Nat} {v : Value} {n : Nat} {xs : List Value} (h : w.ownsRow base e size v n xs) (hb : base' ≤ base) : w.ownsRow base' e size v n xs := by
  obtain ⟨hl, h | ⟨g, cap, cur, rfl, h1, hg, h2, h3, h4, h5⟩⟩ := h
  · exact ⟨hl, Or.inl h⟩
  · exact ⟨hl, Or.inr ⟨g, cap, cur, rfl, by omega, hg, h2, h3, h4, h5⟩⟩
theorem swide (l : List ByteArray) (i : Nat) (hi : i < (l.map scell).length) : (l.map scell)[i].length = 1 := by rw [List.getElem_map]; rfl
theorem own_srow {w : World} {B : Nat} {v : Value} {l : List ByteArray} (h : w.ownsRow B 9 1 v l.length (svals l)) (h0 : 0 < l.length) : ∃ R c, v = .slice (some ⟨R, 0, none⟩) l.length c ∧ B ≤ R ∧ SRow R l w ∧ l.length ≤ c := by
  have hv : v ≠ .slice none 0 0 := by
    intro e
    rcases h.2 with ⟨_, h1⟩ | ⟨g, cap, cur, e2, _⟩
    · omega
    · rw [e] at e2; cases e2
  have h9 := h
  rw [← svals_flat] at h
  obtain ⟨R, cap, e, hR, hrow⟩ := GRow.ofOwns (rows := l.map scell) (swide l) h (by simp) hv
  rw [e] at h9
  exact ⟨R, cap, e, hR, hrow, (rw_cap h9).1⟩
theorem own_strs {w : World} {B : Nat} {v : Value} {l : List ByteArray} (h : w.ownsRow B 9 1 v l.length (svals l)) : ∃ b c, v = .slice b l.length c ∧ OwnS B w.heap.size b l w := by
  by_cases h0 : 0 < l.length
  · obtain ⟨R, c, e, hR, hrow, -⟩ := own_srow h h0
    exact ⟨_, c, e, Or.inr ⟨R, hR, hrow.lt, rfl, hrow⟩⟩
  · obtain rfl : l = [] := List.eq_nil_of_length_eq_zero (by omega)
    obtain ⟨a, c, e⟩ := rw_form h
    exact ⟨a, c, e, Or.inl rfl⟩
/-- texts appended to an own row -/
theorem app_str (W : World) (lo : Nat) (v : Value) (n : Nat) (xs : List Value) (hown : W.ownsRow lo 9 1 v n xs) (a : Option Addr) (c : Nat) (l : List ByteArray) (hI : Ss W.heap.size a l W) (hm : n + l.length ≤ 10000) (hlo : lo ≤ W.heap.size) :
    ∃ v' w', (∀ ty, (Builtin.append_ #[62, 62] ty #[v, .slice a l.length c]).run Try.prog W = .ok v' w') ∧ w'.ownsRow lo 9 1 v' (n + l.length) (xs ++ svals l) ∧ W.grownBy w' v.ownBlock ∧ (v'.ownBlock = v.ownBlock ∨ v'.ownBlock = some W.heap.size) := by
  obtain ⟨i0, hi, hz0, hz1, hz2⟩ := info_parts infoStrV
  by_cases h0 : 0 < l.length
  · obtain ⟨b, off, rfl, hb, hc⟩ := hI.cell h0
    exact app_any 62 9 i0 _ 1 16 Try.underlying62 hi hz0 hz1 hz2 rfl (by decide) W lo v n xs hown b off l.length c (svals l) (by simp [svals]) (fun j hj => by
      have hj' : j < l.length := by simpa [svals] using hj
      rw [hc j hj']; simp [svals]) (fun u hu => by
      obtain ⟨x, _, rfl⟩ := List.mem_map.1 hu
      rfl) hm (by decide) hlo
  · obtain rfl : l = [] := List.eq_nil_of_length_eq_zero (by omega)
    obtain ⟨a', c', rfl⟩ := rw_form hown
    have hcap := (rw_cap hown).1
    cases a with
    | none => exact ⟨_, W, fun ty => app_none 62 9 i0 Try.underlying62 hi W a' n c' c hcap ty, by simpa [svals] using hown, ⟨rfl, rfl, rfl, Nat.le_refl _, fun _ _ _ => rfl⟩, Or.inl rfl⟩
    | some ad =>
      obtain ⟨v', w', hr, h2, h3, _, h5⟩ := run_append_own_at W lo 62 62 9 i0 _ 1 16 Try.underlying62 hi hz0 hz1 hz2 rfl (by decide) _ n xs hown ad 0 c [] rfl (fun j u h => by cases h) (fun u h => by cases h) (by unfold maxLen; simp at hm; omega) (by simp at hm ⊢; omega) hlo
      exact ⟨v', w', fun ty => hr, by simpa [svals] using h2, h3, h5⟩
/-- numbers appended to an own row -/
theorem app_int (W : World) (lo : Nat) (v : Value) (n : Nat) (xs : List Value) (hown : W.ownsRow lo 3 1 v n xs) (a : Option Addr) (c : Nat) (l : List Int) (hI : Is W.heap.size a l W) (hm : n + l.length ≤ 10000) (hlo : lo ≤ W.heap.size) :
    ∃ v' w', (∀ ty, (Builtin.append_ #[26, 26] ty #[v, .slice a l.length c]).run Try.prog W = .ok v' w') ∧ w'.ownsRow lo 3 1 v' (n + l.length) (xs ++ ivals l) ∧ W.grownBy w' v.ownBlock ∧ (v'.ownBlock = v.ownBlock ∨ v'.ownBlock = some W.heap.size) := by
  obtain ⟨i0, hi, hz0, hz1, hz2⟩ := info_parts infoI
  by_cases h0 : 0 < l.length
  · obtain ⟨b, off, rfl, hb, hc⟩ := hI.cell h0
    exact app_any 26 3 i0 _ 1 8 Try.underlying26 hi hz0 hz1 hz2 rfl (by decide) W lo v n xs hown b off l.length c (ivals l) (by simp [ivals]) (fun j hj => by
      have hj' : j < l.length := by simpa [ivals] using hj
      rw [hc j hj']; simp [ivals]) (fun u hu => by
      obtain ⟨x, _, rfl⟩ := List.mem_map.1 hu
      rfl) hm (by decide) hlo
  · obtain rfl : l = [] := List.eq_nil_of_length_eq_zero (by omega)
    obtain ⟨a', c', rfl⟩ := rw_form hown
    have hcap := (rw_cap hown).1
    cases a with
    | none => exact ⟨_, W, fun ty => app_none 26 3 i0 Try.underlying26 hi W a' n c' c hcap ty, by simpa [ivals] using hown, ⟨rfl, rfl, rfl, Nat.le_refl _, fun _ _ _ => rfl⟩, Or.inl rfl⟩
    | some ad =>
      obtain ⟨v', w', hr, h2, h3, _, h5⟩ := run_append_own_at W lo 26 26 3 i0 _ 1 8 Try.underlying26 hi hz0 hz1 hz2 rfl (by decide) _ n xs hown ad 0 c [] rfl (fun j u h => by cases h) (fun u h => by cases h) (by unfold maxLen; simp at hm; omega) (by simp at hm ⊢; omega) hlo
      exact ⟨v', w', fun ty => hr, by simpa [ivals] using h2, h3, h5⟩
theorem iwide (l : List Int) (i : Nat) (hi : i < (l.map icell).length) : (l.map icell)[i].length = 1 := by rw [List.getElem_map]; rfl
theorem own_irow {w : World} {B : Nat} {v : Value} {l : List Int} (h : w.ownsRow B 3 1 v l.length (ivals l)) (h0 : 0 < l.length) : ∃ R c, v = .slice (some ⟨R, 0, none⟩) l.length c ∧ B ≤ R ∧ IRow R l w ∧ l.length ≤ c := by
  have hv : v ≠ .slice none 0 0 := by
    intro e
    rcases h.2 with ⟨_, h1⟩ | ⟨g, cap, cur, e2, _⟩
    · omega
    · rw [e] at e2; cases e2
  have h9 := h
  rw [← ivals_flat] at h
  obtain ⟨R, cap, e, hR, hrow⟩ := GRow.ofOwns (rows := l.map icell) (iwide l) h (by simp) hv
  rw [e] at h9
  exact ⟨R, cap, e, hR, hrow, (rw_cap h9).1⟩
theorem own_ints {w : World} {B : Nat} {v : Value} {l : List Int} (h : w.ownsRow B 3 1 v l.length (ivals l)) : ∃ b c, v = .slice b l.length c ∧ OwnI B w.heap.size b l w := by
  by_cases h0 : 0 < l.length
  · obtain ⟨R, c, e, hR, hrow, -⟩ := own_irow h h0
    exact ⟨_, c, e, Or.inr ⟨R, hR, hrow.lt, rfl, hrow⟩⟩
  · obtain rfl : l = [] := List.eq_nil_of_length_eq_zero (by omega)
    obtain ⟨a, c, e⟩ := rw_form h
    exact ⟨a, c, e, Or.inl rfl⟩
/-- an append whose run is known -/
theorem wpList_append_run {P : Program} {ops : Array Oper} {rest : List Oper} {o : Oper} {a : Act} {w : World} {Q : Exit → Act → World → Prop}
    (hg : o.guard = none) (s x : Operand) (t : TypeId) (hop : o.op = Op.call { callee := Callee.builtin Builtin.append, args := #[s, x], argTypes := #[t, t] })
    (v y : Value) (hs : a.eval s = v) (hx : a.eval x = y) (v' : Value) (w' : World) (hrun : ∀ ty, (Builtin.append_ #[t, t] ty #[v, y]).run P w = .ok v' w') (h : wpList P ops Q rest (a.put o.dst v') w') :
    wpList P ops Q (o :: rest) a w :=
  wpList_plain hg fun _ hK => by
    unfold Oper.wp
    simp [execOp, hop, resolve, invoke, builtin, hs, hx, hrun, Result.andThen]
    exact hK _ _ h
theorem svals_snoc (l : List ByteArray) (s : ByteArray) : svals (l ++ [s]) = svals l ++ [.string s] := by simp [svals]
/-- one layer appended to an own row -/
theorem app_ly (W : World) (lo : Nat) (v : Value) (n : Nat) (xs : List Value) (hown : W.ownsRow lo 64 3 v n xs) (X c : Nat) (m : Int) (p : Option Addr) (k1 c1 : Nat) (q : Option Addr) (k2 c2 : Nat) (hX : W.heap[X]? = some (.cells #[.int .i64 m, .slice p k1 c1, .slice q k2 c2] 64)) (hm : n + 1 ≤ 10000) (hlo : lo ≤ W.heap.size) :
    ∃ v' w', (∀ ty, (Builtin.append_ #[29, 29] ty #[v, .slice (some ⟨X, 0, none⟩) 1 c]).run Try.prog W = .ok v' w') ∧ w'.ownsRow lo 64 3 v' (n + 1) (xs ++ [.int .i64 m, .slice p k1 c1, .slice q k2 c2]) ∧ W.grownBy w' v.ownBlock ∧ (v'.ownBlock = v.ownBlock ∨ v'.ownBlock = some W.heap.size) := by
  obtain ⟨i0, hi, hz0, hz1, hz2⟩ := info_parts infoLy
  exact app_any 29 64 i0 _ 3 56 Try.underlying29 hi hz0 hz1 hz2 rfl (by decide) W lo v n xs hown X 0 1 c [.int .i64 m, .slice p k1 c1, .slice q k2 c2] rfl (fun j hj => by
    rw [Nat.zero_add, box_cell hX]
    have hj' : j < 3 := hj
    rcases (show j = 0 ∨ j = 1 ∨ j = 2 by omega) with rfl | rfl | rfl <;> rfl) (fun u hu => by
    simp only [List.mem_cons, List.not_mem_nil, or_false] at hu
    rcases hu with rfl | rfl | rfl <;> rfl) hm (by decide) hlo
end Go.Proofs.Ytmbkdollakbigaa
namespace Go.Proofs.Ytmbkdollakbigaa
set_option maxRecDepth 100000
open Go Go.ChangeShapes Go.WideShapes Go.ChangeAt Go.RowKit
def kcells (z : Ly × LA) : List Value := [.int .i64 z.1.mark, .slice z.2.p z.1.bl.length z.2.c, .slice z.2.q z.1.dt.length z.2.d]
def kvals (L : List (Ly × LA)) : List Value := (L.map kcells).flatten
theorem kvals_snoc (L : List (Ly × LA)) (z : Ly × LA) : kvals (L ++ [z]) = kvals L ++ kcells z := by simp [kvals]
theorem kwide (L : List (Ly × LA)) (i : Nat) (hi : i < (L.map kcells).length) : (L.map kcells)[i].length = 3 := by rw [List.getElem_map]; rfl
/-- the block of a layer's blocks, of a layer's data -/
structure KG (lo : Nat) (v : Value) (L : List (Ly × LA)) (w : World) : Prop where
  row : w.ownsRow lo 64 3 v L.length (kvals L)
  ownB : ∀ i (h : i < L.length), L[i].1.bl = [] ∨ (lo ≤ L[i].2.f ∧ L[i].2.f < w.heap.size ∧ v.ownBlock ≠ some L[i].2.f ∧ L[i].2.p = some ⟨L[i].2.f, 0, none⟩ ∧ IRow L[i].2.f L[i].1.bl w)
  ownD : ∀ i (h : i < L.length), L[i].1.dt = [] ∨ (lo ≤ L[i].2.g ∧ L[i].2.g < w.heap.size ∧ v.ownBlock ≠ some L[i].2.g ∧ L[i].2.q = some ⟨L[i].2.g, 0, none⟩ ∧ SRow L[i].2.g L[i].1.dt w)
  bb : ∀ i j (h : i < L.length) (g : j < L.length), i ≠ j → L[i].1.bl ≠ [] → L[j].1.bl ≠ [] → L[i].2.f ≠ L[j].2.f
  dd : ∀ i j (h : i < L.length) (g : j < L.length), i ≠ j → L[i].1.dt ≠ [] → L[j].1.dt ≠ [] → L[i].2.g ≠ L[j].2.g
  bd : ∀ i j (h : i < L.length) (g : j < L.length), L[i].1.bl ≠ [] → L[j].1.dt ≠ [] → L[i].2.f ≠ L[j].2.g
theorem KG.nil (lo : Nat) (w : World) : KG lo (.slice none 0 0) [] w :=
  ⟨World.ownsRow_nil _ _ _ _, fun _ h => absurd h (Nat.not_lt_zero _), fun _ h => absurd h (Nat.not_lt_zero _), fun _ _ h => absurd h (Nat.not_lt_zero _), fun _ _ h => absurd h (Nat.not_lt_zero _), fun _ _ h => absurd h (Nat.not_lt_zero _)⟩
theorem KG.keep {lo : Nat} {v : Value} {L : List (Ly × LA)} {w w' : World} (h : KG lo v L w) (hs : w.heap.size ≤ w'.heap.size) (hb : ∀ X, lo ≤ X → X < w.heap.size → w'.heap[X]? = w.heap[X]?) : KG lo v L w' := by
  refine ⟨rw_keep h.row (fun k hk => hb k (h.row.lt k hk).1 (h.row.lt k hk).2), fun i hi => ?_, fun i hi => ?_, h.bb, h.dd, h.bd⟩
  · exact (h.ownB i hi).imp id (fun ⟨a1, a2, a3, a4, a5⟩ => ⟨a1, by omega, a3, a4, a5.same hs (hb _ a1 a2)⟩)
  · exact (h.ownD i hi).imp id (fun ⟨a1, a2, a3, a4, a5⟩ => ⟨a1, by omega, a3, a4, a5.same hs (hb _ a1 a2)⟩)
theorem KG.on {lo : Nat} {v : Value} {L : List (Ly × LA)} {w w' : World} (h : KG lo v L w) (g : Below w.heap.size w w') : KG lo v L w' := h.keep g.size (fun X _ hX => g.block X hX)
theorem KG.set {lo : Nat} {v : Value} {L : List (Ly × LA)} {w : World} (h : KG lo v L w) (X i : Nat) (u : Value) (hX : X < lo) : KG lo v L (w.setCell ⟨X, i, none⟩ u) := h.keep (by simp [World.setCell]) (fun Y hY _ => keepB _ _ _ _ _ (by omega))
theorem KG.low {lo lo' : Nat} {v : Value} {L : List (Ly × LA)} {w : World} (h : KG lo v L w) (hl : lo' ≤ lo) : KG lo' v L w :=
  ⟨rw_mono h.row hl, fun i hi => (h.ownB i hi).imp id (fun ⟨a1, a2⟩ => ⟨by omega, a2⟩), fun i hi => (h.ownD i hi).imp id (fun ⟨a1, a2⟩ => ⟨by omega, a2⟩), h.bb, h.dd, h.bd⟩
theorem KG.own {lo : Nat} {v : Value} {L : List (Ly × LA)} {w : World} (h : KG lo v L w) : ∃ a c, v = .slice a L.length c ∧ OwnK lo w.heap.size a (L.map (·.1)) w ∧ L.length ≤ c := by
  obtain ⟨a, c, rfl⟩ := rw_form h.row
  refine ⟨a, c, rfl, ?_, (rw_cap h.row).1⟩
  by_cases h0 : 0 < L.length
  · obtain ⟨R, cap, e, hR, hrow⟩ := GRow.ofOwns (rows := L.map kcells) (kwide L) h.row (by simp) (fun e => by injection e with e1 e2 e3; omega)
    injection e with e1 e2 e3
    subst e1
    refine Or.inr ⟨R, fun i => (L.getD i (⟨0, [], []⟩, ⟨none, 0, 0, none, 0, 0⟩)).2, rfl, ?_⟩
    have hA : ∀ i (hi : i < L.length), (L.getD i (⟨0, [], []⟩, ⟨none, 0, 0, none, 0, 0⟩)) = L[i] := fun i hi => by rw [List.getD_eq_getElem?_getD, List.getElem?_eq_getElem hi]; rfl
    refine ⟨hR, hrow.lt, Nat.le_refl _, fun i hi => ?_, fun j hj => ?_, fun i hi => ?_, fun i hi => ?_, fun i j hi hj => ?_, fun i j hi hj => ?_, fun i j hi hj => ?_⟩
    · have hi' : i < L.length := by simpa using hi
      have k0 := hrow.cell i (by simpa using hi) 0 (by decide)
      have k1 := hrow.cell i (by simpa using hi) 1 (by decide)
      have k2 := hrow.cell i (by simpa using hi) 2 (by decide)
      rw [List.getElem_map] at k0 k1 k2
      rw [List.getElem_map]
      simp only [hA i hi']
      exact ⟨k0, k1, k2⟩
    · exact hrow.free j (by simpa using hj)
    · have hi' : i < L.length := by simpa using hi
      rw [List.getElem_map]
      simp only [hA i hi']
      exact (h.ownB i hi').imp id (fun ⟨a1, a2, a3, a4, a5⟩ => ⟨a1, a2, fun e => a3 (by rw [e]; rfl), a4, a5⟩)
    · have hi' : i < L.length := by simpa using hi
      rw [List.getElem_map]
      simp only [hA i hi']
      exact (h.ownD i hi').imp id (fun ⟨a1, a2, a3, a4, a5⟩ => ⟨a1, a2, fun e => a3 (by rw [e]; rfl), a4, a5⟩)
    · have hi' : i < L.length := by simpa using hi
      have hj' : j < L.length := by simpa using hj
      rw [List.getElem_map, List.getElem_map]
      simp only [hA i hi', hA j hj']
      exact h.bb i j hi' hj'
    · have hi' : i < L.length := by simpa using hi
      have hj' : j < L.length := by simpa using hj
      rw [List.getElem_map, List.getElem_map]
      simp only [hA i hi', hA j hj']
      exact h.dd i j hi' hj'
    · have hi' : i < L.length := by simpa using hi
      have hj' : j < L.length := by simpa using hj
      rw [List.getElem_map, List.getElem_map]
      simp only [hA i hi', hA j hj']
      exact h.bd i j hi' hj'
  · have : L = [] := List.length_eq_zero_iff.1 (by omega)
    rw [this]
    exact Or.inl rfl
theorem snoc_at {α : Type} (L : List α) (z : α) (i : Nat) (h : i < (L ++ [z]).length) : (∃ h' : i < L.length, (L ++ [z])[i] = L[i]) ∨ (i = L.length ∧ (L ++ [z])[i] = z) := by
  by_cases e : i < L.length
  · exact Or.inl ⟨e, List.getElem_append_left e⟩
  · have : i = L.length := by simp at h; omega
    subst this
    exact Or.inr ⟨rfl, by simp⟩
/-- one more layer behind, its blocks and data new -/
theorem KG.grow {lo : Nat} {v : Value} {L : List (Ly × LA)} {w w1 : World} (h : KG lo v L w) (hlo : lo ≤ w.heap.size) (g : Below w.heap.size w w1) (X cX : Nat) (m : Int) (p q : Option Addr) (bl : List Int) (dt : List ByteArray) (c d : Nat)
    (hX : w1.heap[X]? = some (.cells #[.int .i64 m, .slice p bl.length c, .slice q dt.length d] 64)) (ho : OwnY w.heap.size w1.heap.size p q bl dt w1) (hn : L.length + 1 ≤ 10000) :
    ∃ v' w' a, (∀ ty, (Builtin.append_ #[29, 29] ty #[v, .slice (some ⟨X, 0, none⟩) 1 cX]).run Try.prog w1 = .ok v' w') ∧ KG lo v' (L ++ [(⟨m, bl, dt⟩, a)]) w' ∧ w1.grownBy w' v.ownBlock ∧ Below lo w1 w' := by
  have h1 := h.on g
  have hgs := g.size
  obtain ⟨v', w', r, o, gr, nb⟩ := app_ly w1 lo v L.length (kvals L) h1.row X cX m p bl.length c q dt.length d hX hn (by omega)
  obtain ⟨mid, m1, m2, hI, hS⟩ := ho
  obtain ⟨F, hF⟩ : ∃ F, bl = [] ∨ (w.heap.size ≤ F ∧ F < mid ∧ p = some ⟨F, 0, none⟩ ∧ IRow F bl w1) := by
    rcases hI with h0 | ⟨F, f1, f2, f3, f4⟩
    · exact ⟨0, Or.inl h0⟩
    · exact ⟨F, Or.inr ⟨f1, f2, f3, f4⟩⟩
  obtain ⟨G, hG⟩ : ∃ G, dt = [] ∨ (mid ≤ G ∧ G < w1.heap.size ∧ q = some ⟨G, 0, none⟩ ∧ SRow G dt w1) := by
    rcases hS with h0 | ⟨F, f1, f2, f3, f4⟩
    · exact ⟨0, Or.inl h0⟩
    · exact ⟨F, Or.inr ⟨f1, f2, f3, f4⟩⟩
  have hvb : ∀ Y, v.ownBlock = some Y → Y < w.heap.size := fun Y e => (h.row.lt Y e).2
  have hkb : ∀ Y, Y < w1.heap.size → v.ownBlock ≠ some Y → w'.heap[Y]? = w1.heap[Y]? := fun Y hY hne => gr.block Y hY (fun e => hne e.symm)
  have hnb : ∀ Y, Y < w1.heap.size → v.ownBlock ≠ some Y → v'.ownBlock ≠ some Y := fun Y hY hne e => by
    rcases nb with e2 | e2
    · exact hne (by rw [← e2]; exact e)
    · rw [e2] at e; injection e with e; omega
  have hsz := gr.size
  refine ⟨v', w', ⟨p, c, F, q, d, G⟩, r, ?_, gr, below_of_grown gr (by omega) (fun k hk => (h.row.lt k hk).1)⟩
  have hvF : w.heap.size ≤ F → v.ownBlock ≠ some F := fun h9 e => by have := hvb F e; omega
  have hvG : w.heap.size ≤ G → v.ownBlock ≠ some G := fun h9 e => by have := hvb G e; omega
  refine ⟨by rw [List.length_append, kvals_snoc]; exact o, fun i hi => ?_, fun i hi => ?_, fun i j hi hj hij => ?_, fun i j hi hj hij => ?_, fun i j hi hj => ?_⟩
  · rcases snoc_at L (⟨m, bl, dt⟩, ⟨p, c, F, q, d, G⟩) i hi with ⟨hi', e⟩ | ⟨_, e⟩
    · rw [e]
      exact (h1.ownB i hi').imp id (fun ⟨a1, a2, a3, a4, a5⟩ => ⟨a1, by omega, hnb _ a2 a3, a4, a5.same hsz (hkb _ a2 a3)⟩)
    · rw [e]
      rcases hF with h0 | ⟨f1, f2, f3, f4⟩
      · exact Or.inl h0
      · exact Or.inr ⟨by show lo ≤ F; omega, by show F < _; omega, hnb F (by omega) (hvF f1), f3, f4.same hsz (hkb F (by omega) (hvF f1))⟩
  · rcases snoc_at L (⟨m, bl, dt⟩, ⟨p, c, F, q, d, G⟩) i hi with ⟨hi', e⟩ | ⟨_, e⟩
    · rw [e]
      exact (h1.ownD i hi').imp id (fun ⟨a1, a2, a3, a4, a5⟩ => ⟨a1, by omega, hnb _ a2 a3, a4, a5.same hsz (hkb _ a2 a3)⟩)
    · rw [e]
      rcases hG with h0 | ⟨f1, f2, f3, f4⟩
      · exact Or.inl h0
      · exact Or.inr ⟨by show lo ≤ G; omega, by show G < _; omega, hnb G (by omega) (hvG (by omega)), f3, f4.same hsz (hkb G (by omega) (hvG (by omega)))⟩
  · rcases snoc_at L (⟨m, bl, dt⟩, ⟨p, c, F, q, d, G⟩) i hi with ⟨hi', e⟩ | ⟨ei, e⟩ <;> rcases snoc_at L (⟨m, bl, dt⟩, ⟨p, c, F, q, d, G⟩) j hj with ⟨hj', e'⟩ | ⟨ej, e'⟩ <;> rw [e, e'] <;> intro x1 x2
    · exact h.bb i j hi' hj' hij x1 x2
    · obtain ⟨_, a2, _⟩ := (h.ownB i hi').resolve_left x1
      obtain ⟨f1, _⟩ := hF.resolve_left x2
      show L[i].2.f ≠ F
      omega
    · obtain ⟨_, a2, _⟩ := (h.ownB j hj').resolve_left x2
      obtain ⟨f1, _⟩ := hF.resolve_left x1
      show F ≠ L[j].2.f
      omega
    · omega
  · rcases snoc_at L (⟨m, bl, dt⟩, ⟨p, c, F, q, d, G⟩) i hi with ⟨hi', e⟩ | ⟨ei, e⟩ <;> rcases snoc_at L (⟨m, bl, dt⟩, ⟨p, c, F, q, d, G⟩) j hj with ⟨hj', e'⟩ | ⟨ej, e'⟩ <;> rw [e, e'] <;> intro x1 x2
    · exact h.dd i j hi' hj' hij x1 x2
    · obtain ⟨_, a2, _⟩ := (h.ownD i hi').resolve_left x1
      obtain ⟨f1, _⟩ := hG.resolve_left x2
      show L[i].2.g ≠ G
      omega
    · obtain ⟨_, a2, _⟩ := (h.ownD j hj').resolve_left x2
      obtain ⟨f1, _⟩ := hG.resolve_left x1
      show G ≠ L[j].2.g
      omega
    · omega
  · rcases snoc_at L (⟨m, bl, dt⟩, ⟨p, c, F, q, d, G⟩) i hi with ⟨hi', e⟩ | ⟨ei, e⟩ <;> rcases snoc_at L (⟨m, bl, dt⟩, ⟨p, c, F, q, d, G⟩) j hj with ⟨hj', e'⟩ | ⟨ej, e'⟩ <;> rw [e, e'] <;> intro x1 x2
    · exact h.bd i j hi' hj' x1 x2
    · obtain ⟨_, a2, _⟩ := (h.ownB i hi').resolve_left x1
      obtain ⟨f1, _⟩ := hG.resolve_left x2
      show L[i].2.f ≠ G
      omega
    · obtain ⟨_, a2, _⟩ := (h.ownD j hj').resolve_left x2
      obtain ⟨f1, _⟩ := hF.resolve_left x1
      show F ≠ L[j].2.g
      omega
    · obtain ⟨_, f2, _⟩ := hF.resolve_left x1
      obtain ⟨g1, _⟩ := hG.resolve_left x2
      show F ≠ G
      omega
end Go.Proofs.Ytmbkdollakbigaa
