/- Zones in memory. -/
import Derived.WalkKit
import Derived.Test.YteofdaecknlkdaaGRow
namespace Go.Proofs.Yteofdaecknlkdaa
open Go Go.RowKit
structure Zn where
  data : ByteArray
  sure : Int
  full : Bool
def zcells (z : Zn) : List Value := [.string z.data, .int .i64 z.sure, .bool z.full]
def zeroZ : Zn := ⟨⟨#[]⟩, 0, false⟩
/-- a slice of zones in memory below block B -/
def Zs (B : Nat) (a : Option Addr) (zs : List Zn) (w : World) : Prop := GSl B 3 a (zs.map zcells) w
theorem Zs.cell {B : Nat} {a : Option Addr} {zs : List Zn} {w : World} (h : Zs B a zs w) (h0 : 0 < zs.length) : ∃ b off, a = some ⟨b, off, none⟩ ∧ b < B ∧ ∀ i (hi : i < zs.length), w.cell? ⟨b, off + i * 3, none⟩ = some (.string zs[i].data) ∧
    w.cell? ⟨b, off + i * 3 + 1, none⟩ = some (.int .i64 zs[i].sure) ∧ w.cell? ⟨b, off + i * 3 + 2, none⟩ = some (.bool zs[i].full) := by
  obtain ⟨b, off, e, hb, hc⟩ := GSl.cell h (by simpa using h0)
  refine ⟨b, off, e, hb, fun i hi => ?_⟩
  have hi' : i < (zs.map zcells).length := by simpa using hi
  have hr : (zs.map zcells)[i] = zcells zs[i] := List.getElem_map _
  have c0 := hc i hi' 0 (by decide)
  have c1 := hc i hi' 1 (by decide)
  have c2 := hc i hi' 2 (by decide)
  rw [hr] at c0 c1 c2
  exact ⟨c0, c1, c2⟩
theorem Zs.below {B : Nat} {a : Option Addr} {zs : List Zn} {w w' : World} (h : Zs B a zs w) (g : Below B w w') : Zs B a zs w' := GSl.below h g
theorem Zs.mono {B B' : Nat} {a : Option Addr} {zs : List Zn} {w : World} (h : Zs B a zs w) (hB : B ≤ B') : Zs B' a zs w := GSl.mono h hB
/-- a row of zones that a call itself has made -/
def ZRow (R : Nat) (zs : List Zn) (w : World) : Prop := GRow R 3 (zs.map zcells) w
theorem ZRow.lt {R : Nat} {zs : List Zn} {w : World} (h : ZRow R zs w) : R < w.heap.size := GRow.lt h
theorem ZRow.cell {R : Nat} {zs : List Zn} {w : World} (h : ZRow R zs w) (i : Nat) (hi : i < zs.length) : w.cell? ⟨R, i * 3, none⟩ = some (.string zs[i].data) ∧ w.cell? ⟨R, i * 3 + 1, none⟩ = some (.int .i64 zs[i].sure) ∧ w.cell? ⟨R, i * 3 + 2, none⟩ = some (.bool zs[i].full) := by
  have hi' : i < (zs.map zcells).length := by simpa using hi
  have hr : (zs.map zcells)[i] = zcells zs[i] := List.getElem_map _
  have c0 := GRow.cell h i hi' 0 (by decide)
  have c1 := GRow.cell h i hi' 1 (by decide)
  have c2 := GRow.cell h i hi' 2 (by decide)
  rw [hr] at c0 c1 c2
  exact ⟨c0, c1, c2⟩
theorem ZRow.free {R : Nat} {zs : List Zn} {w : World} (h : ZRow R zs w) (j : Nat) (hj : j < zs.length * 3) : w.frozen? ⟨R, j, none⟩ = false := GRow.free h j (by simpa using hj)
theorem ZRow.drew {R : Nat} {zs : List Zn} {w : World} (h : ZRow R zs w) : ZRow R zs w.drew := GRow.drew h
theorem ZRow.below {R : Nat} {zs : List Zn} {w w' : World} (h : ZRow R zs w) (hb : Below w.heap.size w w') : ZRow R zs w' := GRow.below h hb
theorem ZRow.same {R : Nat} {zs : List Zn} {w w' : World} (h : ZRow R zs w) (hs : w.heap.size ≤ w'.heap.size) (hb : w'.heap[R]? = w.heap[R]?) : ZRow R zs w' := GRow.same h hs hb
theorem ZRow.sl {R B : Nat} {zs : List Zn} {w : World} (h : ZRow R zs w) (hB : R < B) : Zs B (some ⟨R, 0, none⟩) zs w := GRow.sl h hB
theorem map_row (zs : List Zn) (k : Nat) (hk : k < zs.length) (hk' : k < (zs.map zcells).length) (j : Nat) (v : Value) (z : Zn) (hz : (zcells zs[k]).set j v = zcells z) :
    (zs.map zcells).set k ((zs.map zcells)[k].set j v) = (zs.set k z).map zcells := by
  have hr : (zs.map zcells)[k] = zcells zs[k] := List.getElem_map _
  rw [hr, hz, List.map_set]
theorem ZRow.setAt {R : Nat} {zs : List Zn} {w : World} (h : ZRow R zs w) (k j : Nat) (hk : k < zs.length) (hj : j < 3) (v : Value) (z : Zn) (hz : (zcells zs[k]).set j v = zcells z) :
    ZRow R (zs.set k z) (w.setCell ⟨R, k * 3 + j, none⟩ v) := by
  have hk' : k < (zs.map zcells).length := by simpa using hk
  have := GRow.set h k j hk' hj v
  rw [map_row zs k hk hk' j v z hz] at this
  exact this
theorem ZRow.setData {R : Nat} {zs : List Zn} {w : World} (h : ZRow R zs w) (k : Nat) (hk : k < zs.length) (d : ByteArray) : ZRow R (zs.set k ⟨d, zs[k].sure, zs[k].full⟩) (w.setCell ⟨R, k * 3, none⟩ (.string d)) :=
  h.setAt k 0 hk (by decide) (.string d) ⟨d, zs[k].sure, zs[k].full⟩ rfl
theorem ZRow.setSure {R : Nat} {zs : List Zn} {w : World} (h : ZRow R zs w) (k : Nat) (hk : k < zs.length) (n : Int) : ZRow R (zs.set k ⟨zs[k].data, n, zs[k].full⟩) (w.setCell ⟨R, k * 3 + 1, none⟩ (.int .i64 n)) :=
  h.setAt k 1 hk (by decide) (.int .i64 n) ⟨zs[k].data, n, zs[k].full⟩ rfl
theorem ZRow.setFull {R : Nat} {zs : List Zn} {w : World} (h : ZRow R zs w) (k : Nat) (hk : k < zs.length) (b : Bool) : ZRow R (zs.set k ⟨zs[k].data, zs[k].sure, b⟩) (w.setCell ⟨R, k * 3 + 2, none⟩ (.bool b)) :=
  h.setAt k 2 hk (by decide) (.bool b) ⟨zs[k].data, zs[k].sure, b⟩ rfl
theorem ZRow.set {R : Nat} {zs : List Zn} {w : World} (h : ZRow R zs w) (k : Nat) (hk : k < zs.length) (z : Zn) :
    ZRow R (zs.set k z) (((w.setCell ⟨R, k * 3, none⟩ (.string z.data)).setCell ⟨R, k * 3 + 1, none⟩ (.int .i64 z.sure)).setCell ⟨R, k * 3 + 2, none⟩ (.bool z.full)) := by
  have h1 := h.setData k hk z.data
  have h2 := h1.setSure k (by simpa using hk) z.sure
  have h3 := h2.setFull k (by simpa using hk) z.full
  simpa using h3
theorem ZRow.made (w : World) (n : Nat) : ZRow w.heap.size (List.replicate n zeroZ) (w.alloc (.cells (madeCells (Value.agg #[.string ⟨#[]⟩, .int .i64 0, .bool false]).cells (n * 3)) 52)) := by
  have := GRow.made w 52 n #[.string ⟨#[]⟩, .int .i64 0, .bool false]
  unfold ZRow
  rw [List.map_replicate]
  exact this
def goodZ (z : Zn) : Bool := decide (z.data.size ≤ 60 ∧ 0 ≤ z.sure ∧ z.sure ≤ z.data.size ∧ (z.data.size = 60 → z.full = true))
def openZ (z : Zn) : Bool := !z.data.toList.isEmpty && !z.full
def goodD (zs : List Zn) : Bool := zs.all goodZ && decide (1 ≤ zs.length ∧ zs.length ≤ 6 ∧ (zs.filter openZ).length ≤ 3)
theorem take_snoc {α : Type} (l : List α) (k : Nat) (h : k < l.length) : l.take (k + 1) = l.take k ++ [l[k]] := List.take_succ_eq_append_getElem h
theorem goodD_bad (zs : List Zn) (k : Nat) (h : k < zs.length) (hb : goodZ zs[k] = false) : goodD zs = false := by
  unfold goodD
  have : zs.all goodZ = false := by
    rw [List.all_eq_false]
    exact ⟨zs[k], List.getElem_mem h, by rw [hb]; decide⟩
  rw [this, Bool.false_and]
theorem all_step (zs : List Zn) (k : Nat) (h : k < zs.length) (ha : (zs.take k).all goodZ = true) (hg : goodZ zs[k] = true) : (zs.take (k + 1)).all goodZ = true := by
  rw [take_snoc zs k h, List.all_append, ha, Bool.true_and, List.all_cons, hg]; rfl
theorem count_step (zs : List Zn) (k : Nat) (h : k < zs.length) : ((zs.take (k + 1)).filter openZ).length = ((zs.take k).filter openZ).length + (if openZ zs[k] = true then 1 else 0) := by
  rw [take_snoc zs k h, List.filter_append, List.length_append, List.filter_cons]
  split <;> rfl
theorem count_le (zs : List Zn) (k : Nat) : ((zs.take k).filter openZ).length ≤ k := by
  have := List.length_filter_le openZ (zs.take k)
  have h2 : (zs.take k).length ≤ k := List.length_take_le _ _
  omega
end Go.Proofs.Yteofdaecknlkdaa
