/- Records in memory. -/
import Derived.WalkKit
import Derived.Test.YtlbhfgcpflhccaaGRow
import Derived.Test.YtlbhfgcpflhccaaRPlain
namespace Go.Proofs.Ytlbhfgcpflhccaa
open Go Go.RowKit G00541
def str (l : List UInt8) : ByteArray := ⟨l.toArray⟩
theorem str_size (l : List UInt8) : (str l).size = l.length := by simp [str, ByteArray.size]
theorem str_back (s : ByteArray) : str s.data.toList = s := by simp [str]
theorem str_list (l : List UInt8) : (str l).data.toList = l := by simp [str]
theorem bytes_size (s : ByteArray) : s.data.toList.length = s.size := Array.length_toList
def rcells (r : Rc) : List Value := [.int .i64 r.kind, .int .i64 r.place, .int .i64 r.long, .string (str r.data)]
def rval (r : Rc) : Value := .agg #[.int .i64 r.kind, .int .i64 r.place, .int .i64 r.long, .string (str r.data)]
/-- a slice of records in memory below block B -/
def Rs (B : Nat) (a : Option Addr) (l : List Rc) (w : World) : Prop := GSl B 4 a (l.map rcells) w
theorem Rs.cell {B : Nat} {a : Option Addr} {l : List Rc} {w : World} (h : Rs B a l w) (h0 : 0 < l.length) : ∃ b off, a = some ⟨b, off, none⟩ ∧ b < B ∧ ∀ i (hi : i < l.length), w.cell? ⟨b, off + i * 4, none⟩ = some (.int .i64 l[i].kind) ∧
    w.cell? ⟨b, off + i * 4 + 1, none⟩ = some (.int .i64 l[i].place) ∧ w.cell? ⟨b, off + i * 4 + 2, none⟩ = some (.int .i64 l[i].long) ∧ w.cell? ⟨b, off + i * 4 + 3, none⟩ = some (.string (str l[i].data)) := by
  obtain ⟨b, off, e, hb, hc⟩ := GSl.cell h (by simpa using h0)
  refine ⟨b, off, e, hb, fun i hi => ?_⟩
  have hi' : i < (l.map rcells).length := by simpa using hi
  have hr : (l.map rcells)[i] = rcells l[i] := List.getElem_map _
  have c0 := hc i hi' 0 (by decide)
  have c1 := hc i hi' 1 (by decide)
  have c2 := hc i hi' 2 (by decide)
  have c3 := hc i hi' 3 (by decide)
  rw [hr] at c0 c1 c2 c3
  exact ⟨c0, c1, c2, c3⟩
theorem Rs.below {B : Nat} {a : Option Addr} {l : List Rc} {w w' : World} (h : Rs B a l w) (g : Below B w w') : Rs B a l w' := GSl.below h g
theorem Rs.mono {B B' : Nat} {a : Option Addr} {l : List Rc} {w : World} (h : Rs B a l w) (hB : B ≤ B') : Rs B' a l w := GSl.mono h hB
/-- a row of records that a call itself has made -/
def RRow (R : Nat) (l : List Rc) (w : World) : Prop := GRow R 4 (l.map rcells) w
theorem RRow.lt {R : Nat} {l : List Rc} {w : World} (h : RRow R l w) : R < w.heap.size := GRow.lt h
theorem RRow.cell {R : Nat} {l : List Rc} {w : World} (h : RRow R l w) (i : Nat) (hi : i < l.length) : w.cell? ⟨R, i * 4, none⟩ = some (.int .i64 l[i].kind) ∧ w.cell? ⟨R, i * 4 + 1, none⟩ = some (.int .i64 l[i].place) ∧ w.cell? ⟨R, i * 4 + 2, none⟩ = some (.int .i64 l[i].long) ∧ w.cell? ⟨R, i * 4 + 3, none⟩ = some (.string (str l[i].data)) := by
  have hi' : i < (l.map rcells).length := by simpa using hi
  have hr : (l.map rcells)[i] = rcells l[i] := List.getElem_map _
  have c0 := GRow.cell h i hi' 0 (by decide)
  have c1 := GRow.cell h i hi' 1 (by decide)
  have c2 := GRow.cell h i hi' 2 (by decide)
  have c3 := GRow.cell h i hi' 3 (by decide)
  rw [hr] at c0 c1 c2 c3
  exact ⟨c0, c1, c2, c3⟩
theorem RRow.free {R : Nat} {l : List Rc} {w : World} (h : RRow R l w) (j : Nat) (hj : j < l.length * 4) : w.frozen? ⟨R, j, none⟩ = false := GRow.free h j (by simpa using hj)
theorem RRow.drew {R : Nat} {l : List Rc} {w : World} (h : RRow R l w) : RRow R l w.drew := GRow.drew h
theorem RRow.below {R : Nat} {l : List Rc} {w w' : World} (h : RRow R l w) (hb : Below w.heap.size w w') : RRow R l w' := GRow.below h hb
theorem RRow.same {R : Nat} {l : List Rc} {w w' : World} (h : RRow R l w) (hs : w.heap.size ≤ w'.heap.size) (hb : w'.heap[R]? = w.heap[R]?) : RRow R l w' := GRow.same h hs hb
theorem RRow.sl {R B : Nat} {l : List Rc} {w : World} (h : RRow R l w) (hB : R < B) : Rs B (some ⟨R, 0, none⟩) l w := GRow.sl h hB
theorem rmap_row (l : List Rc) (k : Nat) (hk : k < l.length) (hk' : k < (l.map rcells).length) (j : Nat) (v : Value) (z : Rc) (hz : (rcells l[k]).set j v = rcells z) :
    (l.map rcells).set k ((l.map rcells)[k].set j v) = (l.set k z).map rcells := by
  have hr : (l.map rcells)[k] = rcells l[k] := List.getElem_map _
  rw [hr, hz, List.map_set]
theorem RRow.setAt {R : Nat} {l : List Rc} {w : World} (h : RRow R l w) (k j : Nat) (hk : k < l.length) (hj : j < 4) (v : Value) (z : Rc) (hz : (rcells l[k]).set j v = rcells z) :
    RRow R (l.set k z) (w.setCell ⟨R, k * 4 + j, none⟩ v) := by
  have hk' : k < (l.map rcells).length := by simpa using hk
  have := GRow.set h k j hk' hj v
  rw [rmap_row l k hk hk' j v z hz] at this
  exact this
theorem RRow.set {R : Nat} {l : List Rc} {w : World} (h : RRow R l w) (k : Nat) (hk : k < l.length) (z : Rc) :
    RRow R (l.set k z) ((((w.setCell ⟨R, k * 4, none⟩ (.int .i64 z.kind)).setCell ⟨R, k * 4 + 1, none⟩ (.int .i64 z.place)).setCell ⟨R, k * 4 + 2, none⟩ (.int .i64 z.long)).setCell ⟨R, k * 4 + 3, none⟩ (.string (str z.data))) := by
  have h1 := h.setAt k 0 hk (by decide) (.int .i64 z.kind) ⟨z.kind, l[k].place, l[k].long, l[k].data⟩ rfl
  have h2 := h1.setAt k 1 (by simpa using hk) (by decide) (.int .i64 z.place) ⟨z.kind, z.place, l[k].long, l[k].data⟩ (by rw [List.getElem_set_self]; rfl)
  have h3 := h2.setAt k 2 (by simpa using hk) (by decide) (.int .i64 z.long) ⟨z.kind, z.place, z.long, l[k].data⟩ (by rw [List.getElem_set_self]; rfl)
  have h4 := h3.setAt k 3 (by simpa using hk) (by decide) (.string (str z.data)) z (by rw [List.getElem_set_self]; rfl)
  simpa using h4
theorem RRow.made (w : World) (n : Nat) : RRow w.heap.size (List.replicate n zeroR) (w.alloc (.cells (madeCells (Value.agg #[.int .i64 0, .int .i64 0, .int .i64 0, .string ⟨#[]⟩]).cells (n * 4)) 37)) := by
  have := GRow.made w 37 n #[.int .i64 0, .int .i64 0, .int .i64 0, .string ⟨#[]⟩]
  unfold RRow
  rw [List.map_replicate]
  exact this
theorem take_snoc {α : Type} (l : List α) (k : Nat) (h : k < l.length) : l.take (k + 1) = l.take k ++ [l[k]] := List.take_succ_eq_append_getElem h
/-- records that are owned in blocks lo .. hi - 1 (or none) -/
def OwnR (lo hi : Nat) (a : Option Addr) (l : List Rc) (w : World) : Prop := l = [] ∨ ∃ R, lo ≤ R ∧ R < hi ∧ a = some ⟨R, 0, none⟩ ∧ RRow R l w
theorem OwnR.below {lo hi : Nat} {a : Option Addr} {l : List Rc} {w w' : World} (h : OwnR lo hi a l w) (g : Below w.heap.size w w') : OwnR lo hi a l w' := by
  rcases h with h | ⟨R, h1, h3, e, hr⟩
  · exact Or.inl h
  · exact Or.inr ⟨R, h1, h3, e, hr.below g⟩
theorem OwnR.rs {lo hi : Nat} {a : Option Addr} {l : List Rc} {w : World} (h : OwnR lo hi a l w) : Rs w.heap.size a l w := by
  rcases h with rfl | ⟨R, h1, h3, rfl, hr⟩
  · exact ⟨fun h0 => absurd h0 (by simp)⟩
  · exact hr.sl hr.lt
end Go.Proofs.Ytlbhfgcpflhccaa
