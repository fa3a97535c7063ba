/- Packets in memory. -/
import Derived.WalkKit
import Derived.Test.YtfkcfachbfbmpaaStrR
import Derived.Test.YtfkcfachbfbmpaaKStr
namespace Go.Proofs.Ytfkcfachbfbmpaa
set_option maxRecDepth 100000
open Go Go.ChangeShapes Go.WideShapes Go.ChangeAt Go.RowKit
/-- a packet -/
structure Pk where
  ms : Int
  tx : ByteArray
def zeroPk : Pk := ⟨0, ⟨#[]⟩⟩
def pcells (f : Pk) : List Value := [.int .i64 f.ms, .string f.tx]
def pval (f : Pk) : Value := .agg #[.int .i64 f.ms, .string f.tx]
/-- a slice of packets in memory below block B -/
def Ps (B : Nat) (a : Option Addr) (l : List Pk) (w : World) : Prop := GSl B 2 a (l.map pcells) w
theorem Ps.cell {B : Nat} {a : Option Addr} {l : List Pk} {w : World} (h : Ps B a l w) (h0 : 0 < l.length) : ∃ b off, a = some ⟨b, off, none⟩ ∧ b < B ∧ ∀ i (hi : i < l.length), w.cell? ⟨b, off + i * 2, none⟩ = some (.int .i64 l[i].ms) ∧
    w.cell? ⟨b, off + i * 2 + 1, none⟩ = some (.string l[i].tx) := by
  obtain ⟨b, off, e, hb, hc⟩ := GSl.cell h (by simpa using h0)
  refine ⟨b, off, e, hb, fun i hi => ?_⟩
  have hi' : i < (l.map pcells).length := by simpa using hi
  have hr : (l.map pcells)[i] = pcells l[i] := List.getElem_map _
  have c0 := hc i hi' 0 (by decide)
  have c1 := hc i hi' 1 (by decide)
  rw [hr] at c0 c1
  exact ⟨c0, c1⟩
theorem Ps.below {B : Nat} {a : Option Addr} {l : List Pk} {w w' : World} (h : Ps B a l w) (g : Below B w w') : Ps B a l w' := GSl.below h g
theorem Ps.mono {B B' : Nat} {a : Option Addr} {l : List Pk} {w : World} (h : Ps B a l w) (hB : B ≤ B') : Ps B' a l w := GSl.mono h hB
/-- a row of packets that a call itself has made -/
def PRow (R : Nat) (l : List Pk) (w : World) : Prop := GRow R 2 (l.map pcells) w
theorem PRow.lt {R : Nat} {l : List Pk} {w : World} (h : PRow R l w) : R < w.heap.size := GRow.lt h
theorem PRow.cell {R : Nat} {l : List Pk} {w : World} (h : PRow R l w) (i : Nat) (hi : i < l.length) : w.cell? ⟨R, i * 2, none⟩ = some (.int .i64 l[i].ms) ∧ w.cell? ⟨R, i * 2 + 1, none⟩ = some (.string l[i].tx) := by
  have hi' : i < (l.map pcells).length := by simpa using hi
  have hr : (l.map pcells)[i] = pcells l[i] := List.getElem_map _
  have c0 := GRow.cell h i hi' 0 (by decide)
  have c1 := GRow.cell h i hi' 1 (by decide)
  rw [hr] at c0 c1
  exact ⟨c0, c1⟩
theorem PRow.free {R : Nat} {l : List Pk} {w : World} (h : PRow R l w) (j : Nat) (hj : j < l.length * 2) : w.frozen? ⟨R, j, none⟩ = false := GRow.free h j (by simpa using hj)
theorem PRow.drew {R : Nat} {l : List Pk} {w : World} (h : PRow R l w) : PRow R l w.drew := GRow.drew h
theorem PRow.below {R : Nat} {l : List Pk} {w w' : World} (h : PRow R l w) (hb : Below w.heap.size w w') : PRow R l w' := GRow.below h hb
theorem PRow.same {R : Nat} {l : List Pk} {w w' : World} (h : PRow R l w) (hs : w.heap.size ≤ w'.heap.size) (hb : w'.heap[R]? = w.heap[R]?) : PRow R l w' := GRow.same h hs hb
theorem PRow.sl {R B : Nat} {l : List Pk} {w : World} (h : PRow R l w) (hB : R < B) : Ps B (some ⟨R, 0, none⟩) l w := GRow.sl h hB
theorem pmap_row (l : List Pk) (k : Nat) (hk : k < l.length) (hk' : k < (l.map pcells).length) (j : Nat) (v : Value) (z : Pk) (hz : (pcells l[k]).set j v = pcells z) :
    (l.map pcells).set k ((l.map pcells)[k].set j v) = (l.set k z).map pcells := by
  have hr : (l.map pcells)[k] = pcells l[k] := List.getElem_map _
  rw [hr, hz, List.map_set]
theorem PRow.setAt {R : Nat} {l : List Pk} {w : World} (h : PRow R l w) (k j : Nat) (hk : k < l.length) (hj : j < 2) (v : Value) (z : Pk) (hz : (pcells l[k]).set j v = pcells z) :
    PRow R (l.set k z) (w.setCell ⟨R, k * 2 + j, none⟩ v) := by
  have hk' : k < (l.map pcells).length := by simpa using hk
  have := GRow.set h k j hk' hj v
  rw [pmap_row l k hk hk' j v z hz] at this
  exact this
theorem PRow.set {R : Nat} {l : List Pk} {w : World} (h : PRow R l w) (k : Nat) (hk : k < l.length) (z : Pk) :
    PRow R (l.set k z) ((w.setCell ⟨R, k * 2, none⟩ (.int .i64 z.ms)).setCell ⟨R, k * 2 + 1, none⟩ (.string z.tx)) := by
  have h1 := h.setAt k 0 hk (by decide) (.int .i64 z.ms) ⟨z.ms, l[k].tx⟩ rfl
  have h2 := h1.setAt k 1 (by simpa using hk) (by decide) (.string z.tx) z (by rw [List.getElem_set_self]; rfl)
  simpa using h2
theorem PRow.setMark {R : Nat} {l : List Pk} {w w1 : World} (h : PRow R l w) (k : Nat) (hk : k < l.length) (z : Pk) (hb : Below (w.setCell ⟨R, k * 2, none⟩ (.int .i64 z.ms)).heap.size (w.setCell ⟨R, k * 2, none⟩ (.int .i64 z.ms)) w1) :
    PRow R (l.set k z) (w1.setCell ⟨R, k * 2 + 1, none⟩ (.string z.tx)) := by
  have h1 := h.setAt k 0 hk (by decide) (.int .i64 z.ms) ⟨z.ms, l[k].tx⟩ rfl
  have h2 := (h1.below hb).setAt k 1 (by simpa using hk) (by decide) (.string z.tx) z (by rw [List.getElem_set_self]; rfl)
  simpa using h2
/-- packets that are owned in blocks lo .. hi - 1 (or none) -/
def OwnP (lo hi : Nat) (a : Option Addr) (l : List Pk) (w : World) : Prop := l = [] ∨ ∃ R, lo ≤ R ∧ R < hi ∧ a = some ⟨R, 0, none⟩ ∧ PRow R l w
theorem OwnP.below {lo hi : Nat} {a : Option Addr} {l : List Pk} {w w' : World} (h : OwnP lo hi a l w) (g : Below w.heap.size w w') : OwnP lo hi a l w' := by
  rcases h with h | ⟨R, h1, h3, e, hr⟩
  · exact Or.inl h
  · exact Or.inr ⟨R, h1, h3, e, hr.below g⟩
theorem OwnP.ps {lo hi : Nat} {a : Option Addr} {l : List Pk} {w : World} (h : OwnP lo hi a l w) : Ps w.heap.size a l w := by
  rcases h with rfl | ⟨R, h1, h3, rfl, hr⟩
  · exact ⟨fun h0 => absurd h0 (by simp)⟩
  · exact hr.sl hr.lt
end Go.Proofs.Ytfkcfachbfbmpaa
