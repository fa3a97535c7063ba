/- Parts of a delta in memory. -/
import Derived.WalkKit
import Derived.Test.YtfkcfachbfbmpaaStrR
import Derived.Test.YtfkcfachbfbmpaaKStr
namespace Go.Proofs.Ytfkcfachbfbmpaa
set_option maxRecDepth 100000
open Go Go.ChangeShapes Go.WideShapes Go.ChangeAt Go.RowKit
/-- a part -/
structure Pt where
  fr : Int
  lg : Int
  tx : ByteArray
def zeroPt : Pt := ⟨0, 0, ⟨#[]⟩⟩
def tcells (f : Pt) : List Value := [.int .i64 f.fr, .int .i64 f.lg, .string f.tx]
def tval (f : Pt) : Value := .agg #[.int .i64 f.fr, .int .i64 f.lg, .string f.tx]
/-- a slice of parts in memory below block B -/
def Pts (B : Nat) (a : Option Addr) (l : List Pt) (w : World) : Prop := GSl B 3 a (l.map tcells) w
theorem Pts.cell {B : Nat} {a : Option Addr} {l : List Pt} {w : World} (h : Pts B a l w) (h0 : 0 < l.length) : ∃ b off, a = some ⟨b, off, none⟩ ∧ b < B ∧ ∀ i (hi : i < l.length), w.cell? ⟨b, off + i * 3, none⟩ = some (.int .i64 l[i].fr) ∧
    w.cell? ⟨b, off + i * 3 + 1, none⟩ = some (.int .i64 l[i].lg) ∧ w.cell? ⟨b, off + i * 3 + 2, none⟩ = some (.string l[i].tx) := by
  obtain ⟨b, off, e, hb, hc⟩ := GSl.cell h (by simpa using h0)
  refine ⟨b, off, e, hb, fun i hi => ?_⟩
  have hi' : i < (l.map tcells).length := by simpa using hi
  have hr : (l.map tcells)[i] = tcells l[i] := List.getElem_map _
  have c0 := hc i hi' 0 (by decide)
  have c1 := hc i hi' 1 (by decide)
  have c2 := hc i hi' 2 (by decide)
  rw [hr] at c0 c1 c2
  exact ⟨c0, c1, c2⟩
theorem Pts.below {B : Nat} {a : Option Addr} {l : List Pt} {w w' : World} (h : Pts B a l w) (g : Below B w w') : Pts B a l w' := GSl.below h g
theorem Pts.mono {B B' : Nat} {a : Option Addr} {l : List Pt} {w : World} (h : Pts B a l w) (hB : B ≤ B') : Pts B' a l w := GSl.mono h hB
/-- a row of parts that a call itself has made -/
def PtRow (R : Nat) (l : List Pt) (w : World) : Prop := GRow R 3 (l.map tcells) w
theorem PtRow.lt {R : Nat} {l : List Pt} {w : World} (h : PtRow R l w) : R < w.heap.size := GRow.lt h
theorem PtRow.cell {R : Nat} {l : List Pt} {w : World} (h : PtRow R l w) (i : Nat) (hi : i < l.length) : w.cell? ⟨R, i * 3, none⟩ = some (.int .i64 l[i].fr) ∧ w.cell? ⟨R, i * 3 + 1, none⟩ = some (.int .i64 l[i].lg) ∧ w.cell? ⟨R, i * 3 + 2, none⟩ = some (.string l[i].tx) := by
  have hi' : i < (l.map tcells).length := by simpa using hi
  have hr : (l.map tcells)[i] = tcells l[i] := List.getElem_map _
  have c0 := GRow.cell h i hi' 0 (by decide)
  have c1 := GRow.cell h i hi' 1 (by decide)
  have c2 := GRow.cell h i hi' 2 (by decide)
  rw [hr] at c0 c1 c2
  exact ⟨c0, c1, c2⟩
theorem PtRow.free {R : Nat} {l : List Pt} {w : World} (h : PtRow R l w) (j : Nat) (hj : j < l.length * 3) : w.frozen? ⟨R, j, none⟩ = false := GRow.free h j (by simpa using hj)
theorem PtRow.drew {R : Nat} {l : List Pt} {w : World} (h : PtRow R l w) : PtRow R l w.drew := GRow.drew h
theorem PtRow.below {R : Nat} {l : List Pt} {w w' : World} (h : PtRow R l w) (hb : Below w.heap.size w w') : PtRow R l w' := GRow.below h hb
theorem PtRow.same {R : Nat} {l : List Pt} {w w' : World} (h : PtRow R l w) (hs : w.heap.size ≤ w'.heap.size) (hb : w'.heap[R]? = w.heap[R]?) : PtRow R l w' := GRow.same h hs hb
theorem PtRow.sl {R B : Nat} {l : List Pt} {w : World} (h : PtRow R l w) (hB : R < B) : Pts B (some ⟨R, 0, none⟩) l w := GRow.sl h hB
theorem tmap_row (l : List Pt) (k : Nat) (hk : k < l.length) (hk' : k < (l.map tcells).length) (j : Nat) (v : Value) (z : Pt) (hz : (tcells l[k]).set j v = tcells z) :
    (l.map tcells).set k ((l.map tcells)[k].set j v) = (l.set k z).map tcells := by
  have hr : (l.map tcells)[k] = tcells l[k] := List.getElem_map _
  rw [hr, hz, List.map_set]
theorem PtRow.setAt {R : Nat} {l : List Pt} {w : World} (h : PtRow R l w) (k j : Nat) (hk : k < l.length) (hj : j < 3) (v : Value) (z : Pt) (hz : (tcells l[k]).set j v = tcells z) :
    PtRow R (l.set k z) (w.setCell ⟨R, k * 3 + j, none⟩ v) := by
  have hk' : k < (l.map tcells).length := by simpa using hk
  have := GRow.set h k j hk' hj v
  rw [tmap_row l k hk hk' j v z hz] at this
  exact this
theorem PtRow.set {R : Nat} {l : List Pt} {w : World} (h : PtRow R l w) (k : Nat) (hk : k < l.length) (z : Pt) :
    PtRow R (l.set k z) (((w.setCell ⟨R, k * 3, none⟩ (.int .i64 z.fr)).setCell ⟨R, k * 3 + 1, none⟩ (.int .i64 z.lg)).setCell ⟨R, k * 3 + 2, none⟩ (.string z.tx)) := by
  have h1 := h.setAt k 0 hk (by decide) (.int .i64 z.fr) ⟨z.fr, l[k].lg, l[k].tx⟩ rfl
  have h2 := h1.setAt k 1 (by simpa using hk) (by decide) (.int .i64 z.lg) ⟨z.fr, z.lg, l[k].tx⟩ (by rw [List.getElem_set_self]; rfl)
  have h3 := h2.setAt k 2 (by simpa using hk) (by decide) (.string z.tx) z (by rw [List.getElem_set_self]; rfl)
  simpa using h3
theorem PtRow.setMark {R : Nat} {l : List Pt} {w w1 : World} (h : PtRow R l w) (k : Nat) (hk : k < l.length) (z : Pt) (hb : Below ((w.setCell ⟨R, k * 3, none⟩ (.int .i64 z.fr)).setCell ⟨R, k * 3 + 1, none⟩ (.int .i64 z.lg)).heap.size ((w.setCell ⟨R, k * 3, none⟩ (.int .i64 z.fr)).setCell ⟨R, k * 3 + 1, none⟩ (.int .i64 z.lg)) w1) :
    PtRow R (l.set k z) (w1.setCell ⟨R, k * 3 + 2, none⟩ (.string z.tx)) := by
  have h1 := h.setAt k 0 hk (by decide) (.int .i64 z.fr) ⟨z.fr, l[k].lg, l[k].tx⟩ rfl
  have h2 := h1.setAt k 1 (by simpa using hk) (by decide) (.int .i64 z.lg) ⟨z.fr, z.lg, l[k].tx⟩ (by rw [List.getElem_set_self]; rfl)
  have h2' := h2.below hb
  have h3 := h2'.setAt k 2 (by simpa using hk) (by decide) (.string z.tx) z (by rw [List.getElem_set_self]; rfl)
  simpa using h3
theorem PtRow.made (w : World) (n : Nat) : PtRow w.heap.size (List.replicate n zeroPt) (w.alloc (.cells (madeCells (Value.agg #[.int .i64 0, .int .i64 0, .string ⟨#[]⟩]).cells (n * 3)) 63)) := by
  have := GRow.made w 63 n #[.int .i64 0, .int .i64 0, .string ⟨#[]⟩]
  unfold PtRow
  rw [List.map_replicate]
  exact this
/-- parts that are owned in blocks lo .. hi - 1 (or none) -/
def OwnT (lo hi : Nat) (a : Option Addr) (l : List Pt) (w : World) : Prop := l = [] ∨ ∃ R, lo ≤ R ∧ R < hi ∧ a = some ⟨R, 0, none⟩ ∧ PtRow R l w
theorem OwnT.below {lo hi : Nat} {a : Option Addr} {l : List Pt} {w w' : World} (h : OwnT lo hi a l w) (g : Below w.heap.size w w') : OwnT lo hi a l w' := by
  rcases h with h | ⟨R, h1, h3, e, hr⟩
  · exact Or.inl h
  · exact Or.inr ⟨R, h1, h3, e, hr.below g⟩
theorem OwnT.ts {lo hi : Nat} {a : Option Addr} {l : List Pt} {w : World} (h : OwnT lo hi a l w) : Pts w.heap.size a l w := by
  rcases h with rfl | ⟨R, h1, h3, rfl, hr⟩
  · exact ⟨fun h0 => absurd h0 (by simp)⟩
  · exact hr.sl hr.lt
theorem infoPt : (Try.prog.info? 63).map (fun i => (i.zero, i.size, i.bytes)) = some (some (.agg #[.int .i64 0, .int .i64 0, .string ⟨#[]⟩]), 3, 32) := by kernel_rfl
theorem make_pts (n : Nat) (hn : n ≤ 1048576) (W : World) : (Instr.makeSlice 25 (.int .i64 (n : Int)) (.int .i64 (n : Int))).run Try.prog W =
    .ok (.slice (some ⟨W.heap.size, 0, none⟩) n n) (W.alloc (.cells (madeCells (Value.agg #[.int .i64 0, .int .i64 0, .string ⟨#[]⟩]).cells (n * 3)) 63)) := by
  obtain ⟨i0, hi, hz0, hz1, hz2⟩ := info_parts infoPt
  have h := run_make (P := Try.prog) W 25 63 i0 _ Try.underlying25 hi hz0 .i64 .i64 (n : Int) (n : Int) (by omega) (by omega) (by rw [hz2]; omega) (by omega)
  rw [hz1] at h
  simpa using h
end Go.Proofs.Ytfkcfachbfbmpaa

