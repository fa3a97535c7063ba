/- Stretches in memory. -/
import Derived.WalkKit
import Derived.Test.YtgipkpldlkmdkaaGRow
import Derived.Test.YtgipkpldlkmdkaaOut
import Derived.Test.YtgipkpldlkmdkaaMPlain
namespace Go.Proofs.Ytgipkpldlkmdkaa
open Go Go.RowKit G00541
def xcells (x : Sx) : List Value := [.int .i64 x.at_, .int .i64 x.long, .int .i64 x.place]
def xval (x : Sx) : Value := .agg #[.int .i64 x.at_, .int .i64 x.long, .int .i64 x.place]
def zeroX : Sx := ⟨0, 0, 0⟩
/-- a slice of stretches in memory below block B -/
def Xs (B : Nat) (a : Option Addr) (l : List Sx) (w : World) : Prop := GSl B 3 a (l.map xcells) w
theorem Xs.cell {B : Nat} {a : Option Addr} {l : List Sx} {w : World} (h : Xs B a l w) (h0 : 0 < l.length) : ∃ b off, a = some ⟨b, off, none⟩ ∧ b < B ∧ ∀ i (hi : i < l.length), w.cell? ⟨b, off + i * 3, none⟩ = some (.int .i64 l[i].at_) ∧
    w.cell? ⟨b, off + i * 3 + 1, none⟩ = some (.int .i64 l[i].long) ∧ w.cell? ⟨b, off + i * 3 + 2, none⟩ = some (.int .i64 l[i].place) := by
  obtain ⟨b, off, e, hb, hc⟩ := GSl.cell h (by simpa using h0)
  refine ⟨b, off, e, hb, fun i hi => ?_⟩
  have hi' : i < (l.map xcells).length := by simpa using hi
  have hr : (l.map xcells)[i] = xcells l[i] := List.getElem_map _
  have c0 := hc i hi' 0 (by decide)
  have c1 := hc i hi' 1 (by decide)
  have c2 := hc i hi' 2 (by decide)
  rw [hr] at c0 c1 c2
  exact ⟨c0, c1, c2⟩
theorem Xs.below {B : Nat} {a : Option Addr} {l : List Sx} {w w' : World} (h : Xs B a l w) (g : Below B w w') : Xs B a l w' := GSl.below h g
theorem Xs.mono {B B' : Nat} {a : Option Addr} {l : List Sx} {w : World} (h : Xs B a l w) (hB : B ≤ B') : Xs B' a l w := GSl.mono h hB
theorem Xs.go {a : Option Addr} {l : List Sx} {w w' : World} (h : Xs w.heap.size a l w) (g : Below w.heap.size w w') : Xs w'.heap.size a l w' := (h.below g).mono g.size
/-- a row of stretches that a call itself has made -/
def XRow (R : Nat) (l : List Sx) (w : World) : Prop := GRow R 3 (l.map xcells) w
theorem XRow.lt {R : Nat} {l : List Sx} {w : World} (h : XRow R l w) : R < w.heap.size := GRow.lt h
theorem XRow.cell {R : Nat} {l : List Sx} {w : World} (h : XRow R l w) (i : Nat) (hi : i < l.length) : w.cell? ⟨R, i * 3, none⟩ = some (.int .i64 l[i].at_) ∧ w.cell? ⟨R, i * 3 + 1, none⟩ = some (.int .i64 l[i].long) ∧ w.cell? ⟨R, i * 3 + 2, none⟩ = some (.int .i64 l[i].place) := by
  have hi' : i < (l.map xcells).length := by simpa using hi
  have hr : (l.map xcells)[i] = xcells l[i] := List.getElem_map _
  have c0 := GRow.cell h i hi' 0 (by decide)
  have c1 := GRow.cell h i hi' 1 (by decide)
  have c2 := GRow.cell h i hi' 2 (by decide)
  rw [hr] at c0 c1 c2
  exact ⟨c0, c1, c2⟩
theorem XRow.free {R : Nat} {l : List Sx} {w : World} (h : XRow R l w) (j : Nat) (hj : j < l.length * 3) : w.frozen? ⟨R, j, none⟩ = false := GRow.free h j (by simpa using hj)
theorem XRow.drew {R : Nat} {l : List Sx} {w : World} (h : XRow R l w) : XRow R l w.drew := GRow.drew h
theorem XRow.below {R : Nat} {l : List Sx} {w w' : World} (h : XRow R l w) (hb : Below w.heap.size w w') : XRow R l w' := GRow.below h hb
theorem XRow.same {R : Nat} {l : List Sx} {w w' : World} (h : XRow R l w) (hs : w.heap.size ≤ w'.heap.size) (hb : w'.heap[R]? = w.heap[R]?) : XRow R l w' := GRow.same h hs hb
theorem XRow.sl {R B : Nat} {l : List Sx} {w : World} (h : XRow R l w) (hB : R < B) : Xs B (some ⟨R, 0, none⟩) l w := GRow.sl h hB
theorem xmap_row (l : List Sx) (k : Nat) (hk : k < l.length) (hk' : k < (l.map xcells).length) (j : Nat) (v : Value) (z : Sx) (hz : (xcells l[k]).set j v = xcells z) :
    (l.map xcells).set k ((l.map xcells)[k].set j v) = (l.set k z).map xcells := by
  have hr : (l.map xcells)[k] = xcells l[k] := List.getElem_map _
  rw [hr, hz, List.map_set]
theorem XRow.setAt {R : Nat} {l : List Sx} {w : World} (h : XRow R l w) (k j : Nat) (hk : k < l.length) (hj : j < 3) (v : Value) (z : Sx) (hz : (xcells l[k]).set j v = xcells z) :
    XRow R (l.set k z) (w.setCell ⟨R, k * 3 + j, none⟩ v) := by
  have hk' : k < (l.map xcells).length := by simpa using hk
  have := GRow.set h k j hk' hj v
  rw [xmap_row l k hk hk' j v z hz] at this
  exact this
theorem XRow.set {R : Nat} {l : List Sx} {w : World} (h : XRow R l w) (k : Nat) (hk : k < l.length) (z : Sx) :
    XRow R (l.set k z) (((w.setCell ⟨R, k * 3, none⟩ (.int .i64 z.at_)).setCell ⟨R, k * 3 + 1, none⟩ (.int .i64 z.long)).setCell ⟨R, k * 3 + 2, none⟩ (.int .i64 z.place)) := by
  have h1 := h.setAt k 0 hk (by decide) (.int .i64 z.at_) ⟨z.at_, l[k].long, l[k].place⟩ rfl
  have h2 := h1.setAt k 1 (by simpa using hk) (by decide) (.int .i64 z.long) ⟨z.at_, z.long, l[k].place⟩ (by rw [List.getElem_set_self]; rfl)
  have h3 := h2.setAt k 2 (by simpa using hk) (by decide) (.int .i64 z.place) z (by rw [List.getElem_set_self]; rfl)
  simpa using h3
theorem XRow.setLong {R : Nat} {l : List Sx} {w : World} (h : XRow R l w) (k : Nat) (hk : k < l.length) (n : Int) : XRow R (l.set k ⟨l[k].at_, n, l[k].place⟩) (w.setCell ⟨R, k * 3 + 1, none⟩ (.int .i64 n)) :=
  h.setAt k 1 hk (by decide) (.int .i64 n) ⟨l[k].at_, n, l[k].place⟩ rfl
theorem XRow.made (w : World) (n : Nat) : XRow w.heap.size (List.replicate n zeroX) (w.alloc (.cells (madeCells (Value.agg #[.int .i64 0, .int .i64 0, .int .i64 0]).cells (n * 3)) 36)) := by
  have := GRow.made w 36 n #[.int .i64 0, .int .i64 0, .int .i64 0]
  unfold XRow
  rw [List.map_replicate]
  exact this
theorem take_snoc {α : Type} (l : List α) (k : Nat) (h : k < l.length) : l.take (k + 1) = l.take k ++ [l[k]] := List.take_succ_eq_append_getElem h
/-- stretches that are owned in blocks lo .. hi - 1 (or none) -/
def OwnX (lo hi : Nat) (a : Option Addr) (l : List Sx) (w : World) : Prop := l = [] ∨ ∃ R, lo ≤ R ∧ R < hi ∧ a = some ⟨R, 0, none⟩ ∧ XRow R l w
theorem OwnX.below {lo hi : Nat} {a : Option Addr} {l : List Sx} {w w' : World} (h : OwnX lo hi a l w) (g : Below w.heap.size w w') : OwnX lo hi a l w' := by
  rcases h with h | ⟨R, h1, h3, e, hr⟩
  · exact Or.inl h
  · exact Or.inr ⟨R, h1, h3, e, hr.below g⟩
theorem OwnX.out {lo hi l2 h2 : Nat} {a : Option Addr} {l : List Sx} {w w' : World} (h : OwnX lo hi a l w) (g : Out l2 h2 w w') (hd : hi ≤ l2 ∨ h2 ≤ lo) : OwnX lo hi a l w' := by
  rcases h with h | ⟨R, h1, h3, e, hr⟩
  · exact Or.inl h
  · exact Or.inr ⟨R, h1, h3, e, hr.same g.size (g.block R hr.lt (by omega))⟩
theorem OwnX.xs {lo hi : Nat} {a : Option Addr} {l : List Sx} {w : World} (h : OwnX lo hi a l w) : Xs w.heap.size a l w := by
  rcases h with rfl | ⟨R, h1, h3, rfl, hr⟩
  · exact ⟨fun h0 => absurd h0 (by simp)⟩
  · exact hr.sl hr.lt
theorem OwnX.drew {lo hi : Nat} {a : Option Addr} {l : List Sx} {w : World} (h : OwnX lo hi a l w) : OwnX lo hi a l w.drew := by
  rcases h with h | ⟨R, h1, h3, e, hr⟩
  · exact Or.inl h
  · exact Or.inr ⟨R, h1, h3, e, hr.drew⟩
end Go.Proofs.Ytgipkpldlkmdkaa
