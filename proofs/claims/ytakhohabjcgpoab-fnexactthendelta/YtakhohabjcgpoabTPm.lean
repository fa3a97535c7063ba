/- Parts of a delta in memory. -/
import Derived.WalkKit
import Derived.Test.YtakhohabjcgpoabStrR
import Derived.Test.YtakhohabjcgpoabKStr
namespace Go.Proofs.Ytakhohabjcgpoab
set_option maxRecDepth 100000
open Go Go.ChangeShapes Go.WideShapes Go.ChangeAt Go.RowKit
/-- a part -/
structure Pt where
  fr : Int
  lg : Int
  tx : ByteArray
def zeroPt : Pt := ⟨0, 0, ⟨#[]⟩⟩
def tcells (f : Pt) : List Value := [.int .i64 f.fr, .int .i64 f.lg, .string f.tx]
def tval (f : Pt) : Value := .agg #[.int .i64 f.fr, .int .i64 f.lg, .string f.tx]
/-- a slice of parts in memory below block B -/
def Pts (B : Nat) (a : Option Addr) (l : List Pt) (w : World) : Prop := GSl B 3 a (l.map tcells) w
theorem Pts.cell {B : Nat} {a : Option Addr} {l : List Pt} {w : World} (h : Pts B a l w) (h0 : 0 < l.length) : ∃ b off, a = some ⟨b, off, none⟩ ∧ b < B ∧ ∀ i (hi : i < l.length), w.cell? ⟨b, off + i * 3, none⟩ = some (.int .i64 l[i].fr) ∧
    w.cell? ⟨b, off + i * 3 + 1, none⟩ = some (.int .i64 l[i].lg) ∧ w.cell? ⟨b, off + i * 3 + 2, none⟩ = some (.string l[i].tx) := by
  obtain ⟨b, off, e, hb, hc⟩ := GSl.cell h (by simpa using h0)
  refine ⟨b, off, e, hb, fun i hi => ?_⟩
  have hi' : i < (l.map tcells).length := by simpa using hi
  have hr : (l.map tcells)[i] = tcells l[i] := List.getElem_map _
  have c0 := hc i hi' 0 (by decide)
  have c1 := hc i hi' 1 (by decide)
  have c2 := hc i hi' 2 (by decide)
  rw [hr] at c0 c1 c2
  exact ⟨c0, c1, c2⟩
theorem Pts.below {B : Nat} {a : Option Addr} {l : List Pt} {w w' : World} (h : Pts B a l w) (g : Below B w w') : Pts B a l w' := GSl.below h g
theorem Pts.mono {B B' : Nat} {a : Option Addr} {l : List Pt} {w : World} (h : Pts B a l w) (hB : B ≤ B') : Pts B' a l w := GSl.mono h hB
/-- a row of parts that a call itself has made -/
def PtRow (R : Nat) (l : List Pt) (w : World) : Prop := GRow R 3 (l.map tcells) w
theorem PtRow.lt {R : Nat} {l : List Pt} {w : World} (h : PtRow R l w) : R < w.heap.size := GRow.lt h
theorem PtRow.cell {R : Nat} {l : List Pt} {w : World} (h : PtRow R l w) (i : Nat) (hi : i < l.length) : w.cell? ⟨R, i * 3, none⟩ = some (.int .i64 l[i].fr) ∧ w.cell? ⟨R, i * 3 + 1, none⟩ = some (.int .i64 l[i].lg) ∧ w.cell? ⟨R, i * 3 + 2, none⟩ = some (.string l[i].tx) := by
  have hi' : i < (l.map tcells).length := by simpa using hi
  have hr : (l.map tcells)[i] = tcells l[i] := List.getElem_map _
  have c0 := GRow.cell h i hi' 0 (by decide)
  have c1 := GRow.cell h i hi' 1 (by decide)
  have c2 := GRow.cell h i hi' 2 (by decide)
  rw [hr] at c0 c1 c2
  exact ⟨c0, c1, c2⟩
theorem PtRow.free {R : Nat} {l : List Pt} {w : World} (h : PtRow R l w) (j : Nat) (hj : j < l.length * 3) : w.frozen? ⟨R, j, none⟩ = false := GRow.free h j (by simpa using hj)
theorem PtRow.drew {R : Nat} {l : List Pt} {w : World} (h : PtRow R l w) : PtRow R l w.drew := GRow.drew h
theorem PtRow.below {R : Nat} {l : List Pt} {w w' : World} (h : PtRow R l w) (hb : Below w.heap.size w w') : PtRow R l w' := GRow.below h hb
theorem PtRow.same {R : Nat} {l : List Pt} {w w' : World} (h : PtRow R l w) (hs : w.heap.size ≤ w'.heap.size) (hb : w'.heap[R]? = w.heap[R]?) : PtRow R l w' := GRow.same h hs hb
theorem PtRow.sl {R B : Nat} {l : List Pt} {w : World} (h : PtRow R l w) (hB : R < B) : Pts B (some ⟨R, 0, none⟩) l w := GRow.sl h hB
theorem tmap_row (l : List Pt) (k : Nat) (hk : k < l.length) (hk' : k < (l.map tcells).length) (j : Nat) (v : Value) (z : Pt) (hz : (tcells l[k]).set j v = tcells z) :
    (l.map tcells).set k ((l.map tcells)[k].set j v) = (l.set k z).map tcells := by
  have hr : (l.map tcells)[k] = tcells l[k] := List.getElem_map _
  rw [hr, hz, List.map_set]
theorem PtRow.setAt {R : Nat} {l : List Pt} {w : World} (h : PtRow R l w) (k j : Nat) (hk : k < l.length) (hj : j < 3) (v : Value) (z : Pt) (hz : (tcells l[k]).set j v = tcells z) :
    PtRow R (l.set k z) (w.setCell ⟨R, k * 3 + j, none⟩ v) := by
  have hk' : k < (l.map tcells).length := by simpa using hk
  have := GRow.set h k j hk' hj v
  rw [tmap_row l k hk hk' j v z hz] at this
  exact this
theorem PtRow.set {R : Nat} {l : List Pt} {w : World} (h : PtRow R l w) (k : Nat) (hk : k < l.length) (z : Pt) :
    PtRow R (l.set k z) (((w.setCell ⟨R, k * 3, none⟩ (.int .i64 z.fr)).setCell ⟨R, k * 3 + 1, none⟩ (.int .i64 z.lg)).setCell ⟨R, k * 3 + 2, none⟩ (.string z.tx)) := by
  have h1 := h.setAt k 0 hk (by decide) (.int .i64 z.fr) ⟨z.fr, l[k].lg, l[k].tx⟩ rfl
  have h2 := h1.setAt k 1 (by simpa using hk) (by decide) (.int .i64 z.lg) ⟨z.fr, z.lg, l[k].tx⟩ (by rw [List.getElem_set_self]; rfl)
  have h3 := h2.setAt k 2 (by simpa using hk) (by decide) (.string z.tx) z (by rw [List.getElem_set_self]; rfl)
  simpa using h3
theorem PtRow.setMark {R : Nat} {l : List Pt} {w w1 : World} (h : PtRow R l w) (k : Nat) (hk : k < l.length) (z : Pt) (hb : Below ((w.setCell ⟨R, k * 3, none⟩ (.int .i64 z.fr)).setCell ⟨R, k * 3 + 1, none⟩ (.int .i64 z.lg)).heap.size ((w.setCell ⟨R, k * 3, none⟩ (.int .i64 z.fr)).setCell ⟨R, k * 3 + 1, none⟩ (.int .i64 z.lg)) w1) :
    PtRow R (l.set k z) (w1.setCell ⟨R, k * 3 + 2, none⟩ (.string z.tx)) := by
  have h1 := h.setAt k 0 hk (by decide) (.int .i64 z.fr) ⟨z.fr, l[k].lg, l[k].tx⟩ rfl
  have h2 := h1.setAt k 1 (by simpa using hk) (by decide) (.int .i64 z.lg) ⟨z.fr, z.lg, l[k].tx⟩ (by rw [List.getElem_set_self]; rfl)
  have h2' := h2.below hb
  have h3 := h2'.setAt k 2 (by simpa using hk) (by decide) (.string z.tx) z (by rw [List.getElem_set_self]; rfl)
  simpa using h3
theorem PtRow.made (w : World) (n : Nat) : PtRow w.heap.size (List.replicate n zeroPt) (w.alloc (.cells (madeCells (Value.agg #[.int .i64 0, .int .i64 0, .string ⟨#[]⟩]).cells (n * 3)) 37)) := by
  have := GRow.made w 37 n #[.int .i64 0, .int .i64 0, .string ⟨#[]⟩]
  unfold PtRow
  rw [List.map_replicate]
  exact this
/-- parts that are owned in blocks lo .. hi - 1 (or none) -/
def OwnT (lo hi : Nat) (a : Option Addr) (l : List Pt) (w : World) : Prop := l = [] ∨ ∃ R, lo ≤ R ∧ R < hi ∧ a = some ⟨R, 0, none⟩ ∧ PtRow R l w
theorem OwnT.below {lo hi : Nat} {a : Option Addr} {l : List Pt} {w w' : World} (h : OwnT lo hi a l w) (g : Below w.heap.size w w') : OwnT lo hi a l w' := by
  rcases h with h | ⟨R, h1, h3, e, hr⟩
  · exact Or.inl h
  · exact Or.inr ⟨R, h1, h3, e, hr.below g⟩
theorem OwnT.ts {lo hi : Nat} {a : Option Addr} {l : List Pt} {w : World} (h : OwnT lo hi a l w) : Pts w.heap.size a l w := by
  rcases h with rfl | ⟨R, h1, h3, rfl, hr⟩
  · exact ⟨fun h0 => absurd h0 (by simp)⟩
  · exact hr.sl hr.lt
set_option maxHeartbeats 400000 in
theorem eqPart_same (b : Int) (n : Int) (D : ByteArray) (w : World) :
    Calls Try.prog 16 #[.agg #[.int .i64 b, .int .i64 n, .string D], .agg #[.int .i64 b, .int .i64 n, .string D]] w fun e w' => e = .returned (.bool true) ∧ Below w.heap.size w w' := by
  go_enter Try.func16, Try.ntmps16
  go_wp2
  go_ret
  exact ⟨rfl, ((Below.refl _ _).alloc (Nat.le_refl _) _).alloc (by simp) _⟩
set_option maxHeartbeats 400000 in
theorem szPart_any (b : Int) (n : Int) (D : ByteArray) (left : Int) (w : World) (h0 : 0 ≤ left) (h1 : left ≤ 1048576) (hz : D.size ≤ 9223372036854775807) :
    Calls Try.prog 14 #[.agg #[.int .i64 b, .int .i64 n, .string D], .int .i64 left] w fun e w' => (∃ r : Int, e = .returned (.int .i64 r) ∧ r ≤ 1048576 ∧ (0 ≤ r → D.size ≤ 1048576)) ∧ Below w.heap.size w w' := by
  by_cases g : (D.size : Int) ≤ left
  · have hd : decide (left - (D.size : Int) < 0) = false := by simp; omega
    go_enter Try.func14, Try.ntmps14
    go_wp2
    go_ret
    exact ⟨⟨_, rfl, by omega, fun _ => by omega⟩, (Below.refl _ _).alloc (Nat.le_refl _) _⟩
  · have hd : decide (left - (D.size : Int) < 0) = true := by simp; omega
    go_enter Try.func14, Try.ntmps14
    go_wp2
    go_ret
    exact ⟨⟨-1, rfl, by omega, fun h => by omega⟩, (Below.refl _ _).alloc (Nat.le_refl _) _⟩
set_option maxHeartbeats 400000 in
theorem toPart_any (b : Int) (n : Int) (D : ByteArray) (w : World) :
    Calls Try.prog 15 #[.agg #[.int .i64 b, .int .i64 n, .string D]] w fun e w' => e = .returned (.agg #[.int .i64 b, .int .i64 n, .string D]) ∧ Below w.heap.size w w' := by
  go_enter Try.func15, Try.ntmps15
  go_wp2
  refine bodyPost_ret (v := .agg #[.int .i64 b, .int .i64 n, .string D]) (by simp [results, Try.results15, go_sem]) rfl ⟨rfl, ?_⟩
  exact (((Below.refl _ _).alloc (Nat.le_refl _) _).alloc (by simp) _).alloc (by simp; omega) _
theorem infoPt : (Try.prog.info? 37).map (fun i => (i.zero, i.size, i.bytes)) = some (some (.agg #[.int .i64 0, .int .i64 0, .string ⟨#[]⟩]), 3, 32) := by kernel_rfl
theorem make_pts (n : Nat) (hn : n ≤ 1048576) (W : World) : (Instr.makeSlice 26 (.int .i64 (n : Int)) (.int .i64 (n : Int))).run Try.prog W =
    .ok (.slice (some ⟨W.heap.size, 0, none⟩) n n) (W.alloc (.cells (madeCells (Value.agg #[.int .i64 0, .int .i64 0, .string ⟨#[]⟩]).cells (n * 3)) 37)) := by
  obtain ⟨i0, hi, hz0, hz1, hz2⟩ := info_parts infoPt
  have h := run_make (P := Try.prog) W 26 37 i0 _ Try.underlying26 hi hz0 .i64 .i64 (n : Int) (n : Int) (by omega) (by omega) (by rw [hz2]; omega) (by omega)
  rw [hz1] at h
  simpa using h
set_option maxHeartbeats 1000000 in
theorem toPartS_any (a : Option Addr) (cap : Nat) (l : List Pt) (w : World) (hn : l.length ≤ 1048576) (hZ : Pts w.heap.size a l w) :
    Calls Try.prog 7 #[.slice a l.length cap] w fun e w' => e = .returned (.slice (some ⟨w.heap.size, 0, none⟩) l.length l.length) ∧ PtRow w.heap.size l w' ∧ Below w.heap.size w w' := by
  have HZ : Hid (Pts w.heap.size a l w) := hZ
  clear hZ
  have hmk := make_pts l.length hn
  have hr0 := PtRow.made w l.length
  generalize madeCells (Value.agg #[.int .i64 0, .int .i64 0, .string ⟨#[]⟩]).cells (l.length * 3) = M at *
  have HR : Hid (PtRow w.heap.size (List.replicate l.length zeroPt) (w.alloc (.cells M 37))) := hr0
  clear hr0
  go_enter Try.func7, Try.ntmps7
  go_wp2
  go_loopw [4] (fun i wr => ∃ (k : Nat) (ys : List Pt), k ≤ l.length ∧ i = .int .i64 k ∧ ys.length = l.length ∧ ys.take k = l.take k ∧ PtRow w.heap.size ys wr ∧ Below w.heap.size w wr) (fun i _ => l.length - (intOf i).toNat)
  case atStart => exact ⟨0, List.replicate l.length zeroPt, Nat.zero_le _, rfl, by simp, rfl, HR.out, (Below.refl _ _).alloc (Nat.le_refl _) _⟩
  case round =>
    obtain ⟨k, ys, hk, rfl, hy, htk, hrow, hbel⟩ := hrel
    have HROW : Hid (PtRow w.heap.size ys wr) := hrow
    have HBEL : Hid (Below w.heap.size w wr) := hbel
    have HTK : Hid (ys.take k = l.take k) := htk
    by_cases hlt : k < l.length
    · obtain ⟨b, off, rfl, hb, hcells⟩ := HZ.out.cell (by omega)
      obtain ⟨c0, c1, c2⟩ := hcells k hlt
      have hb' : ∀ o, wr.cell? ⟨b, o, none⟩ = w.cell? ⟨b, o, none⟩ := fun o => hbel.cell (p := ⟨b, o, none⟩) hb
      rw [← hb'] at c0 c1 c2
      clear hcells hb'
      have HC : Hid (∀ v, Calls Try.prog 15 #[.agg #[.int .i64 l[k].fr, .int .i64 l[k].lg, .string l[k].tx]] v fun e w' => e = .returned (.agg #[.int .i64 l[k].fr, .int .i64 l[k].lg, .string l[k].tx]) ∧ Below v.heap.size v w') := fun v => toPart_any _ _ _ v
      obtain ⟨y0, y1, y2⟩ := hrow.cell k (by omega)
      have f0 := hrow.free (k * 3) (by omega)
      have f1 := hrow.free (k * 3 + 1) (by omega)
      have f2 := hrow.free (k * 3 + 2) (by omega)
      have hszr := hbel.size
      have hltr := hrow.lt
      clear hrow hbel htk
      go_wp2_with fail
      refine (HC.out _).mono ?_
      rintro e w1 ⟨rfl, b1⟩
      have hc1 : ∀ o, w1.cell? ⟨w.heap.size, o, none⟩ = wr.cell? ⟨w.heap.size, o, none⟩ := fun o => b1.cell (p := ⟨w.heap.size, o, none⟩) hltr
      have hf1 : ∀ o, w1.frozen? ⟨w.heap.size, o, none⟩ = wr.frozen? ⟨w.heap.size, o, none⟩ := fun o => b1.frozen (p := ⟨w.heap.size, o, none⟩) hltr
      rw [← hc1] at y0 y1 y2
      rw [← hf1] at f0 f1 f2
      clear hc1 hf1
      have HB1 : Hid (Below wr.heap.size wr w1) := b1
      clear b1
      go_wp2
      go_roundw
      case rel =>
        refine ⟨k + 1, ys.set k l[k], by omega, by go_num, by simpa using hy, ?_, (HROW.out.below HB1.out).set k (by omega) l[k], ?_⟩
        · have hky : k < ys.length := by omega
          rw [take_snoc _ k (by simpa using hky), take_snoc l k hlt, List.take_set_of_le (Nat.le_refl _), HTK.out, List.getElem_set_self]
        · exact (((HBEL.out.trans (HB1.out.mono hszr)).setCell (Nat.le_refl _) _).setCell (Nat.le_refl _) _).setCell (Nat.le_refl _) _
      case measure => simp [intOf]; omega
    · obtain rfl : k = l.length := by omega
      rw [List.take_length, List.take_of_length_le (by omega)] at htk
      subst htk
      clear hrow hbel
      go_wp2
      go_ret
      exact ⟨rfl, HROW.out, HBEL.out⟩
set_option maxHeartbeats 2000000 in
theorem eqPartS_same (a1 a2 : Option Addr) (c1 c2 : Nat) (l : List Pt) (w : World) (hn : l.length ≤ 1048576) (h1 : Pts w.heap.size a1 l w) (h2 : Pts w.heap.size a2 l w) :
    Calls Try.prog 9 #[.slice a1 l.length c1, .slice a2 l.length c2] w fun e w' => e = .returned (.bool true) ∧ Below w.heap.size w w' := by
  have H1 : Hid (Pts w.heap.size a1 l w) := h1
  have H2 : Hid (Pts w.heap.size a2 l w) := h2
  clear h1 h2
  go_enter Try.func9, Try.ntmps9
  go_wp2
  go_loopw [5] (fun i wr => ∃ k : Nat, k ≤ l.length ∧ i = .int .i64 k ∧ Below w.heap.size w wr) (fun i _ => l.length - (intOf i).toNat)
  case atStart => exact ⟨0, Nat.zero_le _, rfl, Below.refl _ _⟩
  case round =>
    obtain ⟨k, hk, rfl, hbel⟩ := hrel
    have HBEL : Hid (Below w.heap.size w wr) := hbel
    by_cases hlt : k < l.length
    · obtain ⟨b1, o1, rfl, hb1, hc1⟩ := H1.out.cell (by omega)
      obtain ⟨b2, o2, rfl, hb2, hc2⟩ := H2.out.cell (by omega)
      obtain ⟨x0, x1, x2⟩ := hc1 k hlt
      obtain ⟨y0, y1, y2⟩ := hc2 k hlt
      have hb1' : ∀ o, wr.cell? ⟨b1, o, none⟩ = w.cell? ⟨b1, o, none⟩ := fun o => hbel.cell (p := ⟨b1, o, none⟩) hb1
      have hb2' : ∀ o, wr.cell? ⟨b2, o, none⟩ = w.cell? ⟨b2, o, none⟩ := fun o => hbel.cell (p := ⟨b2, o, none⟩) hb2
      rw [← hb1'] at x0 x1 x2
      rw [← hb2'] at y0 y1 y2
      clear hc1 hc2 hb1' hb2' hbel
      generalize l[k].fr = rk at *
      generalize l[k].lg = rp at *
      generalize l[k].tx = rd at *
      go_wp2_with fail
      go_region_with (go_at_call 16; refine (eqPart_same rk rp rd _).mono ?_; rintro e w9 ⟨rfl, b9⟩)
      all_goals
        have HB9 : Hid (Below w.heap.size w w9) := HBEL.out.trans ((show Below wr.heap.size wr w9 from ⟨b9.os, b9.tape, b9.output, b9.size, b9.block⟩).mono HBEL.out.size)
        clear b9
        go_wp2
        go_roundw
        · exact ⟨k + 1, by omega, by go_num, HB9.out⟩
        · simp [intOf]; omega
    · clear hbel
      go_wp2
      go_ret
      exact ⟨rfl, HBEL.out⟩
set_option maxHeartbeats 1000000 in
theorem szPartS_left (a : Option Addr) (cap : Nat) (l : List Pt) (left : Int) (w : World) (h0 : 0 ≤ left) (h1 : left ≤ 1048576) (hz : ∀ r ∈ l, r.tx.size ≤ 9223372036854775807) (hn : l.length ≤ 9223372036854775807) (hZ : Pts w.heap.size a l w) :
    Calls Try.prog 5 #[.slice a l.length cap, .int .i64 left] w fun e w' => (∃ r : Int, e = .returned (.int .i64 r) ∧ r ≤ 1048576 ∧ (0 ≤ r → l.length ≤ 1048576)) ∧ Below w.heap.size w w' := by
  have HZ : Hid (Pts w.heap.size a l w) := hZ
  have HS : Hid (∀ r ∈ l, r.tx.size ≤ 9223372036854775807) := hz
  clear hZ hz
  by_cases g : (l.length : Int) ≤ left
  · have hd : decide (left - (l.length : Int) < 0) = false := by simp; omega
    have hl : l.length ≤ 1048576 := by omega
    go_enter Try.func5, Try.ntmps5
    go_wp2
    go_loopw [1, 5] (fun t i wr => ∃ (k : Nat) (r : Int), k ≤ l.length ∧ i = .int .i64 k ∧ t = .int .i64 r ∧ 0 ≤ r ∧ r ≤ 1048576 ∧ Below w.heap.size w wr) (fun _ i _ => l.length - (intOf i).toNat)
    case atStart => exact ⟨0, _, Nat.zero_le _, rfl, rfl, by omega, by omega, Below.refl _ _⟩
    case round =>
      obtain ⟨k, r, hk, rfl, rfl, r0, r1, hbel⟩ := hrel
      have HBEL : Hid (Below w.heap.size w wr) := hbel
      clear hbel
      by_cases hlt : k < l.length
      · obtain ⟨b, off, rfl, hb, hcells⟩ := HZ.out.cell (by omega)
        obtain ⟨c0, c1, c2⟩ := hcells k hlt
        have hb' : ∀ o, wr.cell? ⟨b, o, none⟩ = w.cell? ⟨b, o, none⟩ := fun o => HBEL.out.cell (p := ⟨b, o, none⟩) hb
        rw [← hb'] at c0 c1 c2
        clear hcells hb'
        have hsz := HS.out l[k] (List.getElem_mem hlt)
        generalize l[k] = z at *
        obtain ⟨zk, zp, D⟩ := z
        have hsz' : D.size ≤ 9223372036854775807 := hsz
        have HC' : Hid (∀ v, Calls Try.prog 14 #[.agg #[.int .i64 zk, .int .i64 zp, .string D], .int .i64 r] v fun e w' => (∃ r : Int, e = .returned (.int .i64 r) ∧ r ≤ 1048576 ∧ (0 ≤ r → D.size ≤ 1048576)) ∧ Below v.heap.size v w') := fun v => szPart_any zk zp D r v r0 r1 (by omega)
        clear hsz hsz'
        simp only at c0 c1 c2
        go_wp2_with fail
        refine (HC'.out _).mono ?_
        rintro e w1 ⟨⟨q, rfl, q1, hq⟩, b1⟩
        have HB1 : Hid (Below w.heap.size w w1) := HBEL.out.trans (b1.mono HBEL.out.size)
        clear b1
        by_cases hq0 : 0 ≤ q
        · have hdq : decide (q < 0) = false := by simp; omega
          clear hq
          go_wp2
          go_roundw
          case rel => exact ⟨k + 1, q, by omega, by go_num, rfl, hq0, q1, HB1.out⟩
          case measure => simp [intOf]; omega
        · have hdq : decide (q < 0) = true := by simp; omega
          clear hq
          go_wp2
          go_ret
          exact ⟨⟨-1, rfl, by omega, fun h => by omega⟩, HB1.out⟩
      · go_wp2
        go_ret
        exact ⟨⟨r, rfl, r1, fun _ => hl⟩, HBEL.out⟩
  · have hd : decide (left - (l.length : Int) < 0) = true := by simp; omega
    go_enter Try.func5, Try.ntmps5
    go_wp2
    go_ret
    exact ⟨⟨-1, rfl, by omega, fun h => by omega⟩, Below.refl _ _⟩
end Go.Proofs.Ytakhohabjcgpoab

