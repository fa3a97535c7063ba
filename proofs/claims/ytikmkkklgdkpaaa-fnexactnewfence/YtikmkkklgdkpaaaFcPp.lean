/- Papers in memory. -/
import Derived.WalkKit
import Derived.Test.YtikmkkklgdkpaaaFcRM
namespace Go.Proofs.Ytikmkkklgdkpaaa
set_option maxRecDepth 100000
open Go Go.ChangeShapes Go.WideShapes Go.ChangeAt Go.RowKit
/-- a paper -/
structure Pp where
  kd : Int
  fr : Int
  tt : Int
  no : Int
def zeroPp : Pp := ⟨0, 0, 0, 0⟩
def pcells (f : Pp) : List Value := [.int .i64 f.kd, .int .i64 f.fr, .int .i64 f.tt, .int .i64 f.no]
/-- a slice of papers in memory below block B -/
def Ps (B : Nat) (a : Option Addr) (l : List Pp) (w : World) : Prop := GSl B 4 a (l.map pcells) w
theorem Ps.cell {B : Nat} {a : Option Addr} {l : List Pp} {w : World} (h : Ps B a l w) (h0 : 0 < l.length) : ∃ b off, a = some ⟨b, off, none⟩ ∧ b < B ∧ ∀ i (hi : i < l.length), w.cell? ⟨b, off + i * 4, none⟩ = some (.int .i64 l[i].kd) ∧
    w.cell? ⟨b, off + i * 4 + 1, none⟩ = some (.int .i64 l[i].fr) ∧ w.cell? ⟨b, off + i * 4 + 2, none⟩ = some (.int .i64 l[i].tt) ∧ w.cell? ⟨b, off + i * 4 + 3, none⟩ = some (.int .i64 l[i].no) := by
  obtain ⟨b, off, e, hb, hc⟩ := GSl.cell h (by simpa using h0)
  refine ⟨b, off, e, hb, fun i hi => ?_⟩
  have hi' : i < (l.map pcells).length := by simpa using hi
  have hr : (l.map pcells)[i] = pcells l[i] := List.getElem_map _
  have c0 := hc i hi' 0 (by decide)
  have c1 := hc i hi' 1 (by decide)
  have c2 := hc i hi' 2 (by decide)
  have c3 := hc i hi' 3 (by decide)
  rw [hr] at c0 c1 c2 c3
  exact ⟨c0, c1, c2, c3⟩
theorem Ps.below {B : Nat} {a : Option Addr} {l : List Pp} {w w' : World} (h : Ps B a l w) (g : Below B w w') : Ps B a l w' := GSl.below h g
theorem Ps.mono {B B' : Nat} {a : Option Addr} {l : List Pp} {w : World} (h : Ps B a l w) (hB : B ≤ B') : Ps B' a l w := GSl.mono h hB
/-- a row of papers that a call itself has made -/
def PRow (R : Nat) (l : List Pp) (w : World) : Prop := GRow R 4 (l.map pcells) w
theorem PRow.lt {R : Nat} {l : List Pp} {w : World} (h : PRow R l w) : R < w.heap.size := GRow.lt h
theorem PRow.cell {R : Nat} {l : List Pp} {w : World} (h : PRow R l w) (i : Nat) (hi : i < l.length) : w.cell? ⟨R, i * 4, none⟩ = some (.int .i64 l[i].kd) ∧ w.cell? ⟨R, i * 4 + 1, none⟩ = some (.int .i64 l[i].fr) ∧ w.cell? ⟨R, i * 4 + 2, none⟩ = some (.int .i64 l[i].tt) ∧ w.cell? ⟨R, i * 4 + 3, none⟩ = some (.int .i64 l[i].no) := by
  have hi' : i < (l.map pcells).length := by simpa using hi
  have hr : (l.map pcells)[i] = pcells l[i] := List.getElem_map _
  have c0 := GRow.cell h i hi' 0 (by decide)
  have c1 := GRow.cell h i hi' 1 (by decide)
  have c2 := GRow.cell h i hi' 2 (by decide)
  have c3 := GRow.cell h i hi' 3 (by decide)
  rw [hr] at c0 c1 c2 c3
  exact ⟨c0, c1, c2, c3⟩
theorem PRow.free {R : Nat} {l : List Pp} {w : World} (h : PRow R l w) (j : Nat) (hj : j < l.length * 4) : w.frozen? ⟨R, j, none⟩ = false := GRow.free h j (by simpa using hj)
theorem PRow.below {R : Nat} {l : List Pp} {w w' : World} (h : PRow R l w) (hb : Below w.heap.size w w') : PRow R l w' := GRow.below h hb
theorem PRow.same {R : Nat} {l : List Pp} {w w' : World} (h : PRow R l w) (hs : w.heap.size ≤ w'.heap.size) (hb : w'.heap[R]? = w.heap[R]?) : PRow R l w' := GRow.same h hs hb
theorem PRow.sl {R B : Nat} {l : List Pp} {w : World} (h : PRow R l w) (hB : R < B) : Ps B (some ⟨R, 0, none⟩) l w := GRow.sl h hB
theorem pmap_row (l : List Pp) (k : Nat) (hk : k < l.length) (hk' : k < (l.map pcells).length) (j : Nat) (v : Value) (z : Pp) (hz : (pcells l[k]).set j v = pcells z) :
    (l.map pcells).set k ((l.map pcells)[k].set j v) = (l.set k z).map pcells := by
  have hr : (l.map pcells)[k] = pcells l[k] := List.getElem_map _
  rw [hr, hz, List.map_set]
theorem PRow.setAt {R : Nat} {l : List Pp} {w : World} (h : PRow R l w) (k j : Nat) (hk : k < l.length) (hj : j < 4) (v : Value) (z : Pp) (hz : (pcells l[k]).set j v = pcells z) :
    PRow R (l.set k z) (w.setCell ⟨R, k * 4 + j, none⟩ v) := by
  have hk' : k < (l.map pcells).length := by simpa using hk
  have := GRow.set h k j hk' hj v
  rw [pmap_row l k hk hk' j v z hz] at this
  exact this
theorem PRow.set {R : Nat} {l : List Pp} {w : World} (h : PRow R l w) (k : Nat) (hk : k < l.length) (z : Pp) :
    PRow R (l.set k z) ((((w.setCell ⟨R, k * 4, none⟩ (.int .i64 z.kd)).setCell ⟨R, k * 4 + 1, none⟩ (.int .i64 z.fr)).setCell ⟨R, k * 4 + 2, none⟩ (.int .i64 z.tt)).setCell ⟨R, k * 4 + 3, none⟩ (.int .i64 z.no)) := by
  have h1 := h.setAt k 0 hk (by decide) (.int .i64 z.kd) ⟨z.kd, l[k].fr, l[k].tt, l[k].no⟩ rfl
  have h2 := h1.setAt k 1 (by simpa using hk) (by decide) (.int .i64 z.fr) ⟨z.kd, z.fr, l[k].tt, l[k].no⟩ (by rw [List.getElem_set_self]; rfl)
  have h3 := h2.setAt k 2 (by simpa using hk) (by decide) (.int .i64 z.tt) ⟨z.kd, z.fr, z.tt, l[k].no⟩ (by rw [List.getElem_set_self]; rfl)
  have h4 := h3.setAt k 3 (by simpa using hk) (by decide) (.int .i64 z.no) z (by rw [List.getElem_set_self]; rfl)
  simpa using h4
theorem PRow.made (w : World) (n : Nat) : PRow w.heap.size (List.replicate n zeroPp) (w.alloc (.cells (madeCells (Value.agg #[.int .i64 0, .int .i64 0, .int .i64 0, .int .i64 0]).cells (n * 4)) 74)) := by
  have := GRow.made w 74 n #[.int .i64 0, .int .i64 0, .int .i64 0, .int .i64 0]
  unfold PRow
  rw [List.map_replicate]
  exact this
/-- papers whose cells may be marked, in a block of P -/
def MP (P : Nat → Prop) (a : Option Addr) (l : List Pp) (w : World) : Prop := l = [] ∨ ∃ R, P R ∧ a = some ⟨R, 0, none⟩ ∧ PRow R l w
theorem MP.ps {P : Nat → Prop} {a : Option Addr} {l : List Pp} {w : World} (h : MP P a l w) : Ps w.heap.size a l w := by
  rcases h with rfl | ⟨R, _, rfl, hr⟩
  · exact ⟨fun h0 => absurd h0 (by simp)⟩
  · exact hr.sl hr.lt
theorem MP.keep {P Q : Nat → Prop} {a : Option Addr} {l : List Pp} {w w' : World} (h : MP P a l w) (g : OutP Q w w') (hPQ : ∀ k, P k → ¬ Q k) : MP P a l w' := by
  rcases h with h | ⟨R, h1, e, hr⟩
  · exact Or.inl h
  · exact Or.inr ⟨R, h1, e, hr.same g.size (g.block _ hr.lt (hPQ _ h1))⟩
theorem MP.wide {P Q : Nat → Prop} {a : Option Addr} {l : List Pp} {w : World} (h : MP P a l w) (g : ∀ k, P k → Q k) : MP Q a l w := by
  rcases h with h | ⟨R, h1, e, hr⟩
  · exact Or.inl h
  · exact Or.inr ⟨R, g _ h1, e, hr⟩
set_option maxHeartbeats 400000 in
theorem eqPaper_same (k f t n : Int) (w : World) :
    Calls Try.prog 70 #[.agg #[.int .i64 k, .int .i64 f, .int .i64 t, .int .i64 n], .agg #[.int .i64 k, .int .i64 f, .int .i64 t, .int .i64 n]] w fun e w' => e = .returned (.bool true) ∧ Below w.heap.size w w' := by
  go_enter Try.func70, Try.ntmps70
  go_wp2
  go_ret
  exact ⟨rfl, ((Below.refl _ _).alloc (Nat.le_refl _) _).alloc (by simp) _⟩
set_option maxHeartbeats 400000 in
theorem toPaper_any (k f t n : Int) (w : World) :
    Calls Try.prog 71 #[.agg #[.int .i64 k, .int .i64 f, .int .i64 t, .int .i64 n]] w fun e w' => e = .returned (.agg #[.int .i64 k, .int .i64 f, .int .i64 t, .int .i64 n]) ∧ Below w.heap.size w w' := by
  go_enter Try.func71, Try.ntmps71
  go_wp2
  refine bodyPost_ret (v := .agg #[.int .i64 k, .int .i64 f, .int .i64 t, .int .i64 n]) (by simp [results, Try.results71, go_sem]) rfl ⟨rfl, ?_⟩
  exact (((Below.refl _ _).alloc (Nat.le_refl _) _).alloc (by simp) _).alloc (by simp; omega) _
theorem infoPp : (Try.prog.info? 74).map (fun i => (i.zero, i.size, i.bytes)) = some (some (.agg #[.int .i64 0, .int .i64 0, .int .i64 0, .int .i64 0]), 4, 32) := by kernel_rfl
theorem make_pps (n : Nat) (hn : n ≤ 1048576) (W : World) : (Instr.makeSlice 24 (.int .i64 (n : Int)) (.int .i64 (n : Int))).run Try.prog W =
    .ok (.slice (some ⟨W.heap.size, 0, none⟩) n n) (W.alloc (.cells (madeCells (Value.agg #[.int .i64 0, .int .i64 0, .int .i64 0, .int .i64 0]).cells (n * 4)) 74)) := by
  obtain ⟨i0, hi, hz0, hz1, hz2⟩ := info_parts infoPp
  have h := run_make (P := Try.prog) W 24 74 i0 _ Try.underlying24 hi hz0 .i64 .i64 (n : Int) (n : Int) (by omega) (by omega) (by rw [hz2]; omega) (by omega)
  rw [hz1] at h
  simpa using h
set_option maxHeartbeats 1000000 in
theorem toPaperS_any (a : Option Addr) (cap : Nat) (l : List Pp) (w : World) (hn : l.length ≤ 1048576) (hZ : Ps w.heap.size a l w) :
    Calls Try.prog 55 #[.slice a l.length cap] w fun e w' => e = .returned (.slice (some ⟨w.heap.size, 0, none⟩) l.length l.length) ∧ PRow w.heap.size l w' ∧ Below w.heap.size w w' := by
  have HZ : Hid (Ps w.heap.size a l w) := hZ
  clear hZ
  have hmk := make_pps l.length hn
  have hr0 := PRow.made w l.length
  generalize madeCells (Value.agg #[.int .i64 0, .int .i64 0, .int .i64 0, .int .i64 0]).cells (l.length * 4) = M at *
  have HR : Hid (PRow w.heap.size (List.replicate l.length zeroPp) (w.alloc (.cells M 74))) := hr0
  clear hr0
  go_enter Try.func55, Try.ntmps55
  go_wp2
  go_loopw [4] (fun i wr => ∃ (k : Nat) (ys : List Pp), k ≤ l.length ∧ i = .int .i64 k ∧ ys.length = l.length ∧ ys.take k = l.take k ∧ PRow w.heap.size ys wr ∧ Below w.heap.size w wr) (fun i _ => l.length - (intOf i).toNat)
  case atStart => exact ⟨0, List.replicate l.length zeroPp, Nat.zero_le _, rfl, by simp, rfl, HR.out, (Below.refl _ _).alloc (Nat.le_refl _) _⟩
  case round =>
    obtain ⟨k, ys, hk, rfl, hy, htk, hrow, hbel⟩ := hrel
    have HROW : Hid (PRow w.heap.size ys wr) := hrow
    have HBEL : Hid (Below w.heap.size w wr) := hbel
    have HTK : Hid (ys.take k = l.take k) := htk
    by_cases hlt : k < l.length
    · obtain ⟨b, off, rfl, hb, hcells⟩ := HZ.out.cell (by omega)
      obtain ⟨c0, c1, c2, c3⟩ := hcells k hlt
      have hb' : ∀ o, wr.cell? ⟨b, o, none⟩ = w.cell? ⟨b, o, none⟩ := fun o => hbel.cell (p := ⟨b, o, none⟩) hb
      rw [← hb'] at c0 c1 c2 c3
      clear hcells hb'
      have HC : Hid (∀ v, Calls Try.prog 71 #[.agg #[.int .i64 l[k].kd, .int .i64 l[k].fr, .int .i64 l[k].tt, .int .i64 l[k].no]] v fun e w' => e = .returned (.agg #[.int .i64 l[k].kd, .int .i64 l[k].fr, .int .i64 l[k].tt, .int .i64 l[k].no]) ∧ Below v.heap.size v w') := fun v => toPaper_any _ _ _ _ v
      obtain ⟨y0, y1, y2, y3⟩ := hrow.cell k (by omega)
      have f0 := hrow.free (k * 4) (by omega)
      have f1 := hrow.free (k * 4 + 1) (by omega)
      have f2 := hrow.free (k * 4 + 2) (by omega)
      have f3 := hrow.free (k * 4 + 3) (by omega)
      have hszr := hbel.size
      have hltr := hrow.lt
      clear hrow hbel htk
      go_wp2_with fail
      refine (HC.out _).mono ?_
      rintro e w1 ⟨rfl, b1⟩
      have hc1 : ∀ o, w1.cell? ⟨w.heap.size, o, none⟩ = wr.cell? ⟨w.heap.size, o, none⟩ := fun o => b1.cell (p := ⟨w.heap.size, o, none⟩) hltr
      have hf1 : ∀ o, w1.frozen? ⟨w.heap.size, o, none⟩ = wr.frozen? ⟨w.heap.size, o, none⟩ := fun o => b1.frozen (p := ⟨w.heap.size, o, none⟩) hltr
      rw [← hc1] at y0 y1 y2 y3
      rw [← hf1] at f0 f1 f2 f3
      clear hc1 hf1
      have HB1 : Hid (Below wr.heap.size wr w1) := b1
      clear b1
      go_wp2
      go_roundw
      case rel =>
        refine ⟨k + 1, ys.set k l[k], by omega, by go_num, by simpa using hy, ?_, (HROW.out.below HB1.out).set k (by omega) l[k], ?_⟩
        · have hky : k < ys.length := by omega
          rw [take_snoc _ k (by simpa using hky), take_snoc l k hlt, List.take_set_of_le (Nat.le_refl _), HTK.out, List.getElem_set_self]
        · exact ((((HBEL.out.trans (HB1.out.mono hszr)).setCell (Nat.le_refl _) _).setCell (Nat.le_refl _) _).setCell (Nat.le_refl _) _).setCell (Nat.le_refl _) _
      case measure => simp [intOf]; omega
    · obtain rfl : k = l.length := by omega
      rw [List.take_length, List.take_of_length_le (by omega)] at htk
      subst htk
      clear hrow hbel
      go_wp2
      go_ret
      exact ⟨rfl, HROW.out, HBEL.out⟩
set_option maxHeartbeats 2000000 in
theorem eqPaperS_same (a1 a2 : Option Addr) (c1 c2 : Nat) (l : List Pp) (w : World) (hn : l.length ≤ 1048576) (h1 : Ps w.heap.size a1 l w) (h2 : Ps w.heap.size a2 l w) :
    Calls Try.prog 39 #[.slice a1 l.length c1, .slice a2 l.length c2] w fun e w' => e = .returned (.bool true) ∧ Below w.heap.size w w' := by
  have H1 : Hid (Ps w.heap.size a1 l w) := h1
  have H2 : Hid (Ps w.heap.size a2 l w) := h2
  clear h1 h2
  go_enter Try.func39, Try.ntmps39
  go_wp2
  go_loopw [5] (fun i wr => ∃ k : Nat, k ≤ l.length ∧ i = .int .i64 k ∧ Below w.heap.size w wr) (fun i _ => l.length - (intOf i).toNat)
  case atStart => exact ⟨0, Nat.zero_le _, rfl, Below.refl _ _⟩
  case round =>
    obtain ⟨k, hk, rfl, hbel⟩ := hrel
    have HBEL : Hid (Below w.heap.size w wr) := hbel
    by_cases hlt : k < l.length
    · obtain ⟨b1, o1, rfl, hb1, hc1⟩ := H1.out.cell (by omega)
      obtain ⟨b2, o2, rfl, hb2, hc2⟩ := H2.out.cell (by omega)
      obtain ⟨x0, x1, x2, x3⟩ := hc1 k hlt
      obtain ⟨y0, y1, y2, y3⟩ := hc2 k hlt
      have hb1' : ∀ o, wr.cell? ⟨b1, o, none⟩ = w.cell? ⟨b1, o, none⟩ := fun o => hbel.cell (p := ⟨b1, o, none⟩) hb1
      have hb2' : ∀ o, wr.cell? ⟨b2, o, none⟩ = w.cell? ⟨b2, o, none⟩ := fun o => hbel.cell (p := ⟨b2, o, none⟩) hb2
      rw [← hb1'] at x0 x1 x2 x3
      rw [← hb2'] at y0 y1 y2 y3
      clear hc1 hc2 hb1' hb2' hbel
      generalize l[k].kd = rk at *
      generalize l[k].fr = rp at *
      generalize l[k].tt = rd at *
      generalize l[k].no = rn at *
      go_wp2_with fail
      go_region_with (go_at_call 70; refine (eqPaper_same rk rp rd rn _).mono ?_; rintro e w9 ⟨rfl, b9⟩)
      all_goals
        have HB9 : Hid (Below w.heap.size w w9) := HBEL.out.trans ((show Below wr.heap.size wr w9 from ⟨b9.os, b9.tape, b9.output, b9.size, b9.block⟩).mono HBEL.out.size)
        clear b9
        go_wp2
        go_roundw
        · exact ⟨k + 1, by omega, by go_num, HB9.out⟩
        · simp [intOf]; omega
    · clear hbel
      go_wp2
      go_ret
      exact ⟨rfl, HBEL.out⟩
set_option maxHeartbeats 400000 in
theorem szPaperS_any (a : Option Addr) (cap n : Nat) (left : Int) (w : World) (h0 : 0 ≤ left) (h1 : left ≤ 1048576) (hn : n ≤ 9223372036854775807) :
    Calls Try.prog 48 #[.slice a n cap, .int .i64 left] w fun e w' => (∃ r : Int, e = .returned (.int .i64 r) ∧ r ≤ 1048576 ∧ -1 ≤ r ∧ (0 ≤ r → n ≤ 1048576)) ∧ w' = w := by
  by_cases g : (n : Int) ≤ left
  · have hd : decide (left - (n : Int) < 0) = false := by simp; omega
    go_enter Try.func48, Try.ntmps48
    go_wp2
    go_ret
    exact ⟨⟨_, rfl, by omega, by omega, fun _ => by omega⟩, rfl⟩
  · have hd : decide (left - (n : Int) < 0) = true := by simp; omega
    go_enter Try.func48, Try.ntmps48
    go_wp2
    go_ret
    exact ⟨⟨-1, rfl, by omega, by omega, fun h => by omega⟩, rfl⟩
def mpp (k : Nat) : Pp := ⟨(k : Int), (k : Int) + 1, (k : Int) + 1 + 1, (k : Int) + 1 + 1 + 1⟩
def pmarks (n k : Nat) : List Pp := (List.range n).map fun i => mpp (k + 4 * i)
theorem pmarks_len (n k : Nat) : (pmarks n k).length = n := by simp [pmarks]
theorem pmarks_at (n k i : Nat) (h : i < (pmarks n k).length) : (pmarks n k)[i] = mpp (k + 4 * i) := by simp [pmarks]
theorem val_iN {k : IntKind} {a b : Int} (h : a = b) : Value.int k a = .int k b := by rw [h]
set_option maxHeartbeats 1000000 in
theorem markPaperS_row (R cap k0 : Nat) (l : List Pp) (w : World) (hn : l.length ≤ 1048576) (k1 : 1 ≤ k0) (k2 : k0 ≤ 2305843009213693952) (hR : PRow R l w) :
    Calls Try.prog 42 #[.slice (some ⟨R, 0, none⟩) l.length cap, .int .i64 k0] w fun e w' => e = .returned (.int .i64 (k0 + 4 * l.length : Nat)) ∧ PRow R (pmarks l.length k0) w' ∧ But R w w' := by
  have HR := hid hR
  clear hR
  go_enter Try.func42, Try.ntmps42
  go_wp2
  go_loopw [1, 5] (fun t i wr => ∃ (j : Nat) (ys : List Pp), j ≤ l.length ∧ i = .int .i64 j ∧ t = .int .i64 (k0 + 4 * j : Nat) ∧ ys.length = l.length ∧ ys.take j = (pmarks l.length k0).take j ∧ PRow R ys wr ∧ But R w wr) (fun _ i _ => l.length - (intOf i).toNat)
  case atStart => exact ⟨0, l, Nat.zero_le _, rfl, rfl, rfl, rfl, HR.out, But.refl _ _⟩
  case round =>
    obtain ⟨j, ys, hj, rfl, rfl, hy, htk, hrow, hbut⟩ := hrel
    have HROW := hid hrow
    have HBUT := hid hbut
    have HTK := hid htk
    by_cases hlt : j < l.length
    · obtain ⟨y0, y1, y2, y3⟩ := hrow.cell j (by omega)
      have f0 := hrow.free (j * 4) (by omega)
      have f1 := hrow.free (j * 4 + 1) (by omega)
      have f2 := hrow.free (j * 4 + 2) (by omega)
      have f3 := hrow.free (j * 4 + 3) (by omega)
      clear hrow hbut htk
      generalize ys[j].kd = ya at *
      generalize ys[j].fr = yb at *
      generalize ys[j].tt = yc at *
      generalize ys[j].no = yd at *
      generalize hk : k0 + 4 * j = kk at *
      have hkb : kk ≤ 2305843009217888256 := by omega
      have HKK := hid hk
      clear hk
      have HRN := hid (HROW.out.set j (by omega) (mpp kk))
      go_wp2_with fail
      go_roundw
      case rel =>
        refine ⟨j + 1, ys.set j (mpp kk), by omega, by go_num, val_iN (by have := HKK.out; omega), by simpa using hy, ?_, HRN.out, (((HBUT.out.setCell _ _).setCell _ _).setCell _ _).setCell _ _⟩
        have hjy : j < ys.length := by omega
        have hjm : j < (pmarks l.length k0).length := by rw [pmarks_len]; exact hlt
        rw [take_snoc _ j (by simpa using hjy), take_snoc _ j hjm, List.take_set_of_le (Nat.le_refl _), HTK.out, List.getElem_set_self, pmarks_at, HKK.out]
      case measure => simp [intOf]; omega
    · obtain rfl : j = l.length := by omega
      clear hrow hbut
      go_wp2
      go_ret
      rw [List.take_of_length_le (by omega), List.take_of_length_le (by rw [pmarks_len]; omega)] at htk
      subst htk
      exact ⟨rfl, HROW.out, HBUT.out⟩
set_option maxHeartbeats 400000 in
theorem markPaperS_none (a : Option Addr) (cap k0 : Nat) (w : World) :
    Calls Try.prog 42 #[.slice a 0 cap, .int .i64 k0] w fun e w' => e = .returned (.int .i64 k0) ∧ w' = w := by
  go_enter Try.func42, Try.ntmps42
  go_wp2
  go_loop [1, 5] (fun t i => t = .int .i64 k0 ∧ i = .int .i64 0) (fun _ _ => 0)
  case atStart => exact ⟨rfl, rfl⟩
  case round =>
    obtain ⟨rfl, rfl⟩ := hrel
    go_wp2
    go_ret
    exact ⟨rfl, rfl⟩
theorem markPaperS_m (P : Nat → Prop) (a : Option Addr) (cap k0 : Nat) (l : List Pp) (w : World) (hn : l.length ≤ 1048576) (k1 : 1 ≤ k0) (k2 : k0 ≤ 2305843009213693952) (h : MP P a l w) :
    Calls Try.prog 42 #[.slice a l.length cap, .int .i64 k0] w fun e w' => e = .returned (.int .i64 (k0 + 4 * l.length : Nat)) ∧ MP P a (pmarks l.length k0) w' ∧ OutP P w w' := by
  rcases h with rfl | ⟨R, h1, rfl, hr⟩
  · exact (markPaperS_none a cap k0 w).mono fun e w' ⟨he, hb⟩ => ⟨he, Or.inl rfl, by subst hb; exact OutP.refl _ _⟩
  · exact (markPaperS_row R cap k0 l w hn k1 k2 hr).mono fun e w' ⟨he, hrow, hb⟩ => ⟨he, Or.inr ⟨R, h1, rfl, hrow⟩, OutP.but hb h1⟩
set_option maxHeartbeats 2000000 in
theorem heldPaperS_row (a : Option Addr) (cap k0 n : Nat) (w : World) (hn : n ≤ 1048576) (k1 : 1 ≤ k0) (k2 : k0 ≤ 2305843009213693952) (hR : Ps w.heap.size a (pmarks n k0) w) :
    Calls Try.prog 45 #[.slice a n cap, .int .i64 k0] w fun e w' => e = .returned (.int .i64 (k0 + 4 * n : Nat)) ∧ Below w.heap.size w w' := by
  have HR := hid hR
  clear hR
  have hml := pmarks_len n k0
  go_enter Try.func45, Try.ntmps45
  go_wp2
  go_loopw [1, 5] (fun t i wr => ∃ j : Nat, j ≤ n ∧ i = .int .i64 j ∧ t = .int .i64 (k0 + 4 * j : Nat) ∧ Below w.heap.size w wr) (fun _ i _ => n - (intOf i).toNat)
  case atStart => exact ⟨0, Nat.zero_le _, rfl, rfl, Below.refl _ _⟩
  case round =>
    obtain ⟨j, hj, rfl, rfl, hbel⟩ := hrel
    have HBEL := hid hbel
    by_cases hlt : j < n
    · obtain ⟨b, o, rfl, hb, hc⟩ := HR.out.cell (by omega)
      obtain ⟨x0, x1, x2, x3⟩ := hc j (by omega)
      have hb' : ∀ o, wr.cell? ⟨b, o, none⟩ = w.cell? ⟨b, o, none⟩ := fun o => hbel.cell (p := ⟨b, o, none⟩) hb
      rw [pmarks_at, ← hb'] at x0 x1 x2 x3
      generalize hk : k0 + 4 * j = kk at *
      have hkb : kk ≤ 2305843009217888256 := by omega
      have HKK := hid hk
      clear hk hc hb' hbel hml
      unfold mpp at x0 x1 x2 x3
      simp only at x0 x1 x2 x3
      go_wp2_with fail
      go_roundw
      case rel => exact ⟨j + 1, by omega, by go_num, val_iN (by have := HKK.out; omega), HBEL.out⟩
      case measure => simp [intOf]; omega
    · obtain rfl : j = n := by omega
      clear hbel
      go_wp2
      go_ret
      exact ⟨rfl, HBEL.out⟩
end Go.Proofs.Ytikmkkklgdkpaaa
