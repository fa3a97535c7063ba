/- Works in memory: measured. -/
import Derived.Test.YtgompioaknfjgabUwP
namespace Go.Proofs.Ytgompioaknfjgab
set_option maxRecDepth 100000
open Go Go.ChangeShapes Go.WideShapes Go.ChangeAt Go.RowKit
structure Uw where
  cl : List Int
  dk : List Int
  lg : List Nt
  sr : Int
  op : List Int
structure UwA where
  c : Option Addr
  kc : Nat
  d : Option Addr
  kd : Nat
  l : Option Addr
  kl : Nat
  o : Option Addr
  ko : Nat
def Uwzero : Uw := ⟨[], [], [], 0, []⟩
def UwnoA : UwA := ⟨none, 0, none, 0, none, 0, none, 0⟩
structure UwR (B : Nat) (A : UwA) (X : Uw) (w : World) : Prop where
  c : Is B A.c X.cl w
  d : Is B A.d X.dk w
  l : Nts B A.l X.lg w
  o : Is B A.o X.op w
theorem UwR.below {B : Nat} {A : UwA} {X : Uw} {w w' : World} (h : UwR B A X w) (g : Below B w w') : UwR B A X w' := ⟨h.c.below g, h.d.below g, h.l.below g, h.o.below g⟩
theorem UwR.mono {B B' : Nat} {A : UwA} {X : Uw} {w : World} (h : UwR B A X w) (g : B ≤ B') : UwR B' A X w := ⟨h.c.mono g, h.d.mono g, h.l.mono g, h.o.mono g⟩
theorem UwR.up {B : Nat} {A : UwA} {X : Uw} {w w' : World} (h : UwR B A X w) (g : Below B w w') (hB : B ≤ w'.heap.size) : UwR w'.heap.size A X w' := (h.below g).mono hB
theorem kbox {w : World} {X : Nat} {o : Obj} (h : w.heap[X]? = some o) : X < w.heap.size := by
  rcases Nat.lt_or_ge X w.heap.size with h' | h'
  · exact h'
  · rw [Array.getElem?_eq_none h'] at h; cases h
structure UwCnt (X : Uw) : Prop where
  nc : X.cl.length ≤ 9223372036854775807
  nd : X.dk.length ≤ 9223372036854775807
  nl : X.lg.length ≤ 9223372036854775807
  no : X.op.length ≤ 9223372036854775807
structure UwFit (X : Uw) : Prop where
  c : X.cl.length ≤ 1048576
  d : X.dk.length ≤ 1048576
  l : X.lg.length ≤ 1048576
  o : X.op.length ≤ 1048576
set_option maxHeartbeats 4000000 in
theorem szWorks_any (A : UwA) (X : Uw) (w : World) (hc : UwCnt X) (h : UwR w.heap.size A X w) :
    Calls Try.prog 4 #[.agg #[.slice A.c X.cl.length A.kc, .slice A.d X.dk.length A.kd, .slice A.l X.lg.length A.kl, .int .i64 X.sr, .slice A.o X.op.length A.ko], .int .i64 1048576] w fun e w' => (∃ r : Int, e = .returned (.int .i64 r) ∧ (0 ≤ r → UwFit X)) ∧ Below w.heap.size w w' := by
  have HB0 := hid (boxB w (.cells #[.slice A.c X.cl.length A.kc, .slice A.d X.dk.length A.kd, .slice A.l X.lg.length A.kl, .int .i64 X.sr, .slice A.o X.op.length A.ko] 25))
  have HK0 : Hid ((w.alloc (.cells #[.slice A.c X.cl.length A.kc, .slice A.d X.dk.length A.kd, .slice A.l X.lg.length A.kl, .int .i64 X.sr, .slice A.o X.op.length A.ko] 25)).heap[w.heap.size]? = some (.cells #[.slice A.c X.cl.length A.kc, .slice A.d X.dk.length A.kd, .slice A.l X.lg.length A.kl, .int .i64 X.sr, .slice A.o X.op.length A.ko] 25)) := heap_last _ _
  have HCN := hid hc
  have HZ : Hid (∀ v, Below w.heap.size w v → UwR v.heap.size A X v) := fun v g => (h.below g).mono g.size
  clear h hc
  go_enter Try.func4, Try.ntmps4
  go_wp2_with fail
  generalize w.alloc (.cells #[.slice A.c X.cl.length A.kc, .slice A.d X.dk.length A.kd, .slice A.l X.lg.length A.kl, .int .i64 X.sr, .slice A.o X.op.length A.ko] 25) = w0 at *
  refine (szIntS_any A.c A.kc X.cl.length 1048576 w0 (by decide) (by decide) HCN.out.nc).mono ?_
  rintro e w1 ⟨⟨r1, rfl, q1, q2, hq⟩, b⟩
  have hle1 : r1 ≤ 1048576 := q1
  have HQ1 : Hid (0 ≤ r1 → X.cl.length ≤ 1048576) := hq
  have HB1 : Hid (Below w.heap.size w w1) := HB0.out.trans ((show Below w0.heap.size w0 w1 from by rw [b]; exact Below.refl _ _).mono HB0.out.size)
  have HK1 : Hid (w1.heap[w.heap.size]? = some (.cells #[.slice A.c X.cl.length A.kc, .slice A.d X.dk.length A.kd, .slice A.l X.lg.length A.kl, .int .i64 X.sr, .slice A.o X.op.length A.ko] 25)) := ((show Below w0.heap.size w0 w1 from by rw [b]; exact Below.refl _ _).block _ (kbox HK0.out)).trans HK0.out
  clear b hq HB0 HK0 q2 q1
  by_cases p1 : 0 ≤ r1
  case neg =>
    have hd : decide (r1 < 0) = true := decide_eq_true (by omega)
    go_wp2_with fail
    go_ret
    exact ⟨⟨-1, rfl, fun h => by omega⟩, HB1.out⟩
  have hd1 : decide (r1 < 0) = false := decide_eq_false (by omega)
  have x1 : w1.cell? ⟨w.heap.size, 1, none⟩ = some (.slice A.d X.dk.length A.kd) := box_cell HK1.out 1
  go_wp2_with fail
  refine (szIntS_any A.d A.kd X.dk.length r1 w1 p1 hle1 HCN.out.nd).mono ?_
  rintro e w2 ⟨⟨r2, rfl, q1, q2, hq⟩, b⟩
  have hle2 : r2 ≤ 1048576 := q1
  have HQ2 : Hid (0 ≤ r2 → X.dk.length ≤ 1048576) := hq
  have HB2 : Hid (Below w.heap.size w w2) := HB1.out.trans ((show Below w1.heap.size w1 w2 from by rw [b]; exact Below.refl _ _).mono HB1.out.size)
  have HK2 : Hid (w2.heap[w.heap.size]? = some (.cells #[.slice A.c X.cl.length A.kc, .slice A.d X.dk.length A.kd, .slice A.l X.lg.length A.kl, .int .i64 X.sr, .slice A.o X.op.length A.ko] 25)) := ((show Below w1.heap.size w1 w2 from by rw [b]; exact Below.refl _ _).block _ (kbox HK1.out)).trans HK1.out
  clear b hq HB1 HK1 q2 x1 q1
  by_cases p2 : 0 ≤ r2
  case neg =>
    have hd : decide (r2 < 0) = true := decide_eq_true (by omega)
    go_wp2_with fail
    go_ret
    exact ⟨⟨-1, rfl, fun h => by omega⟩, HB2.out⟩
  have hd2 : decide (r2 < 0) = false := decide_eq_false (by omega)
  have x2 : w2.cell? ⟨w.heap.size, 2, none⟩ = some (.slice A.l X.lg.length A.kl) := box_cell HK2.out 2
  go_wp2_with fail
  refine (szNoteS_any A.l A.kl X.lg.length r2 w2 p2 hle2 HCN.out.nl).mono ?_
  rintro e w3 ⟨⟨r3, rfl, q1, q2, hq⟩, b⟩
  have hle3 : r3 ≤ 1048576 := q1
  have HQ3 : Hid (0 ≤ r3 → X.lg.length ≤ 1048576) := hq
  have HB3 : Hid (Below w.heap.size w w3) := HB2.out.trans ((show Below w2.heap.size w2 w3 from by rw [b]; exact Below.refl _ _).mono HB2.out.size)
  have HK3 : Hid (w3.heap[w.heap.size]? = some (.cells #[.slice A.c X.cl.length A.kc, .slice A.d X.dk.length A.kd, .slice A.l X.lg.length A.kl, .int .i64 X.sr, .slice A.o X.op.length A.ko] 25)) := ((show Below w2.heap.size w2 w3 from by rw [b]; exact Below.refl _ _).block _ (kbox HK2.out)).trans HK2.out
  clear b hq HB2 HK2 q2 x2 q1
  by_cases p3 : 0 ≤ r3
  case neg =>
    have hd : decide (r3 < 0) = true := decide_eq_true (by omega)
    go_wp2_with fail
    go_ret
    exact ⟨⟨-1, rfl, fun h => by omega⟩, HB3.out⟩
  have hd3 : decide (r3 < 0) = false := decide_eq_false (by omega)
  have x3 : w3.cell? ⟨w.heap.size, 4, none⟩ = some (.slice A.o X.op.length A.ko) := box_cell HK3.out 4
  go_wp2_with fail
  refine (szIntS_any A.o A.ko X.op.length r3 w3 p3 hle3 HCN.out.no).mono ?_
  rintro e w4 ⟨⟨r4, rfl, q1, q2, hq⟩, b⟩
  have hle4 : r4 ≤ 1048576 := q1
  have HQ4 : Hid (0 ≤ r4 → X.op.length ≤ 1048576) := hq
  have HB4 : Hid (Below w.heap.size w w4) := HB3.out.trans ((show Below w3.heap.size w3 w4 from by rw [b]; exact Below.refl _ _).mono HB3.out.size)
  have HK4 : Hid (w4.heap[w.heap.size]? = some (.cells #[.slice A.c X.cl.length A.kc, .slice A.d X.dk.length A.kd, .slice A.l X.lg.length A.kl, .int .i64 X.sr, .slice A.o X.op.length A.ko] 25)) := ((show Below w3.heap.size w3 w4 from by rw [b]; exact Below.refl _ _).block _ (kbox HK3.out)).trans HK3.out
  clear b hq HB3 HK3 q2 x3 q1
  by_cases p4 : 0 ≤ r4
  case neg =>
    have hd : decide (r4 < 0) = true := decide_eq_true (by omega)
    go_wp2_with fail
    go_ret
    exact ⟨⟨-1, rfl, fun h => by omega⟩, HB4.out⟩
  have hd4 : decide (r4 < 0) = false := decide_eq_false (by omega)
  go_wp2_with fail
  go_ret
  exact ⟨⟨_, rfl, fun _ => ⟨HQ1.out p1, HQ2.out p2, HQ3.out p3, HQ4.out p4⟩⟩, HB4.out⟩
theorem Uwbox {w : World} {Q : Nat} {a0 a1 a2 a3 a4 : Value} {t : TypeId} (h : w.heap[Q]? = some (.cells #[a0, a1, a2, a3, a4] t)) : (w.cell? ⟨Q, 0, none⟩ = some (a0) ∧ w.cell? ⟨Q, 1, none⟩ = some (a1) ∧ w.cell? ⟨Q, 2, none⟩ = some (a2) ∧ w.cell? ⟨Q, 3, none⟩ = some (a3) ∧ w.cell? ⟨Q, 4, none⟩ = some (a4)) ∧ w.frozen? ⟨Q, 0, none⟩ = false ∧ w.frozen? ⟨Q, 1, none⟩ = false ∧ w.frozen? ⟨Q, 2, none⟩ = false ∧ w.frozen? ⟨Q, 3, none⟩ = false ∧ w.frozen? ⟨Q, 4, none⟩ = false := ⟨⟨box_cell h 0, box_cell h 1, box_cell h 2, box_cell h 3, box_cell h 4⟩, box_free h 0, box_free h 1, box_free h 2, box_free h 3, box_free h 4⟩
theorem Uwfill {w : World} {Q : Nat} {a0 a1 a2 a3 a4 : Value} {t : TypeId} (h : w.heap[Q]? = some (.cells #[a0, a1, a2, a3, a4] t)) (b0 b1 b2 b3 b4 : Value) : (((((w.setCell ⟨Q, 0, none⟩ (b0)).setCell ⟨Q, 1, none⟩ (b1)).setCell ⟨Q, 2, none⟩ (b2)).setCell ⟨Q, 3, none⟩ (b3)).setCell ⟨Q, 4, none⟩ (b4)).heap[Q]? = some (.cells #[b0, b1, b2, b3, b4] t) := by
  have := (box_set (box_set (box_set (box_set (box_set h 0 b0) 1 b1) 2 b2) 3 b3) 4 b4)
  simpa using this
theorem Uwfill_below {B Q : Nat} {a w : World} (h : Below B a w) (hQ : B ≤ Q) (b0 b1 b2 b3 b4 : Value) : Below B a (((((w.setCell ⟨Q, 0, none⟩ (b0)).setCell ⟨Q, 1, none⟩ (b1)).setCell ⟨Q, 2, none⟩ (b2)).setCell ⟨Q, 3, none⟩ (b3)).setCell ⟨Q, 4, none⟩ (b4)) := (setB (setB (setB (setB (setB h _ _ hQ _) _ _ hQ _) _ _ hQ _) _ _ hQ _) _ _ hQ _)
theorem Uwfill_out (w : World) (Q : Nat) (b0 b1 b2 b3 b4 : Value) : Out Q (Q + 1) w (((((w.setCell ⟨Q, 0, none⟩ (b0)).setCell ⟨Q, 1, none⟩ (b1)).setCell ⟨Q, 2, none⟩ (b2)).setCell ⟨Q, 3, none⟩ (b3)).setCell ⟨Q, 4, none⟩ (b4)) := Out.ofBut ((((((But.refl Q w).setCell _ _).setCell _ _).setCell _ _).setCell _ _).setCell _ _) (Nat.le_refl _) (Nat.lt_succ_self _)
structure UwTW (w : World) (U Z Y : Array Value) (wr : World) : Prop where
  below : Below w.heap.size w wr
  x : wr.heap[w.heap.size]? = some (.cells U 25)
  z : wr.heap[w.heap.size + 1]? = some (.cells Z 31)
  y : wr.heap[w.heap.size + 1 + 1]? = some (.cells Y 31)
theorem UwTW.size {w : World} {U Z Y : Array Value} {wr : World} (h : UwTW w U Z Y wr) : w.heap.size + 3 ≤ wr.heap.size := by
  have := kbox h.y
  omega
theorem UwTW.on {w : World} {U Z Y : Array Value} {wr w' : World} (h : UwTW w U Z Y wr) (g : Below wr.heap.size wr w') : UwTW w U Z Y w' := by
  have hs := h.size
  exact ⟨h.below.trans (g.mono (by omega)), (g.block _ (by omega)).trans h.x, (g.block _ (by omega)).trans h.z, (g.block _ (by omega)).trans h.y⟩
theorem UwTW.setY {w : World} {U Z Y : Array Value} {wr : World} (h : UwTW w U Z Y wr) (i : Nat) (u : Value) : UwTW w U Z (Y.setIfInBounds i u) (wr.setCell ⟨w.heap.size + 1 + 1, i, none⟩ u) :=
  ⟨setB h.below _ _ (by omega) _, (keepB _ _ _ _ _ (by omega)).trans h.x, (keepB _ _ _ _ _ (by omega)).trans h.z, box_set h.y i u⟩
theorem UwTW.start (w : World) (U : Array Value) : UwTW w U #[.slice none 0 0, .slice none 0 0, .slice none 0 0, .int .i64 0, .slice none 0 0] #[.slice none 0 0, .slice none 0 0, .slice none 0 0, .int .i64 0, .slice none 0 0] (((w.alloc (.cells U 25)).alloc (.cells #[.slice none 0 0, .slice none 0 0, .slice none 0 0, .int .i64 0, .slice none 0 0] 31)).alloc (.cells #[.slice none 0 0, .slice none 0 0, .slice none 0 0, .int .i64 0, .slice none 0 0] 31)) := by
  refine ⟨(((Below.refl _ _).alloc (Nat.le_refl _) _).alloc (by simp) _).alloc (by simp; omega) _, ?_, ?_, heap_last3 _ _ _ _⟩
  · rw [Below.heap_alloc _ _ _ (by simp; omega), Below.heap_alloc _ _ _ (by simp)]
    exact heap_last _ _
  · rw [Below.heap_alloc _ _ _ (by simp)]
    exact heap_last2 _ _ _
end Go.Proofs.Ytgompioaknfjgab
