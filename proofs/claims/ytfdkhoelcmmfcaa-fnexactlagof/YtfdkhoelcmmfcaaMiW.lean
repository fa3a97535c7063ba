/- Mirror in memory: measured. -/
import Derived.Test.YtfdkhoelcmmfcaaKSz2
import Derived.Test.YtfdkhoelcmmfcaaHA
namespace Go.Proofs.Ytfdkhoelcmmfcaa
set_option maxRecDepth 100000
open Go Go.ChangeShapes Go.WideShapes Go.ChangeAt Go.RowKit
structure Mi where
  S : List Ly
  R : List Ly
  st : List Int
  dt : List ByteArray
  tx : Int
  he : Int
structure MiA where
  s : Option Addr
  ks : Nat
  r : Option Addr
  kr : Nat
  t : Option Addr
  kt : Nat
  d : Option Addr
  kd : Nat
def Mizero : Mi := ⟨[], [], [], [], 0, 0⟩
def MinoA : MiA := ⟨none, 0, none, 0, none, 0, none, 0⟩
structure MiR (B : Nat) (A : MiA) (X : Mi) (w : World) : Prop where
  s : Ys B A.s X.S w
  r : Ys B A.r X.R w
  t : Is B A.t X.st w
  d : Ss B A.d X.dt w
theorem MiR.below {B : Nat} {A : MiA} {X : Mi} {w w' : World} (h : MiR B A X w) (g : Below B w w') : MiR B A X w' := ⟨h.s.below g, h.r.below g, h.t.below g, h.d.below g⟩
theorem MiR.mono {B B' : Nat} {A : MiA} {X : Mi} {w : World} (h : MiR B A X w) (g : B ≤ B') : MiR B' A X w := ⟨h.s.mono g, h.r.mono g, h.t.mono g, h.d.mono g⟩
theorem MiR.up {B : Nat} {A : MiA} {X : Mi} {w w' : World} (h : MiR B A X w) (g : Below B w w') (hB : B ≤ w'.heap.size) : MiR w'.heap.size A X w' := (h.below g).mono hB
theorem to_ownS (a : Option Addr) (cap : Nat) (l : List ByteArray) (w : World) (hn : l.length ≤ 1048576) (hI : Ss w.heap.size a l w) :
    Calls Try.prog 42 #[.slice a l.length cap] w fun e w' => ∃ b c, e = .returned (.slice b l.length c) ∧ OwnS w.heap.size w'.heap.size b l w' ∧ Below w.heap.size w w' :=
  (toStringS_any a cap l w hn hI).mono fun _ _ ⟨he, hr, hb⟩ => ⟨_, _, he, Or.inr ⟨_, Nat.le_refl _, hr.lt, rfl, hr⟩, hb⟩
theorem kbox {w : World} {X : Nat} {o : Obj} (h : w.heap[X]? = some o) : X < w.heap.size := (Array.getElem?_eq_some_iff.1 h).1
structure MiCnt (X : Mi) : Prop where
  ns : X.S.length ≤ 9223372036854775807
  zs : ∀ s ∈ X.S, cntY s
  nr : X.R.length ≤ 9223372036854775807
  zr : ∀ s ∈ X.R, cntY s
  nt : X.st.length ≤ 9223372036854775807
  nd : X.dt.length ≤ 9223372036854775807
  zd : ∀ s ∈ X.dt, s.size ≤ 9223372036854775807
structure MiFit (X : Mi) : Prop where
  s : FitK X.S
  r : FitK X.R
  t : X.st.length ≤ 1048576
  d : X.dt.length ≤ 1048576
set_option maxHeartbeats 4000000 in
theorem szMirror_any (A : MiA) (X : Mi) (w : World) (hc : MiCnt X) (h : MiR w.heap.size A X w) :
    Calls Try.prog 12 #[.agg #[.slice A.s X.S.length A.ks, .slice A.r X.R.length A.kr, .slice A.t X.st.length A.kt, .slice A.d X.dt.length A.kd, .int .i64 X.tx, .int .i64 X.he], .int .i64 1048576] w fun e w' => (∃ r : Int, e = .returned (.int .i64 r) ∧ (0 ≤ r → MiFit X)) ∧ Below w.heap.size w w' := by
  have HB0 := hid (boxB w (.cells #[.slice A.s X.S.length A.ks, .slice A.r X.R.length A.kr, .slice A.t X.st.length A.kt, .slice A.d X.dt.length A.kd, .int .i64 X.tx, .int .i64 X.he] 37))
  have HK0 : Hid ((w.alloc (.cells #[.slice A.s X.S.length A.ks, .slice A.r X.R.length A.kr, .slice A.t X.st.length A.kt, .slice A.d X.dt.length A.kd, .int .i64 X.tx, .int .i64 X.he] 37)).heap[w.heap.size]? = some (.cells #[.slice A.s X.S.length A.ks, .slice A.r X.R.length A.kr, .slice A.t X.st.length A.kt, .slice A.d X.dt.length A.kd, .int .i64 X.tx, .int .i64 X.he] 37)) := heap_last _ _
  have HCN := hid hc
  have HZ : Hid (∀ v, Below w.heap.size w v → MiR v.heap.size A X v) := fun v g => (h.below g).mono g.size
  clear h hc
  go_enter Try.func12, Try.ntmps12
  have x0 : (w.alloc (.cells #[.slice A.s X.S.length A.ks, .slice A.r X.R.length A.kr, .slice A.t X.st.length A.kt, .slice A.d X.dt.length A.kd, .int .i64 X.tx, .int .i64 X.he] 37)).cell? ⟨w.heap.size, 0, none⟩ = some (.slice A.s X.S.length A.ks) := box_cell HK0.out 0
  go_wp2_with fail
  clear x0
  generalize w.alloc (.cells #[.slice A.s X.S.length A.ks, .slice A.r X.R.length A.kr, .slice A.t X.st.length A.kt, .slice A.d X.dt.length A.kd, .int .i64 X.tx, .int .i64 X.he] 37) = w0 at *
  refine (szMarks_g A.s A.ks X.S 1048576 w0 (by decide) (by decide) HCN.out.ns HCN.out.zs (HZ.out _ HB0.out).s).mono ?_
  rintro e w1 ⟨⟨r1, rfl, q1, hq⟩, b⟩
  have HQ1 : Hid (0 ≤ r1 → FitK X.S) := hq
  have HB1 : Hid (Below w.heap.size w w1) := HB0.out.trans (b.mono HB0.out.size)
  have hle1 : r1 ≤ 1048576 := q1
  have HK1 : Hid (w1.heap[w.heap.size]? = some (.cells #[.slice A.s X.S.length A.ks, .slice A.r X.R.length A.kr, .slice A.t X.st.length A.kt, .slice A.d X.dt.length A.kd, .int .i64 X.tx, .int .i64 X.he] 37)) := (b.block _ (kbox HK0.out)).trans HK0.out
  clear b hq q1 HB0 HK0
  by_cases p1 : 0 ≤ r1
  case neg =>
    have hd : decide (r1 < 0) = true := decide_eq_true (by omega)
    go_wp2_with fail
    go_ret
    exact ⟨⟨-1, rfl, fun h => by omega⟩, HB1.out⟩
  have hd1 : decide (r1 < 0) = false := decide_eq_false (by omega)
  have x1 : w1.cell? ⟨w.heap.size, 1, none⟩ = some (.slice A.r X.R.length A.kr) := box_cell HK1.out 1
  go_wp2_with fail
  refine (szMarks_g A.r A.kr X.R r1 w1 p1 hle1 HCN.out.nr HCN.out.zr (HZ.out _ HB1.out).r).mono ?_
  rintro e w2 ⟨⟨r2, rfl, q1, hq⟩, b⟩
  have HQ2 : Hid (0 ≤ r2 → FitK X.R) := hq
  have HB2 : Hid (Below w.heap.size w w2) := HB1.out.trans (b.mono HB1.out.size)
  have hle2 : r2 ≤ 1048576 := Int.le_trans q1 hle1
  have HK2 : Hid (w2.heap[w.heap.size]? = some (.cells #[.slice A.s X.S.length A.ks, .slice A.r X.R.length A.kr, .slice A.t X.st.length A.kt, .slice A.d X.dt.length A.kd, .int .i64 X.tx, .int .i64 X.he] 37)) := (b.block _ (kbox HK1.out)).trans HK1.out
  clear b hq q1 HB1 HK1 x1
  by_cases p2 : 0 ≤ r2
  case neg =>
    have hd : decide (r2 < 0) = true := decide_eq_true (by omega)
    go_wp2_with fail
    go_ret
    exact ⟨⟨-1, rfl, fun h => by omega⟩, HB2.out⟩
  have hd2 : decide (r2 < 0) = false := decide_eq_false (by omega)
  have x2 : w2.cell? ⟨w.heap.size, 2, none⟩ = some (.slice A.t X.st.length A.kt) := box_cell HK2.out 2
  go_wp2_with fail
  refine (szIntS_l A.t A.kt X.st.length r2 w2 p2 hle2 HCN.out.nt).mono ?_
  rintro e w3 ⟨⟨r3, rfl, q1, q2, hq⟩, hb⟩
  have HQ3 : Hid (0 ≤ r3 → X.st.length ≤ 1048576) := fun h => by have := hq h; omega
  have b : Below w2.heap.size w2 w3 := by rw [hb]; exact Below.refl _ _
  clear hb
  have HB3 : Hid (Below w.heap.size w w3) := HB2.out.trans (b.mono HB2.out.size)
  have hle3 : r3 ≤ 1048576 := Int.le_trans q1 hle2
  have HK3 : Hid (w3.heap[w.heap.size]? = some (.cells #[.slice A.s X.S.length A.ks, .slice A.r X.R.length A.kr, .slice A.t X.st.length A.kt, .slice A.d X.dt.length A.kd, .int .i64 X.tx, .int .i64 X.he] 37)) := (b.block _ (kbox HK2.out)).trans HK2.out
  clear b hq q1 HB2 HK2 q2 x2
  by_cases p3 : 0 ≤ r3
  case neg =>
    have hd : decide (r3 < 0) = true := decide_eq_true (by omega)
    go_wp2_with fail
    go_ret
    exact ⟨⟨-1, rfl, fun h => by omega⟩, HB3.out⟩
  have hd3 : decide (r3 < 0) = false := decide_eq_false (by omega)
  have x3 : w3.cell? ⟨w.heap.size, 3, none⟩ = some (.slice A.d X.dt.length A.kd) := box_cell HK3.out 3
  go_wp2_with fail
  refine (szStringS_l A.d A.kd X.dt r3 w3 p3 hle3 HCN.out.zd HCN.out.nd (HZ.out _ HB3.out).d).mono ?_
  rintro e w4 ⟨⟨r4, rfl, q1, q2, hq⟩, hb⟩
  have HQ4 : Hid (0 ≤ r4 → X.dt.length ≤ 1048576) := fun h => by have := hq h; omega
  have b : Below w3.heap.size w3 w4 := by rw [hb]; exact Below.refl _ _
  clear hb
  have HB4 : Hid (Below w.heap.size w w4) := HB3.out.trans (b.mono HB3.out.size)
  have hle4 : r4 ≤ 1048576 := Int.le_trans q1 hle3
  have HK4 : Hid (w4.heap[w.heap.size]? = some (.cells #[.slice A.s X.S.length A.ks, .slice A.r X.R.length A.kr, .slice A.t X.st.length A.kt, .slice A.d X.dt.length A.kd, .int .i64 X.tx, .int .i64 X.he] 37)) := (b.block _ (kbox HK3.out)).trans HK3.out
  clear b hq q1 HB3 HK3 q2 x3
  by_cases p4 : 0 ≤ r4
  case neg =>
    have hd : decide (r4 < 0) = true := decide_eq_true (by omega)
    go_wp2_with fail
    go_ret
    exact ⟨⟨-1, rfl, fun h => by omega⟩, HB4.out⟩
  have hd4 : decide (r4 < 0) = false := decide_eq_false (by omega)
  go_wp2_with fail
  go_ret
  exact ⟨⟨_, rfl, fun _ => ⟨HQ1.out p1, HQ2.out p2, HQ3.out p3, HQ4.out p4⟩⟩, HB4.out⟩
theorem Mibox {w : World} {Q : Nat} {a0 a1 a2 a3 a4 a5 : Value} {t : TypeId} (h : w.heap[Q]? = some (.cells #[a0, a1, a2, a3, a4, a5] t)) : (w.cell? ⟨Q, 0, none⟩ = some (a0) ∧ w.cell? ⟨Q, 1, none⟩ = some (a1) ∧ w.cell? ⟨Q, 2, none⟩ = some (a2) ∧ w.cell? ⟨Q, 3, none⟩ = some (a3) ∧ w.cell? ⟨Q, 4, none⟩ = some (a4) ∧ w.cell? ⟨Q, 5, none⟩ = some (a5)) ∧ w.frozen? ⟨Q, 0, none⟩ = false ∧ w.frozen? ⟨Q, 1, none⟩ = false ∧ w.frozen? ⟨Q, 2, none⟩ = false ∧ w.frozen? ⟨Q, 3, none⟩ = false ∧ w.frozen? ⟨Q, 4, none⟩ = false ∧ w.frozen? ⟨Q, 5, none⟩ = false := ⟨⟨box_cell h 0, box_cell h 1, box_cell h 2, box_cell h 3, box_cell h 4, box_cell h 5⟩, box_free h 0, box_free h 1, box_free h 2, box_free h 3, box_free h 4, box_free h 5⟩
theorem Mifill {w : World} {Q : Nat} {a0 a1 a2 a3 a4 a5 : Value} {t : TypeId} (h : w.heap[Q]? = some (.cells #[a0, a1, a2, a3, a4, a5] t)) (b0 b1 b2 b3 b4 b5 : Value) : ((((((w.setCell ⟨Q, 0, none⟩ (b0)).setCell ⟨Q, 1, none⟩ (b1)).setCell ⟨Q, 2, none⟩ (b2)).setCell ⟨Q, 3, none⟩ (b3)).setCell ⟨Q, 4, none⟩ (b4)).setCell ⟨Q, 5, none⟩ (b5)).heap[Q]? = some (.cells #[b0, b1, b2, b3, b4, b5] t) := by
  have := (box_set (box_set (box_set (box_set (box_set (box_set h 0 b0) 1 b1) 2 b2) 3 b3) 4 b4) 5 b5)
  simpa using this
theorem Mifill_below {B Q : Nat} {a w : World} (h : Below B a w) (hQ : B ≤ Q) (b0 b1 b2 b3 b4 b5 : Value) : Below B a ((((((w.setCell ⟨Q, 0, none⟩ (b0)).setCell ⟨Q, 1, none⟩ (b1)).setCell ⟨Q, 2, none⟩ (b2)).setCell ⟨Q, 3, none⟩ (b3)).setCell ⟨Q, 4, none⟩ (b4)).setCell ⟨Q, 5, none⟩ (b5)) := (setB (setB (setB (setB (setB (setB h _ _ hQ _) _ _ hQ _) _ _ hQ _) _ _ hQ _) _ _ hQ _) _ _ hQ _)
theorem Mifill_out (w : World) (Q : Nat) (b0 b1 b2 b3 b4 b5 : Value) : Out Q (Q + 1) w ((((((w.setCell ⟨Q, 0, none⟩ (b0)).setCell ⟨Q, 1, none⟩ (b1)).setCell ⟨Q, 2, none⟩ (b2)).setCell ⟨Q, 3, none⟩ (b3)).setCell ⟨Q, 4, none⟩ (b4)).setCell ⟨Q, 5, none⟩ (b5)) := Out.ofBut (((((((But.refl Q w).setCell _ _).setCell _ _).setCell _ _).setCell _ _).setCell _ _).setCell _ _) (Nat.le_refl _) (Nat.lt_succ_self _)
structure MiTW (w : World) (U Z Y : Array Value) (wr : World) : Prop where
  below : Below w.heap.size w wr
  x : wr.heap[w.heap.size]? = some (.cells U 37)
  z : wr.heap[w.heap.size + 1]? = some (.cells Z 28)
  y : wr.heap[w.heap.size + 1 + 1]? = some (.cells Y 28)
theorem MiTW.size {w : World} {U Z Y : Array Value} {wr : World} (h : MiTW w U Z Y wr) : w.heap.size + 3 ≤ wr.heap.size := by
  have := kbox h.y
  omega
theorem MiTW.on {w : World} {U Z Y : Array Value} {wr w' : World} (h : MiTW w U Z Y wr) (g : Below wr.heap.size wr w') : MiTW w U Z Y w' := by
  have hs := h.size
  exact ⟨h.below.trans (g.mono (by omega)), (g.block _ (by omega)).trans h.x, (g.block _ (by omega)).trans h.z, (g.block _ (by omega)).trans h.y⟩
theorem MiTW.setY {w : World} {U Z Y : Array Value} {wr : World} (h : MiTW w U Z Y wr) (i : Nat) (u : Value) : MiTW w U Z (Y.setIfInBounds i u) (wr.setCell ⟨w.heap.size + 1 + 1, i, none⟩ u) :=
  ⟨setB h.below _ _ (by omega) _, (keepB _ _ _ _ _ (by omega)).trans h.x, (keepB _ _ _ _ _ (by omega)).trans h.z, box_set h.y i u⟩
theorem MiTW.start (w : World) (U : Array Value) : MiTW w U #[.slice none 0 0, .slice none 0 0, .slice none 0 0, .slice none 0 0, .int .i64 0, .int .i64 0] #[.slice none 0 0, .slice none 0 0, .slice none 0 0, .slice none 0 0, .int .i64 0, .int .i64 0] (((w.alloc (.cells U 37)).alloc (.cells #[.slice none 0 0, .slice none 0 0, .slice none 0 0, .slice none 0 0, .int .i64 0, .int .i64 0] 28)).alloc (.cells #[.slice none 0 0, .slice none 0 0, .slice none 0 0, .slice none 0 0, .int .i64 0, .int .i64 0] 28)) := by
  refine ⟨(((Below.refl _ _).alloc (Nat.le_refl _) _).alloc (by simp) _).alloc (by simp; omega) _, ?_, ?_, heap_last3 _ _ _ _⟩
  · rw [Below.heap_alloc _ _ _ (by simp; omega), Below.heap_alloc _ _ _ (by simp)]
    exact heap_last _ _
  · rw [Below.heap_alloc _ _ _ (by simp)]
    exact heap_last2 _ _ _
end Go.Proofs.Ytfdkhoelcmmfcaa
