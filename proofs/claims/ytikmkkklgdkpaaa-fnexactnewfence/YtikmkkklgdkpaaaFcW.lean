/- Fences in memory: measured. -/
import Derived.Test.YtikmkkklgdkpaaaFcPp
namespace Go.Proofs.Ytikmkkklgdkpaaa
set_option maxRecDepth 100000
open Go Go.ChangeShapes Go.WideShapes Go.ChangeAt Go.RowKit
/-- a fence -/
structure Fc where
  jd : List Int
  gv : List Int
  pl : List Int
  vt : List (List Int)
  wn : List (List Int)
  ln : List Pp
  sn : Int
  st : List (List Int)
/-- where a fence's lists lie, and their capacities -/
structure Af where
  j : Option Addr
  kj : Nat
  g : Option Addr
  kg : Nat
  p : Option Addr
  kp : Nat
  v : Option Addr
  kv : Nat
  n : Option Addr
  kn : Nat
  l : Option Addr
  kl : Nat
  s : Option Addr
  ks : Nat
def zeroFc : Fc := ⟨[], [], [], [], [], [], 0, []⟩
def noAf : Af := ⟨none, 0, none, 0, none, 0, none, 0, none, 0, none, 0, none, 0⟩
/-- a fence in memory below block B -/
structure FR (B : Nat) (A : Af) (X : Fc) (w : World) : Prop where
  j : Is B A.j X.jd w
  g : Is B A.g X.gv w
  p : Is B A.p X.pl w
  v : Js B A.v X.vt w
  n : Js B A.n X.wn w
  l : Ps B A.l X.ln w
  s : Js B A.s X.st w
theorem FR.below {B : Nat} {A : Af} {X : Fc} {w w' : World} (h : FR B A X w) (g : Below B w w') : FR B A X w' := ⟨h.j.below g, h.g.below g, h.p.below g, h.v.below g, h.n.below g, h.l.below g, h.s.below g⟩
theorem FR.mono {B B' : Nat} {A : Af} {X : Fc} {w : World} (h : FR B A X w) (g : B ≤ B') : FR B' A X w := ⟨h.j.mono g, h.g.mono g, h.p.mono g, h.v.mono g, h.n.mono g, h.l.mono g, h.s.mono g⟩
theorem FR.up {B : Nat} {A : Af} {X : Fc} {w w' : World} (h : FR B A X w) (g : Below B w w') (hB : B ≤ w'.heap.size) : FR w'.heap.size A X w' := (h.below g).mono hB
theorem kbox {w : World} {X : Nat} {o : Obj} (h : w.heap[X]? = some o) : X < w.heap.size := by
  rcases Nat.lt_or_ge X w.heap.size with h' | h'
  · exact h'
  · rw [Array.getElem?_eq_none h'] at h; cases h
/-- rows that are owned in blocks lo .. hi - 1 -/
def OwnR (lo hi : Nat) (a : Option Addr) (L : List (List Int)) (w : World) : Prop := ∃ R q c f, a = some ⟨R, 0, none⟩ ∧ RwOwn lo hi R q c f L w
theorem RwOwn.out {lo hi l2 h2 R : Nat} {q : Nat → Option Addr} {c f : Nat → Nat} {L : List (List Int)} {w w' : World} (h : RwOwn lo hi R q c f L w) (g : Out l2 h2 w w') (hd : hi ≤ l2 ∨ h2 ≤ lo) : RwOwn lo hi R q c f L w' := by
  have e0 := h.r0; have e1 := h.r1; have e2 := h.r2
  have hb := g.block R (by omega) (by omega)
  refine ⟨e0, e1, Nat.le_trans e2 g.size, fun i hi => (World.cell?_of_block (a := ⟨R, _, none⟩) hb).trans (h.cell i hi), fun j hj => (World.frozen?_of_block (a := ⟨R, _, none⟩) hb).trans (h.free j hj), fun i hi => ?_, h.apart⟩
  rcases h.own i hi with h0 | ⟨h3, h4, h5, h6, h7⟩
  · exact Or.inl h0
  · exact Or.inr ⟨h3, h4, h5, h6, h7.same g.size (g.block _ h7.lt (by omega))⟩
theorem OwnR.out {lo hi l2 h2 : Nat} {a : Option Addr} {L : List (List Int)} {w w' : World} (h : OwnR lo hi a L w) (g : Out l2 h2 w w') (hd : hi ≤ l2 ∨ h2 ≤ lo) : OwnR lo hi a L w' := by
  obtain ⟨R, q, c, f, e, h⟩ := h
  exact ⟨R, q, c, f, e, h.out g hd⟩
theorem OwnR.below {lo hi : Nat} {a : Option Addr} {L : List (List Int)} {w w' : World} (h : OwnR lo hi a L w) (g : Below w.heap.size w w') : OwnR lo hi a L w' := by
  obtain ⟨R, q, c, f, e, h⟩ := h
  exact ⟨R, q, c, f, e, h.on g⟩
theorem OwnR.js {lo hi : Nat} {a : Option Addr} {L : List (List Int)} {w : World} (h : OwnR lo hi a L w) : Js w.heap.size a L w := by
  obtain ⟨R, q, c, f, rfl, h⟩ := h
  exact h.vs
/-- papers that are owned in blocks lo .. hi - 1 -/
def OwnP (lo hi : Nat) (a : Option Addr) (l : List Pp) (w : World) : Prop := l = [] ∨ ∃ R, lo ≤ R ∧ R < hi ∧ a = some ⟨R, 0, none⟩ ∧ PRow R l w
theorem OwnP.out {lo hi l2 h2 : Nat} {a : Option Addr} {l : List Pp} {w w' : World} (h : OwnP lo hi a l w) (g : Out l2 h2 w w') (hd : hi ≤ l2 ∨ h2 ≤ lo) : OwnP lo hi a l w' := by
  rcases h with h | ⟨R, h1, h3, e, hr⟩
  · exact Or.inl h
  · exact Or.inr ⟨R, h1, h3, e, hr.same g.size (g.block R hr.lt (by omega))⟩
theorem OwnP.below {lo hi : Nat} {a : Option Addr} {l : List Pp} {w w' : World} (h : OwnP lo hi a l w) (g : Below w.heap.size w w') : OwnP lo hi a l w' := by
  rcases h with h | ⟨R, h1, h3, e, hr⟩
  · exact Or.inl h
  · exact Or.inr ⟨R, h1, h3, e, hr.below g⟩
theorem OwnP.ps {lo hi : Nat} {a : Option Addr} {l : List Pp} {w : World} (h : OwnP lo hi a l w) : Ps w.heap.size a l w := by
  rcases h with rfl | ⟨R, h1, h3, rfl, hr⟩
  · exact ⟨fun h0 => absurd h0 (by simp)⟩
  · exact hr.sl hr.lt
theorem to_ownR (a : Option Addr) (cap : Nat) (L : List (List Int)) (w : World) (hn : L.length ≤ 1048576) (hf : ∀ k (h : k < L.length), L[k].length ≤ 1048576) (hG : Js w.heap.size a L w) :
    Calls Try.prog 54 #[.slice a L.length cap] w fun e w' => ∃ b c, e = .returned (.slice b L.length c) ∧ OwnR w.heap.size w'.heap.size b L w' ∧ Below w.heap.size w w' :=
  (toIntSS_any a cap L w hn hf hG).mono fun _ _ ⟨he, ⟨q, c, f, h⟩, hb⟩ => ⟨_, _, he, ⟨_, q, c, f, rfl, h⟩, hb⟩
theorem to_ownP (a : Option Addr) (cap : Nat) (l : List Pp) (w : World) (hn : l.length ≤ 1048576) (hI : Ps w.heap.size a l w) :
    Calls Try.prog 55 #[.slice a l.length cap] w fun e w' => ∃ b c, e = .returned (.slice b l.length c) ∧ OwnP w.heap.size w'.heap.size b l w' ∧ Below w.heap.size w w' :=
  (toPaperS_any a cap l w hn hI).mono fun _ _ ⟨he, hr, hb⟩ => ⟨_, _, he, Or.inr ⟨_, Nat.le_refl _, hr.lt, rfl, hr⟩, hb⟩
/-- rows that a law takes -/
def FitR (L : List (List Int)) : Prop := L.length ≤ 1048576 ∧ ∀ k (h : k < L.length), L[k].length ≤ 1048576
/-- a fence whose lists a law can count -/
structure CntF (X : Fc) : Prop where
  nj : X.jd.length ≤ 9223372036854775807
  ng : X.gv.length ≤ 9223372036854775807
  np : X.pl.length ≤ 9223372036854775807
  nv : X.vt.length ≤ 9223372036854775807
  zv : ∀ s ∈ X.vt, s.length ≤ 9223372036854775807
  nn : X.wn.length ≤ 9223372036854775807
  zn : ∀ s ∈ X.wn, s.length ≤ 9223372036854775807
  nl : X.ln.length ≤ 9223372036854775807
  ns : X.st.length ≤ 9223372036854775807
  zs : ∀ s ∈ X.st, s.length ≤ 9223372036854775807
/-- a fence whose lists a law takes -/
structure FitF (X : Fc) : Prop where
  j : X.jd.length ≤ 1048576
  g : X.gv.length ≤ 1048576
  p : X.pl.length ≤ 1048576
  v : FitR X.vt
  n : FitR X.wn
  l : X.ln.length ≤ 1048576
  s : FitR X.st
set_option maxHeartbeats 4000000 in
theorem szFence_any (A : Af) (X : Fc) (w : World) (hc : CntF X) (h : FR w.heap.size A X w) :
    Calls Try.prog 14 #[.agg #[.slice A.j X.jd.length A.kj, .slice A.g X.gv.length A.kg, .slice A.p X.pl.length A.kp, .slice A.v X.vt.length A.kv, .slice A.n X.wn.length A.kn, .slice A.l X.ln.length A.kl, .int .i64 X.sn, .slice A.s X.st.length A.ks], .int .i64 1048576] w fun e w' => (∃ r : Int, e = .returned (.int .i64 r) ∧ (0 ≤ r → FitF X)) ∧ Below w.heap.size w w' := by
  have HB0 := hid (boxB w (.cells #[.slice A.j X.jd.length A.kj, .slice A.g X.gv.length A.kg, .slice A.p X.pl.length A.kp, .slice A.v X.vt.length A.kv, .slice A.n X.wn.length A.kn, .slice A.l X.ln.length A.kl, .int .i64 X.sn, .slice A.s X.st.length A.ks] 34))
  have HK0 : Hid ((w.alloc (.cells #[.slice A.j X.jd.length A.kj, .slice A.g X.gv.length A.kg, .slice A.p X.pl.length A.kp, .slice A.v X.vt.length A.kv, .slice A.n X.wn.length A.kn, .slice A.l X.ln.length A.kl, .int .i64 X.sn, .slice A.s X.st.length A.ks] 34)).heap[w.heap.size]? = some (.cells #[.slice A.j X.jd.length A.kj, .slice A.g X.gv.length A.kg, .slice A.p X.pl.length A.kp, .slice A.v X.vt.length A.kv, .slice A.n X.wn.length A.kn, .slice A.l X.ln.length A.kl, .int .i64 X.sn, .slice A.s X.st.length A.ks] 34)) := heap_last _ _
  have HCN := hid hc
  have HZ : Hid (∀ v, Below w.heap.size w v → FR v.heap.size A X v) := fun v g => (h.below g).mono g.size
  clear h hc
  go_enter Try.func14, Try.ntmps14
  go_wp2_with fail
  generalize w.alloc (.cells #[.slice A.j X.jd.length A.kj, .slice A.g X.gv.length A.kg, .slice A.p X.pl.length A.kp, .slice A.v X.vt.length A.kv, .slice A.n X.wn.length A.kn, .slice A.l X.ln.length A.kl, .int .i64 X.sn, .slice A.s X.st.length A.ks] 34) = w0 at *
  refine (szIntS_any A.j A.kj X.jd.length 1048576 w0 (by decide) (by decide) HCN.out.nj).mono ?_
  rintro e w1 ⟨⟨r1, rfl, q1, q2, hq⟩, b⟩
  have hle1 : r1 ≤ 1048576 := q1
  have HQ1 : Hid (0 ≤ r1 → X.jd.length ≤ 1048576) := hq
  have HB1 : Hid (Below w.heap.size w w1) := HB0.out.trans ((show Below w0.heap.size w0 w1 from by rw [b]; exact Below.refl _ _).mono HB0.out.size)
  have HK1 : Hid (w1.heap[w.heap.size]? = some (.cells #[.slice A.j X.jd.length A.kj, .slice A.g X.gv.length A.kg, .slice A.p X.pl.length A.kp, .slice A.v X.vt.length A.kv, .slice A.n X.wn.length A.kn, .slice A.l X.ln.length A.kl, .int .i64 X.sn, .slice A.s X.st.length A.ks] 34)) := ((show Below w0.heap.size w0 w1 from by rw [b]; exact Below.refl _ _).block _ (kbox HK0.out)).trans HK0.out
  clear b hq HB0 HK0 q2 q1
  by_cases p1 : 0 ≤ r1
  case neg =>
    have hd : decide (r1 < 0) = true := decide_eq_true (by omega)
    go_wp2_with fail
    go_ret
    exact ⟨⟨-1, rfl, fun h => by omega⟩, HB1.out⟩
  have hd1 : decide (r1 < 0) = false := decide_eq_false (by omega)
  have x1 : w1.cell? ⟨w.heap.size, 1, none⟩ = some (.slice A.g X.gv.length A.kg) := box_cell HK1.out 1
  go_wp2_with fail
  refine (szIntS_any A.g A.kg X.gv.length r1 w1 p1 hle1 HCN.out.ng).mono ?_
  rintro e w2 ⟨⟨r2, rfl, q1, q2, hq⟩, b⟩
  have hle2 : r2 ≤ 1048576 := q1
  have HQ2 : Hid (0 ≤ r2 → X.gv.length ≤ 1048576) := hq
  have HB2 : Hid (Below w.heap.size w w2) := HB1.out.trans ((show Below w1.heap.size w1 w2 from by rw [b]; exact Below.refl _ _).mono HB1.out.size)
  have HK2 : Hid (w2.heap[w.heap.size]? = some (.cells #[.slice A.j X.jd.length A.kj, .slice A.g X.gv.length A.kg, .slice A.p X.pl.length A.kp, .slice A.v X.vt.length A.kv, .slice A.n X.wn.length A.kn, .slice A.l X.ln.length A.kl, .int .i64 X.sn, .slice A.s X.st.length A.ks] 34)) := ((show Below w1.heap.size w1 w2 from by rw [b]; exact Below.refl _ _).block _ (kbox HK1.out)).trans HK1.out
  clear b hq HB1 HK1 q2 x1 q1
  by_cases p2 : 0 ≤ r2
  case neg =>
    have hd : decide (r2 < 0) = true := decide_eq_true (by omega)
    go_wp2_with fail
    go_ret
    exact ⟨⟨-1, rfl, fun h => by omega⟩, HB2.out⟩
  have hd2 : decide (r2 < 0) = false := decide_eq_false (by omega)
  have x2 : w2.cell? ⟨w.heap.size, 2, none⟩ = some (.slice A.p X.pl.length A.kp) := box_cell HK2.out 2
  go_wp2_with fail
  refine (szIntS_any A.p A.kp X.pl.length r2 w2 p2 hle2 HCN.out.np).mono ?_
  rintro e w3 ⟨⟨r3, rfl, q1, q2, hq⟩, b⟩
  have hle3 : r3 ≤ 1048576 := q1
  have HQ3 : Hid (0 ≤ r3 → X.pl.length ≤ 1048576) := hq
  have HB3 : Hid (Below w.heap.size w w3) := HB2.out.trans ((show Below w2.heap.size w2 w3 from by rw [b]; exact Below.refl _ _).mono HB2.out.size)
  have HK3 : Hid (w3.heap[w.heap.size]? = some (.cells #[.slice A.j X.jd.length A.kj, .slice A.g X.gv.length A.kg, .slice A.p X.pl.length A.kp, .slice A.v X.vt.length A.kv, .slice A.n X.wn.length A.kn, .slice A.l X.ln.length A.kl, .int .i64 X.sn, .slice A.s X.st.length A.ks] 34)) := ((show Below w2.heap.size w2 w3 from by rw [b]; exact Below.refl _ _).block _ (kbox HK2.out)).trans HK2.out
  clear b hq HB2 HK2 q2 x2 q1
  by_cases p3 : 0 ≤ r3
  case neg =>
    have hd : decide (r3 < 0) = true := decide_eq_true (by omega)
    go_wp2_with fail
    go_ret
    exact ⟨⟨-1, rfl, fun h => by omega⟩, HB3.out⟩
  have hd3 : decide (r3 < 0) = false := decide_eq_false (by omega)
  have x3 : w3.cell? ⟨w.heap.size, 3, none⟩ = some (.slice A.v X.vt.length A.kv) := box_cell HK3.out 3
  go_wp2_with fail
  refine (szIntSS_any A.v A.kv X.vt r3 w3 p3 hle3 HCN.out.nv HCN.out.zv (HZ.out _ HB3.out).v).mono ?_
  rintro e w4 ⟨⟨r4, rfl, q1, q2, hq⟩, b⟩
  have hle4 : r4 ≤ 1048576 := q1
  have HQ4 : Hid (0 ≤ r4 → FitR X.vt) := hq
  have HB4 : Hid (Below w.heap.size w w4) := HB3.out.trans (b.mono HB3.out.size)
  have HK4 : Hid (w4.heap[w.heap.size]? = some (.cells #[.slice A.j X.jd.length A.kj, .slice A.g X.gv.length A.kg, .slice A.p X.pl.length A.kp, .slice A.v X.vt.length A.kv, .slice A.n X.wn.length A.kn, .slice A.l X.ln.length A.kl, .int .i64 X.sn, .slice A.s X.st.length A.ks] 34)) := (b.block _ (kbox HK3.out)).trans HK3.out
  clear b hq HB3 HK3 q2 x3 q1
  by_cases p4 : 0 ≤ r4
  case neg =>
    have hd : decide (r4 < 0) = true := decide_eq_true (by omega)
    go_wp2_with fail
    go_ret
    exact ⟨⟨-1, rfl, fun h => by omega⟩, HB4.out⟩
  have hd4 : decide (r4 < 0) = false := decide_eq_false (by omega)
  have x4 : w4.cell? ⟨w.heap.size, 4, none⟩ = some (.slice A.n X.wn.length A.kn) := box_cell HK4.out 4
  go_wp2_with fail
  refine (szIntSS_any A.n A.kn X.wn r4 w4 p4 hle4 HCN.out.nn HCN.out.zn (HZ.out _ HB4.out).n).mono ?_
  rintro e w5 ⟨⟨r5, rfl, q1, q2, hq⟩, b⟩
  have hle5 : r5 ≤ 1048576 := q1
  have HQ5 : Hid (0 ≤ r5 → FitR X.wn) := hq
  have HB5 : Hid (Below w.heap.size w w5) := HB4.out.trans (b.mono HB4.out.size)
  have HK5 : Hid (w5.heap[w.heap.size]? = some (.cells #[.slice A.j X.jd.length A.kj, .slice A.g X.gv.length A.kg, .slice A.p X.pl.length A.kp, .slice A.v X.vt.length A.kv, .slice A.n X.wn.length A.kn, .slice A.l X.ln.length A.kl, .int .i64 X.sn, .slice A.s X.st.length A.ks] 34)) := (b.block _ (kbox HK4.out)).trans HK4.out
  clear b hq HB4 HK4 q2 x4 q1
  by_cases p5 : 0 ≤ r5
  case neg =>
    have hd : decide (r5 < 0) = true := decide_eq_true (by omega)
    go_wp2_with fail
    go_ret
    exact ⟨⟨-1, rfl, fun h => by omega⟩, HB5.out⟩
  have hd5 : decide (r5 < 0) = false := decide_eq_false (by omega)
  have x5 : w5.cell? ⟨w.heap.size, 5, none⟩ = some (.slice A.l X.ln.length A.kl) := box_cell HK5.out 5
  go_wp2_with fail
  refine (szPaperS_any A.l A.kl X.ln.length r5 w5 p5 hle5 HCN.out.nl).mono ?_
  rintro e w6 ⟨⟨r6, rfl, q1, q2, hq⟩, b⟩
  have hle6 : r6 ≤ 1048576 := q1
  have HQ6 : Hid (0 ≤ r6 → X.ln.length ≤ 1048576) := hq
  have HB6 : Hid (Below w.heap.size w w6) := HB5.out.trans ((show Below w5.heap.size w5 w6 from by rw [b]; exact Below.refl _ _).mono HB5.out.size)
  have HK6 : Hid (w6.heap[w.heap.size]? = some (.cells #[.slice A.j X.jd.length A.kj, .slice A.g X.gv.length A.kg, .slice A.p X.pl.length A.kp, .slice A.v X.vt.length A.kv, .slice A.n X.wn.length A.kn, .slice A.l X.ln.length A.kl, .int .i64 X.sn, .slice A.s X.st.length A.ks] 34)) := ((show Below w5.heap.size w5 w6 from by rw [b]; exact Below.refl _ _).block _ (kbox HK5.out)).trans HK5.out
  clear b hq HB5 HK5 q2 x5 q1
  by_cases p6 : 0 ≤ r6
  case neg =>
    have hd : decide (r6 < 0) = true := decide_eq_true (by omega)
    go_wp2_with fail
    go_ret
    exact ⟨⟨-1, rfl, fun h => by omega⟩, HB6.out⟩
  have hd6 : decide (r6 < 0) = false := decide_eq_false (by omega)
  have x6 : w6.cell? ⟨w.heap.size, 7, none⟩ = some (.slice A.s X.st.length A.ks) := box_cell HK6.out 7
  go_wp2_with fail
  refine (szIntSS_any A.s A.ks X.st r6 w6 p6 hle6 HCN.out.ns HCN.out.zs (HZ.out _ HB6.out).s).mono ?_
  rintro e w7 ⟨⟨r7, rfl, q1, q2, hq⟩, b⟩
  have hle7 : r7 ≤ 1048576 := q1
  have HQ7 : Hid (0 ≤ r7 → FitR X.st) := hq
  have HB7 : Hid (Below w.heap.size w w7) := HB6.out.trans (b.mono HB6.out.size)
  have HK7 : Hid (w7.heap[w.heap.size]? = some (.cells #[.slice A.j X.jd.length A.kj, .slice A.g X.gv.length A.kg, .slice A.p X.pl.length A.kp, .slice A.v X.vt.length A.kv, .slice A.n X.wn.length A.kn, .slice A.l X.ln.length A.kl, .int .i64 X.sn, .slice A.s X.st.length A.ks] 34)) := (b.block _ (kbox HK6.out)).trans HK6.out
  clear b hq HB6 HK6 q2 x6 q1
  by_cases p7 : 0 ≤ r7
  case neg =>
    have hd : decide (r7 < 0) = true := decide_eq_true (by omega)
    go_wp2_with fail
    go_ret
    exact ⟨⟨-1, rfl, fun h => by omega⟩, HB7.out⟩
  have hd7 : decide (r7 < 0) = false := decide_eq_false (by omega)
  go_wp2_with fail
  go_ret
  exact ⟨⟨_, rfl, fun _ => ⟨HQ1.out p1, HQ2.out p2, HQ3.out p3, HQ4.out p4, HQ5.out p5, HQ6.out p6, HQ7.out p7⟩⟩, HB7.out⟩
theorem box8 {w : World} {Q : Nat} {a0 a1 a2 a3 a4 a5 a6 a7 : Value} {t : TypeId} (h : w.heap[Q]? = some (.cells #[a0, a1, a2, a3, a4, a5, a6, a7] t)) : (w.cell? ⟨Q, 0, none⟩ = some (a0) ∧ w.cell? ⟨Q, 1, none⟩ = some (a1) ∧ w.cell? ⟨Q, 2, none⟩ = some (a2) ∧ w.cell? ⟨Q, 3, none⟩ = some (a3) ∧ w.cell? ⟨Q, 4, none⟩ = some (a4) ∧ w.cell? ⟨Q, 5, none⟩ = some (a5) ∧ w.cell? ⟨Q, 6, none⟩ = some (a6) ∧ w.cell? ⟨Q, 7, none⟩ = some (a7)) ∧ w.frozen? ⟨Q, 0, none⟩ = false ∧ w.frozen? ⟨Q, 1, none⟩ = false ∧ w.frozen? ⟨Q, 2, none⟩ = false ∧ w.frozen? ⟨Q, 3, none⟩ = false ∧ w.frozen? ⟨Q, 4, none⟩ = false ∧ w.frozen? ⟨Q, 5, none⟩ = false ∧ w.frozen? ⟨Q, 6, none⟩ = false ∧ w.frozen? ⟨Q, 7, none⟩ = false := ⟨⟨box_cell h 0, box_cell h 1, box_cell h 2, box_cell h 3, box_cell h 4, box_cell h 5, box_cell h 6, box_cell h 7⟩, box_free h 0, box_free h 1, box_free h 2, box_free h 3, box_free h 4, box_free h 5, box_free h 6, box_free h 7⟩
theorem fill8 {w : World} {Q : Nat} {a0 a1 a2 a3 a4 a5 a6 a7 : Value} {t : TypeId} (h : w.heap[Q]? = some (.cells #[a0, a1, a2, a3, a4, a5, a6, a7] t)) (b0 b1 b2 b3 b4 b5 b6 b7 : Value) : ((((((((w.setCell ⟨Q, 0, none⟩ (b0)).setCell ⟨Q, 1, none⟩ (b1)).setCell ⟨Q, 2, none⟩ (b2)).setCell ⟨Q, 3, none⟩ (b3)).setCell ⟨Q, 4, none⟩ (b4)).setCell ⟨Q, 5, none⟩ (b5)).setCell ⟨Q, 6, none⟩ (b6)).setCell ⟨Q, 7, none⟩ (b7)).heap[Q]? = some (.cells #[b0, b1, b2, b3, b4, b5, b6, b7] t) := by
  have := (box_set (box_set (box_set (box_set (box_set (box_set (box_set (box_set h 0 b0) 1 b1) 2 b2) 3 b3) 4 b4) 5 b5) 6 b6) 7 b7)
  simpa using this
theorem fill8_below {B Q : Nat} {a w : World} (h : Below B a w) (hQ : B ≤ Q) (b0 b1 b2 b3 b4 b5 b6 b7 : Value) : Below B a ((((((((w.setCell ⟨Q, 0, none⟩ (b0)).setCell ⟨Q, 1, none⟩ (b1)).setCell ⟨Q, 2, none⟩ (b2)).setCell ⟨Q, 3, none⟩ (b3)).setCell ⟨Q, 4, none⟩ (b4)).setCell ⟨Q, 5, none⟩ (b5)).setCell ⟨Q, 6, none⟩ (b6)).setCell ⟨Q, 7, none⟩ (b7)) := (setB (setB (setB (setB (setB (setB (setB (setB h _ _ hQ _) _ _ hQ _) _ _ hQ _) _ _ hQ _) _ _ hQ _) _ _ hQ _) _ _ hQ _) _ _ hQ _)
theorem fill8_out (w : World) (Q : Nat) (b0 b1 b2 b3 b4 b5 b6 b7 : Value) : Out Q (Q + 1) w ((((((((w.setCell ⟨Q, 0, none⟩ (b0)).setCell ⟨Q, 1, none⟩ (b1)).setCell ⟨Q, 2, none⟩ (b2)).setCell ⟨Q, 3, none⟩ (b3)).setCell ⟨Q, 4, none⟩ (b4)).setCell ⟨Q, 5, none⟩ (b5)).setCell ⟨Q, 6, none⟩ (b6)).setCell ⟨Q, 7, none⟩ (b7)) := Out.ofBut (((((((((But.refl Q w).setCell _ _).setCell _ _).setCell _ _).setCell _ _).setCell _ _).setCell _ _).setCell _ _).setCell _ _) (Nat.le_refl _) (Nat.lt_succ_self _)
/-- what toFence keeps: three boxes -/
structure TW (w : World) (U Z Y : Array Value) (wr : World) : Prop where
  below : Below w.heap.size w wr
  x : wr.heap[w.heap.size]? = some (.cells U 34)
  z : wr.heap[w.heap.size + 1]? = some (.cells Z 26)
  y : wr.heap[w.heap.size + 1 + 1]? = some (.cells Y 26)
theorem TW.size {w : World} {U Z Y : Array Value} {wr : World} (h : TW w U Z Y wr) : w.heap.size + 3 ≤ wr.heap.size := by
  have := kbox h.y
  omega
theorem TW.on {w : World} {U Z Y : Array Value} {wr w' : World} (h : TW w U Z Y wr) (g : Below wr.heap.size wr w') : TW w U Z Y w' := by
  have hs := h.size
  exact ⟨h.below.trans (g.mono (by omega)), (g.block _ (by omega)).trans h.x, (g.block _ (by omega)).trans h.z, (g.block _ (by omega)).trans h.y⟩
theorem TW.setY {w : World} {U Z Y : Array Value} {wr : World} (h : TW w U Z Y wr) (i : Nat) (u : Value) : TW w U Z (Y.setIfInBounds i u) (wr.setCell ⟨w.heap.size + 1 + 1, i, none⟩ u) :=
  ⟨setB h.below _ _ (by omega) _, (keepB _ _ _ _ _ (by omega)).trans h.x, (keepB _ _ _ _ _ (by omega)).trans h.z, box_set h.y i u⟩
theorem TW.start (w : World) (U : Array Value) : TW w U #[.slice none 0 0, .slice none 0 0, .slice none 0 0, .slice none 0 0, .slice none 0 0, .slice none 0 0, .int .i64 0, .slice none 0 0] #[.slice none 0 0, .slice none 0 0, .slice none 0 0, .slice none 0 0, .slice none 0 0, .slice none 0 0, .int .i64 0, .slice none 0 0] (((w.alloc (.cells U 34)).alloc (.cells #[.slice none 0 0, .slice none 0 0, .slice none 0 0, .slice none 0 0, .slice none 0 0, .slice none 0 0, .int .i64 0, .slice none 0 0] 26)).alloc (.cells #[.slice none 0 0, .slice none 0 0, .slice none 0 0, .slice none 0 0, .slice none 0 0, .slice none 0 0, .int .i64 0, .slice none 0 0] 26)) := by
  refine ⟨(((Below.refl _ _).alloc (Nat.le_refl _) _).alloc (by simp) _).alloc (by simp; omega) _, ?_, ?_, heap_last3 _ _ _ _⟩
  · rw [Below.heap_alloc _ _ _ (by simp; omega), Below.heap_alloc _ _ _ (by simp)]
    exact heap_last _ _
  · rw [Below.heap_alloc _ _ _ (by simp)]
    exact heap_last2 _ _ _
end Go.Proofs.Ytikmkkklgdkpaaa
