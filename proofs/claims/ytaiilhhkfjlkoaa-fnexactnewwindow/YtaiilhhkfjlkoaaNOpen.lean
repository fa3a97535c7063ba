/- Windows, texts and steps that came in, opened. -/
import Derived.Test.YtaiilhhkfjlkoaaGOpen
import Derived.Test.YtaiilhhkfjlkoaaNWin
import Derived.Deep.Strs
namespace Go.Proofs.Ytaiilhhkfjlkoaa
set_option maxRecDepth 100000
open Go Go.ChangeShapes Go.WideShapes Go.ChangeAt Go.RowKit Go.Deep
/-- what an int holds -/
def fit (n : Int) : Prop := -9223372036854775808 ≤ n ∧ n ≤ 9223372036854775807
theorem fit_of {n : Int} (h : (Lit.int .i64 n).wf = true) : fit n := by
  have := bounds_i64 h
  exact ⟨by omega, by omega⟩
theorem slice_at {H : Type} {enc : TypeId × Value → H} {P : Program} {W : World} {tS t : TypeId} {n : Nat} {x : Value} {y : DataW H × List MemPlace} (hS : P.underlying tS = some (.slice t))
    (g : DataW.trod enc P W 0 (fun _ => true) true n tS [x] = some y) : ∃ a len cap, x = .slice a len cap := by
  rcases open_slice hS g with ⟨hcs, _⟩ | ⟨x', l, c, _, _, _, _, hcs, _⟩
  · exact ⟨none, 0, 0, by simpa using hcs⟩
  · exact ⟨some x', l, c, by simpa using hcs⟩
theorem strs_at {H : Type} {enc : TypeId × Value → H} {P : Program} {W : World} {tS t : TypeId} {n : Nat} {x : Value} {y : DataW H × List MemPlace}
    (hS : P.underlying tS = some (.slice t)) (ht : P.underlying t = some .string) (hc : P.cellsOf t = 1)
    (g : DataW.trod enc P W 0 (fun _ => true) true n tS [x] = some y) :
    ∃ (a : Option Addr) (cap : Nat) (l : List ByteArray), x = .slice a l.length cap ∧ Ss W.heap.size a l W ∧ (∀ x ∈ l, x.size ≤ 9223372036854775807) ∧ l.length ≤ 9223372036854775807 := by
  obtain ⟨a, len, cap, rfl⟩ := slice_at hS g
  obtain ⟨rows, hlen, hgs, hrows, hmax⟩ := gsl_of hS hc (by decide) g
  have e : maxLen = 9223372036854775807 := by decide
  obtain ⟨l, rfl, hq⟩ := list_of (f := scell) (Q := fun s => s.size ≤ 9223372036854775807) rows (fun r hr => by
    obtain ⟨n, x, hx⟩ := hrows r hr
    obtain ⟨s, e0, _, hs⟩ := DataW.trod_string ht hx
    rw [e] at hs
    exact ⟨s, e0, hs⟩)
  have hlen' : l.length = len := by simpa using hlen
  subst hlen'
  rw [e] at hmax
  exact ⟨a, cap, l, rfl, hgs, hq, hmax⟩
theorem bools_at {H : Type} {enc : TypeId × Value → H} {P : Program} {W : World} {tS t : TypeId} {n : Nat} {x : Value} {y : DataW H × List MemPlace}
    (hS : P.underlying tS = some (.slice t)) (ht : P.underlying t = some .bool) (hc : P.cellsOf t = 1)
    (g : DataW.trod enc P W 0 (fun _ => true) true n tS [x] = some y) :
    ∃ (a : Option Addr) (cap : Nat) (l : List Bool), x = .slice a l.length cap ∧ Bs W.heap.size a l W ∧ l.length ≤ 9223372036854775807 := by
  obtain ⟨a, len, cap, rfl⟩ := slice_at hS g
  obtain ⟨rows, hlen, hgs, hrows, hmax⟩ := gsl_of hS hc (by decide) g
  obtain ⟨l, rfl, hq⟩ := list_of (f := bcell) (Q := fun _ => True) rows (fun r hr => by
    obtain ⟨n, x, hx⟩ := hrows r hr
    obtain ⟨m0, e0, _⟩ := DataW.trod_bool ht hx
    exact ⟨m0, e0, trivial⟩)
  have hlen' : l.length = len := by simpa using hlen
  subst hlen'
  have e : maxLen = 9223372036854775807 := by decide
  rw [e] at hmax
  exact ⟨a, cap, l, rfl, hgs, hmax⟩
theorem three_of {α : Type} {l : List α} (h : l.length = 3) : ∃ x y z, l = [x, y, z] := by
  match l, h with
  | [x, y, z], _ => exact ⟨x, y, z, rfl⟩
theorem two_of {α : Type} {l : List α} (h : l.length = 2) : ∃ x y, l = [x, y] := by
  match l, h with
  | [x, y], _ => exact ⟨x, y, rfl⟩
theorem seven_of {α : Type} {l : List α} (h : l.length = 7) : ∃ a b c d e f g, l = [a, b, c, d, e, f, g] := by
  match l, h with
  | [a, b, c, d, e, f, g], _ => exact ⟨a, b, c, d, e, f, g, rfl⟩
theorem fcells_of {H : Type} {enc : TypeId × Value → H} {P : Program} {W : World} {t : TypeId} {f0 f1 f2 : Field} {fuel : Nat} {cs : List Value} {x : DataW H × List MemPlace}
    (ht : P.underlying t = some (.struct #[f0, f1, f2])) (hc : P.cellsOf t = 3) (o0 : f0.offset = 0) (o1 : f1.offset = 1) (o2 : f2.offset = 2)
    (u0 : P.underlying f0.type = some .bool) (u1 : P.underlying f1.type = some (.int .i64)) (u2 : P.underlying f2.type = some .string)
    (c0 : P.cellsOf f0.type = 1) (c1 : P.cellsOf f1.type = 1) (c2 : P.cellsOf f2.type = 1)
    (h : DataW.trod enc P W 0 (fun _ => true) true fuel t cs = some x) : ∃ r : Fr, cs = fcells r ∧ r.tx.size ≤ 9223372036854775807 := by
  obtain ⟨xs, n, _, _, hl, hlen, hf⟩ := DataW.trod_struct ht h
  match xs, hlen with
  | [y0, y1, y2], _ =>
    have g0 := hf 0 f0 rfl
    have g1 := hf 1 f1 rfl
    have g2 := hf 2 f2 rfl
    rw [o0, c0] at g0
    rw [o1, c1] at g1
    rw [o2, c2] at g2
    rw [hc] at hl
    obtain ⟨x0, x1, x2, rfl⟩ := three_of hl
    have q0 : DataW.trod enc P W 0 (fun _ => true) true n f0.type [x0] = some y0 := g0
    have q1 : DataW.trod enc P W 0 (fun _ => true) true n f1.type [x1] = some y1 := g1
    have q2 : DataW.trod enc P W 0 (fun _ => true) true n f2.type [x2] = some y2 := g2
    obtain ⟨m0, e0, _⟩ := DataW.trod_bool u0 q0
    obtain ⟨m1, e1, _, w1⟩ := DataW.trod_int u1 q1
    obtain ⟨s, e2, _, hs⟩ := DataW.trod_string u2 q2
    have e : maxLen = 9223372036854775807 := by decide
    rw [e] at hs
    have e0' : x0 = .bool m0 := by simpa using e0
    have e1' : x1 = .int .i64 m1 := by simpa using e1
    have e2' : x2 = .string s := by simpa using e2
    subst e0' e1' e2'
    exact ⟨⟨m0, m1, s⟩, rfl, hs⟩
theorem frames_at {H : Type} {enc : TypeId × Value → H} {P : Program} {W : World} {tS t : TypeId} {f0 f1 f2 : Field} {n : Nat} {x : Value} {y : DataW H × List MemPlace}
    (hS : P.underlying tS = some (.slice t))
    (ht : P.underlying t = some (.struct #[f0, f1, f2])) (hc : P.cellsOf t = 3) (o0 : f0.offset = 0) (o1 : f1.offset = 1) (o2 : f2.offset = 2)
    (u0 : P.underlying f0.type = some .bool) (u1 : P.underlying f1.type = some (.int .i64)) (u2 : P.underlying f2.type = some .string)
    (c0 : P.cellsOf f0.type = 1) (c1 : P.cellsOf f1.type = 1) (c2 : P.cellsOf f2.type = 1)
    (g : DataW.trod enc P W 0 (fun _ => true) true n tS [x] = some y) :
    ∃ (a : Option Addr) (cap : Nat) (l : List Fr), x = .slice a l.length cap ∧ Fs W.heap.size a l W ∧ (∀ r ∈ l, r.tx.size ≤ 9223372036854775807) ∧ l.length ≤ 9223372036854775807 := by
  obtain ⟨a, len, cap, rfl⟩ := slice_at hS g
  obtain ⟨rows, hlen, hgs, hrows, hmax⟩ := gsl_of hS hc (by decide) g
  obtain ⟨l, rfl, hq⟩ := list_of (f := fcells) (Q := fun r => r.tx.size ≤ 9223372036854775807) rows (fun r hr => by
    obtain ⟨n, x, hx⟩ := hrows r hr
    exact fcells_of ht hc o0 o1 o2 u0 u1 u2 c0 c1 c2 hx)
  have hlen' : l.length = len := by simpa using hlen
  subst hlen'
  have e : maxLen = 9223372036854775807 := by decide
  rw [e] at hmax
  exact ⟨a, cap, l, rfl, hgs, hq, hmax⟩
theorem window_of {H : Type} {enc : TypeId × Value → H} {P : Program} {W : World} {r : Reach} {b0 : Nat} {tW tS tB t : TypeId} {g0 g1 g2 g3 g4 g5 g6 f0 f1 f2 : Field} {v : Value} {d : DataW H} {ps : List MemPlace}
    (hH : P.underlying tW = some (.struct #[g0, g1, g2, g3, g4, g5, g6])) (hcH : P.cellsOf tW = 7) (p0 : g0.offset = 0) (p1 : g1.offset = 1) (p2 : g2.offset = 2) (p3 : g3.offset = 3) (p4 : g4.offset = 4) (p5 : g5.offset = 5) (p6 : g6.offset = 6)
    (d0 : P.cellsOf g0.type = 1) (d1 : P.cellsOf g1.type = 1) (d2 : P.cellsOf g2.type = 1) (d3 : P.cellsOf g3.type = 1) (d4 : P.cellsOf g4.type = 1) (d5 : P.cellsOf g5.type = 1) (d6 : P.cellsOf g6.type = 1)
    (v0 : P.underlying g0.type = some (.slice tS)) (v1 : P.underlying g1.type = some (.int .i64)) (v2 : P.underlying g2.type = some (.slice tB)) (v3 : P.underlying g3.type = some (.slice t)) (v4 : P.underlying g4.type = some (.slice tS)) (v5 : P.underlying g5.type = some (.slice tB)) (v6 : P.underlying g6.type = some (.int .i64))
    (uS : P.underlying tS = some .string) (cS : P.cellsOf tS = 1) (uB : P.underlying tB = some .bool) (cB : P.cellsOf tB = 1)
    (ht : P.underlying t = some (.struct #[f0, f1, f2])) (hc : P.cellsOf t = 3) (o0 : f0.offset = 0) (o1 : f1.offset = 1) (o2 : f2.offset = 2)
    (u0 : P.underlying f0.type = some .bool) (u1 : P.underlying f1.type = some (.int .i64)) (u2 : P.underlying f2.type = some .string)
    (c0 : P.cellsOf f0.type = 1) (c1 : P.cellsOf f1.type = 1) (c2 : P.cellsOf f2.type = 1)
    (hval : Value.okWide P W r b0 tW v) (h : DataW.Trod enc P W 0 (fun _ => true) true tW v d ps) :
    ∃ (A : Ad) (X : Wd), v = .agg #[.slice A.p X.pc.length A.kp, .int .i64 X.sz, .slice A.h X.hd.length A.kh, .slice A.l X.ln.length A.kl, .slice A.e X.hl.length A.ke, .slice A.s X.hs.length A.ks, .int .i64 X.td] ∧ WR W.heap.size A X W ∧ CntW X ∧ fit X.sz ∧ fit X.td := by
  obtain ⟨cs, rfl, hsz⟩ := okWide_struct hH hval
  obtain ⟨fuel, hf⟩ := h
  have hf' : DataW.trod enc P W 0 (fun _ => true) true fuel tW (Value.agg cs).cells.toList = some (d, ps) := hf
  have hcs : (Value.agg cs).cells.toList = cs.toList := by simp [Value.cells]
  rw [hcs] at hf'
  obtain ⟨xs, n, _, _, hl, hlen, hfs⟩ := DataW.trod_struct hH hf'
  match xs, hlen with
  | [y0, y1, y2, y3, y4, y5, y6], _ =>
    have q0 := hfs 0 g0 rfl
    rw [p0, d0] at q0
    have q1 := hfs 1 g1 rfl
    rw [p1, d1] at q1
    have q2 := hfs 2 g2 rfl
    rw [p2, d2] at q2
    have q3 := hfs 3 g3 rfl
    rw [p3, d3] at q3
    have q4 := hfs 4 g4 rfl
    rw [p4, d4] at q4
    have q5 := hfs 5 g5 rfl
    rw [p5, d5] at q5
    have q6 := hfs 6 g6 rfl
    rw [p6, d6] at q6
    rw [hcH] at hl
    obtain ⟨x0, x1, x2, x3, x4, x5, x6, hx⟩ := seven_of hl
    obtain rfl : cs = #[x0, x1, x2, x3, x4, x5, x6] := by
      apply Array.ext'
      exact hx
    have q0' : DataW.trod enc P W 0 (fun _ => true) true n g0.type [x0] = some y0 := q0
    have q1' : DataW.trod enc P W 0 (fun _ => true) true n g1.type [x1] = some y1 := q1
    have q2' : DataW.trod enc P W 0 (fun _ => true) true n g2.type [x2] = some y2 := q2
    have q3' : DataW.trod enc P W 0 (fun _ => true) true n g3.type [x3] = some y3 := q3
    have q4' : DataW.trod enc P W 0 (fun _ => true) true n g4.type [x4] = some y4 := q4
    have q5' : DataW.trod enc P W 0 (fun _ => true) true n g5.type [x5] = some y5 := q5
    have q6' : DataW.trod enc P W 0 (fun _ => true) true n g6.type [x6] = some y6 := q6
    obtain ⟨aP, kP, LP, rfl, hP, zP, nP⟩ := strs_at v0 uS cS q0'
    obtain ⟨z, e1, _, hz⟩ := DataW.trod_int v1 q1'
    obtain ⟨aH, kH, LH, rfl, hH', nH⟩ := bools_at v2 uB cB q2'
    obtain ⟨aL, kL, LL, rfl, hL, zL, nL⟩ := frames_at v3 ht hc o0 o1 o2 u0 u1 u2 c0 c1 c2 q3'
    obtain ⟨aE, kE, LE, rfl, hE, zE, nE⟩ := strs_at v4 uS cS q4'
    obtain ⟨aQ, kQ, LQ, rfl, hQ, nQ⟩ := bools_at v5 uB cB q5'
    obtain ⟨t, e6, _, hT⟩ := DataW.trod_int v6 q6'
    have e1' : x1 = .int .i64 z := by simpa using e1
    have e6' : x6 = .int .i64 t := by simpa using e6
    subst e1'
    subst e6'
    exact ⟨⟨aP, kP, aH, kH, aL, kL, aE, kE, aQ, kQ⟩, ⟨LP, z, LH, LL, LE, LQ, t⟩, rfl, ⟨hP, hH', hL, hE, hQ⟩, ⟨nP, zP, nH, nL, zL, nE, zE, nQ⟩, fit_of hz, fit_of hT⟩
theorem strings_of {H : Type} {enc : TypeId × Value → H} {P : Program} {W : World} {r : Reach} {b0 : Nat} {tS t : TypeId} {v : Value} {d : DataW H} {ps : List MemPlace}
    (hS : P.underlying tS = some (.slice t)) (ht : P.underlying t = some .string) (hc : P.cellsOf t = 1)
    (hval : Value.okWide P W r b0 tS v) (h : DataW.Trod enc P W 0 (fun _ => true) true tS v d ps) :
    ∃ (a : Option Addr) (cap : Nat) (l : List ByteArray), v = .slice a l.length cap ∧ Ss W.heap.size a l W ∧ (∀ x ∈ l, x.size ≤ 9223372036854775807) ∧ l.length ≤ 9223372036854775807 := by
  obtain ⟨a, len, cap, rfl⟩ := okWide_slice hS hval
  obtain ⟨fuel, hf⟩ := h
  have hf' : DataW.trod enc P W 0 (fun _ => true) true fuel tS [.slice a len cap] = some (d, ps) := hf
  exact strs_at hS ht hc hf'
theorem step_of {H : Type} {enc : TypeId × Value → H} {P : Program} {W : World} {r : Reach} {b0 : Nat} {t : TypeId} {f0 f1 : Field} {v : Value} {d : DataW H} {ps : List MemPlace}
    (ht : P.underlying t = some (.struct #[f0, f1])) (hc : P.cellsOf t = 2) (o0 : f0.offset = 0) (o1 : f1.offset = 1) (u0 : P.underlying f0.type = some (.int .i64)) (u1 : P.underlying f1.type = some (.int .i64)) (c0 : P.cellsOf f0.type = 1) (c1 : P.cellsOf f1.type = 1)
    (hval : Value.okWide P W r b0 t v) (h : DataW.Trod enc P W 0 (fun _ => true) true t v d ps) : ∃ k n : Int, v = .agg #[.int .i64 k, .int .i64 n] ∧ fit k ∧ fit n := by
  obtain ⟨cs, rfl, hsz⟩ := okWide_struct ht hval
  obtain ⟨fuel, hf⟩ := h
  have hf' : DataW.trod enc P W 0 (fun _ => true) true fuel t (Value.agg cs).cells.toList = some (d, ps) := hf
  have hcs : (Value.agg cs).cells.toList = cs.toList := by simp [Value.cells]
  rw [hcs] at hf'
  obtain ⟨xs, n, _, _, hl, hlen, hfs⟩ := DataW.trod_struct ht hf'
  match xs, hlen with
  | [y0, y1], _ =>
    have q0 := hfs 0 f0 rfl
    have q1 := hfs 1 f1 rfl
    rw [o0, c0] at q0
    rw [o1, c1] at q1
    rw [hc] at hl
    obtain ⟨x0, x1, hx⟩ := two_of hl
    obtain rfl : cs = #[x0, x1] := by
      apply Array.ext'
      exact hx
    have q0' : DataW.trod enc P W 0 (fun _ => true) true n f0.type [x0] = some y0 := q0
    have q1' : DataW.trod enc P W 0 (fun _ => true) true n f1.type [x1] = some y1 := q1
    obtain ⟨m0, e0, _, w0⟩ := DataW.trod_int u0 q0'
    obtain ⟨m1, e1, _, w1⟩ := DataW.trod_int u1 q1'
    have e0' : x0 = .int .i64 m0 := by simpa using e0
    have e1' : x1 = .int .i64 m1 := by simpa using e1
    subst e0' e1'
    exact ⟨m0, m1, rfl, fit_of w0, fit_of w1⟩
end Go.Proofs.Ytaiilhhkfjlkoaa
