/- Works that came in, opened. -/
import Derived.Test.YtgompioaknfjgabAOpen
import Derived.Test.YtgompioaknfjgabUwW
import Derived.Deep.Strs
namespace Go.Proofs.Ytgompioaknfjgab
set_option maxRecDepth 100000
open Go Go.ChangeShapes Go.WideShapes Go.ChangeAt Go.RowKit Go.Deep
theorem Uwlen {α : Type} {l : List α} (h : l.length = 5) : ∃ a0 a1 a2 a3 a4, l = [a0, a1, a2, a3, a4] := by
  match l, h with
  | [a0, a1, a2, a3, a4], _ => exact ⟨a0, a1, a2, a3, a4, rfl⟩
theorem Uwelen {α : Type} {l : List α} (h : l.length = 5) : ∃ a0 a1 a2 a3 a4, l = [a0, a1, a2, a3, a4] := by
  match l, h with
  | [a0, a1, a2, a3, a4], _ => exact ⟨a0, a1, a2, a3, a4, rfl⟩
theorem ntc_of {H : Type} {enc : TypeId × Value → H} {P : Program} {W : World} {t : TypeId} {f0 f1 f2 f3 f4 : Field} {fuel : Nat} {cs : List Value} {x : DataW H × List MemPlace}
    (ht : P.underlying t = some (.struct #[f0, f1, f2, f3, f4])) (hc : P.cellsOf t = 5) (o0 : f0.offset = 0) (o1 : f1.offset = 1) (o2 : f2.offset = 2) (o3 : f3.offset = 3) (o4 : f4.offset = 4) (u0 : P.underlying f0.type = some (.int .i64)) (u1 : P.underlying f1.type = some (.int .i64)) (u2 : P.underlying f2.type = some (.int .i64)) (u3 : P.underlying f3.type = some (.int .i64)) (u4 : P.underlying f4.type = some (.int .i64)) (c0 : P.cellsOf f0.type = 1) (c1 : P.cellsOf f1.type = 1) (c2 : P.cellsOf f2.type = 1) (c3 : P.cellsOf f3.type = 1) (c4 : P.cellsOf f4.type = 1)
    (h : DataW.trod enc P W 0 (fun _ => true) true fuel t cs = some x) : ∃ r : Nt, cs = ntc r := by
  obtain ⟨xs, n, _, _, hl, hlen, hf⟩ := DataW.trod_struct ht h
  match xs, hlen with
  | [y0, y1, y2, y3, y4], _ =>
    have g0 := hf 0 f0 rfl
    rw [o0, c0] at g0
    have g1 := hf 1 f1 rfl
    rw [o1, c1] at g1
    have g2 := hf 2 f2 rfl
    rw [o2, c2] at g2
    have g3 := hf 3 f3 rfl
    rw [o3, c3] at g3
    have g4 := hf 4 f4 rfl
    rw [o4, c4] at g4
    rw [hc] at hl
    obtain ⟨x0, x1, x2, x3, x4, rfl⟩ := Uwelen hl
    have q0 : DataW.trod enc P W 0 (fun _ => true) true n f0.type [x0] = some y0 := g0
    obtain ⟨m0, e0, _, w0⟩ := DataW.trod_int u0 q0
    have e0' : x0 = .int .i64 m0 := by simpa using e0
    have q1 : DataW.trod enc P W 0 (fun _ => true) true n f1.type [x1] = some y1 := g1
    obtain ⟨m1, e1, _, w1⟩ := DataW.trod_int u1 q1
    have e1' : x1 = .int .i64 m1 := by simpa using e1
    have q2 : DataW.trod enc P W 0 (fun _ => true) true n f2.type [x2] = some y2 := g2
    obtain ⟨m2, e2, _, w2⟩ := DataW.trod_int u2 q2
    have e2' : x2 = .int .i64 m2 := by simpa using e2
    have q3 : DataW.trod enc P W 0 (fun _ => true) true n f3.type [x3] = some y3 := g3
    obtain ⟨m3, e3, _, w3⟩ := DataW.trod_int u3 q3
    have e3' : x3 = .int .i64 m3 := by simpa using e3
    have q4 : DataW.trod enc P W 0 (fun _ => true) true n f4.type [x4] = some y4 := g4
    obtain ⟨m4, e4, _, w4⟩ := DataW.trod_int u4 q4
    have e4' : x4 = .int .i64 m4 := by simpa using e4
    subst e0' e1' e2' e3' e4'
    exact ⟨⟨m0, m1, m2, m3, m4⟩, rfl⟩
theorem ntcs_at {H : Type} {enc : TypeId × Value → H} {P : Program} {W : World} {tS t : TypeId} {f0 f1 f2 f3 f4 : Field} {n : Nat} {x : Value} {y : DataW H × List MemPlace}
    (hS : P.underlying tS = some (.slice t)) (ht : P.underlying t = some (.struct #[f0, f1, f2, f3, f4])) (hc : P.cellsOf t = 5) (o0 : f0.offset = 0) (o1 : f1.offset = 1) (o2 : f2.offset = 2) (o3 : f3.offset = 3) (o4 : f4.offset = 4) (u0 : P.underlying f0.type = some (.int .i64)) (u1 : P.underlying f1.type = some (.int .i64)) (u2 : P.underlying f2.type = some (.int .i64)) (u3 : P.underlying f3.type = some (.int .i64)) (u4 : P.underlying f4.type = some (.int .i64)) (c0 : P.cellsOf f0.type = 1) (c1 : P.cellsOf f1.type = 1) (c2 : P.cellsOf f2.type = 1) (c3 : P.cellsOf f3.type = 1) (c4 : P.cellsOf f4.type = 1)
    (g : DataW.trod enc P W 0 (fun _ => true) true n tS [x] = some y) :
    ∃ (a : Option Addr) (cap : Nat) (l : List Nt), x = .slice a l.length cap ∧ Nts W.heap.size a l W ∧ l.length ≤ 9223372036854775807 := by
  obtain ⟨a, len, cap, rfl⟩ := slice_at hS g
  obtain ⟨rows, hlen, hgs, hrows, hmax⟩ := gsl_of hS hc (by decide) g
  obtain ⟨l, rfl, _⟩ := list_of (f := ntc) (Q := fun _ => True) rows (fun r hr => by
    obtain ⟨n, x, hx⟩ := hrows r hr
    obtain ⟨z, hz⟩ := ntc_of ht hc o0 o1 o2 o3 o4 u0 u1 u2 u3 u4 c0 c1 c2 c3 c4 hx
    exact ⟨z, hz, trivial⟩)
  have hlen' : l.length = len := by simpa using hlen
  subst hlen'
  have e : maxLen = 9223372036854775807 := by decide
  rw [e] at hmax
  exact ⟨a, cap, l, rfl, hgs, hmax⟩
theorem ntcs_of {H : Type} {enc : TypeId × Value → H} {P : Program} {W : World} {r : Reach} {b0 : Nat} {tS t : TypeId} {f0 f1 f2 f3 f4 : Field} {v : Value} {d : DataW H} {ps : List MemPlace}
    (hS : P.underlying tS = some (.slice t)) (ht : P.underlying t = some (.struct #[f0, f1, f2, f3, f4])) (hc : P.cellsOf t = 5) (o0 : f0.offset = 0) (o1 : f1.offset = 1) (o2 : f2.offset = 2) (o3 : f3.offset = 3) (o4 : f4.offset = 4) (u0 : P.underlying f0.type = some (.int .i64)) (u1 : P.underlying f1.type = some (.int .i64)) (u2 : P.underlying f2.type = some (.int .i64)) (u3 : P.underlying f3.type = some (.int .i64)) (u4 : P.underlying f4.type = some (.int .i64)) (c0 : P.cellsOf f0.type = 1) (c1 : P.cellsOf f1.type = 1) (c2 : P.cellsOf f2.type = 1) (c3 : P.cellsOf f3.type = 1) (c4 : P.cellsOf f4.type = 1)
    (hval : Value.okWide P W r b0 tS v) (h : DataW.Trod enc P W 0 (fun _ => true) true tS v d ps) :
    ∃ (a : Option Addr) (cap : Nat) (l : List Nt), v = .slice a l.length cap ∧ Nts W.heap.size a l W ∧ l.length ≤ 9223372036854775807 := by
  obtain ⟨a, len, cap, rfl⟩ := okWide_slice hS hval
  obtain ⟨fuel, hf⟩ := h
  have hf' : DataW.trod enc P W 0 (fun _ => true) true fuel tS [.slice a len cap] = some (d, ps) := hf
  exact ntcs_at hS ht hc o0 o1 o2 o3 o4 u0 u1 u2 u3 u4 c0 c1 c2 c3 c4 hf'
theorem Uw_of {H : Type} {enc : TypeId × Value → H} {P : Program} {W : World} {r : Reach} {b0 : Nat} {tW tI t : TypeId} {g0 g1 g2 g3 g4 f0 f1 f2 f3 f4 : Field} {v : Value} {d : DataW H} {ps : List MemPlace}
    (hH : P.underlying tW = some (.struct #[g0, g1, g2, g3, g4])) (hcH : P.cellsOf tW = 5) (p0 : g0.offset = 0) (p1 : g1.offset = 1) (p2 : g2.offset = 2) (p3 : g3.offset = 3) (p4 : g4.offset = 4)
    (d0 : P.cellsOf g0.type = 1) (d1 : P.cellsOf g1.type = 1) (d2 : P.cellsOf g2.type = 1) (d3 : P.cellsOf g3.type = 1) (d4 : P.cellsOf g4.type = 1)
    (v0 : P.underlying g0.type = some (.slice tI)) (v1 : P.underlying g1.type = some (.slice tI)) (v2 : P.underlying g2.type = some (.slice t)) (v3 : P.underlying g3.type = some (.int .i64)) (v4 : P.underlying g4.type = some (.slice tI))
    (uI : P.underlying tI = some (.int .i64)) (cI : P.cellsOf tI = 1) 
    (ht : P.underlying t = some (.struct #[f0, f1, f2, f3, f4])) (hc : P.cellsOf t = 5) (o0 : f0.offset = 0) (o1 : f1.offset = 1) (o2 : f2.offset = 2) (o3 : f3.offset = 3) (o4 : f4.offset = 4) (u0 : P.underlying f0.type = some (.int .i64)) (u1 : P.underlying f1.type = some (.int .i64)) (u2 : P.underlying f2.type = some (.int .i64)) (u3 : P.underlying f3.type = some (.int .i64)) (u4 : P.underlying f4.type = some (.int .i64)) (c0 : P.cellsOf f0.type = 1) (c1 : P.cellsOf f1.type = 1) (c2 : P.cellsOf f2.type = 1) (c3 : P.cellsOf f3.type = 1) (c4 : P.cellsOf f4.type = 1)
    (hval : Value.okWide P W r b0 tW v) (h : DataW.Trod enc P W 0 (fun _ => true) true tW v d ps) :
    ∃ (A : UwA) (X : Uw), v = .agg #[.slice A.c X.cl.length A.kc, .slice A.d X.dk.length A.kd, .slice A.l X.lg.length A.kl, .int .i64 X.sr, .slice A.o X.op.length A.ko] ∧ UwR W.heap.size A X W ∧ UwCnt X ∧ fit X.sr := by
  obtain ⟨cs, rfl, hsz⟩ := okWide_struct hH hval
  obtain ⟨fuel, hf⟩ := h
  have hf' : DataW.trod enc P W 0 (fun _ => true) true fuel tW (Value.agg cs).cells.toList = some (d, ps) := hf
  have hcs : (Value.agg cs).cells.toList = cs.toList := by simp [Value.cells]
  rw [hcs] at hf'
  obtain ⟨xs, n, _, _, hl, hlen, hfs⟩ := DataW.trod_struct hH hf'
  match xs, hlen with
  | [y0, y1, y2, y3, y4], _ =>
    have q0 := hfs 0 g0 rfl
    rw [p0, d0] at q0
    have q1 := hfs 1 g1 rfl
    rw [p1, d1] at q1
    have q2 := hfs 2 g2 rfl
    rw [p2, d2] at q2
    have q3 := hfs 3 g3 rfl
    rw [p3, d3] at q3
    have q4 := hfs 4 g4 rfl
    rw [p4, d4] at q4
    rw [hcH] at hl
    obtain ⟨x0, x1, x2, x3, x4, hx⟩ := Uwlen hl
    obtain rfl : cs = #[x0, x1, x2, x3, x4] := by
      apply Array.ext'
      exact hx
    have q0' : DataW.trod enc P W 0 (fun _ => true) true n g0.type [x0] = some y0 := q0
    obtain ⟨a0, k0, l0, rfl, h0, _, n0⟩ := ints_at v0 uI cI q0'
    have q1' : DataW.trod enc P W 0 (fun _ => true) true n g1.type [x1] = some y1 := q1
    obtain ⟨a1, k1, l1, rfl, h1, _, n1⟩ := ints_at v1 uI cI q1'
    have q2' : DataW.trod enc P W 0 (fun _ => true) true n g2.type [x2] = some y2 := q2
    obtain ⟨a2, k2, l2, rfl, h2, n2⟩ := ntcs_at v2 ht hc o0 o1 o2 o3 o4 u0 u1 u2 u3 u4 c0 c1 c2 c3 c4 q2'
    have q3' : DataW.trod enc P W 0 (fun _ => true) true n g3.type [x3] = some y3 := q3
    obtain ⟨z3, e3, _, hz3⟩ := DataW.trod_int v3 q3'
    have e3' : x3 = .int .i64 z3 := by simpa using e3
    subst e3'
    have q4' : DataW.trod enc P W 0 (fun _ => true) true n g4.type [x4] = some y4 := q4
    obtain ⟨a4, k4, l4, rfl, h4, _, n4⟩ := ints_at v4 uI cI q4'
    exact ⟨⟨a0, k0, a1, k1, a2, k2, a4, k4⟩, ⟨l0, l1, l2, z3, l4⟩, rfl, ⟨h0, h1, h2, h4⟩, ⟨n0, n1, n2, n4⟩, fit_of hz3⟩
end Go.Proofs.Ytgompioaknfjgab
