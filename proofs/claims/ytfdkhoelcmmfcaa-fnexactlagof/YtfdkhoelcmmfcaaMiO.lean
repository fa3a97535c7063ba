/- Mirror that came in, opened. -/
import Derived.Test.YtfdkhoelcmmfcaaMiW
import Derived.Test.YtfdkhoelcmmfcaaHA
namespace Go.Proofs.Ytfdkhoelcmmfcaa
set_option maxRecDepth 100000
open Go Go.Deep Go.ChangeShapes Go.WideShapes Go.ChangeAt Go.RowKit
theorem Milen {l : List Value} (h : l.length = 6) : ∃ x0 x1 x2 x3 x4 x5, l = [x0, x1, x2, x3, x4, x5] := by
  match l, h with
  | [x0, x1, x2, x3, x4, x5], _ => exact ⟨x0, x1, x2, x3, x4, x5, rfl⟩
theorem marks_at {H : Type} {enc : TypeId × Value → H} {P : Program} {W : World} {tM tG t1 t2 : TypeId} {fS f0 f1 f2 : Field} {n : Nat} {x : Value} {y : DataW H × List MemPlace}
    (hM : P.underlying tM = some (.struct #[fS])) (_hcM : P.cellsOf tM = 1) (oS : fS.offset = 0) (cS : P.cellsOf fS.type = 1) (uS : P.underlying fS.type = some (.slice tG))
    (ht : P.underlying tG = some (.struct #[f0, f1, f2])) (hc : P.cellsOf tG = 3) (o0 : f0.offset = 0) (o1 : f1.offset = 1) (o2 : f2.offset = 2)
    (u0 : P.underlying f0.type = some (.int .i64)) (u1 : P.underlying f1.type = some (.slice t1)) (u2 : P.underlying f2.type = some (.slice t2)) (v1 : P.underlying t1 = some (.int .i64)) (v2 : P.underlying t2 = some .string)
    (c0 : P.cellsOf f0.type = 1) (c1 : P.cellsOf f1.type = 1) (c2 : P.cellsOf f2.type = 1) (d1 : P.cellsOf t1 = 1) (d2 : P.cellsOf t2 = 1)
    (g : DataW.trod enc P W 0 (fun _ => true) true n tM [x] = some y) :
    ∃ (a : Option Addr) (k : Nat) (S : List Ly), x = .slice a S.length k ∧ Ys W.heap.size a S W ∧ (∀ s ∈ S, fitY s) ∧ S.length ≤ 9223372036854775807 := by
  obtain ⟨y0, n', _, hl, g0⟩ := trod_struct1 hM g
  rw [oS, cS] at g0
  have g0' : DataW.trod enc P W 0 (fun _ => true) true n' fS.type [x] = some y0 := g0
  exact layers_at uS ht hc o0 o1 o2 u0 u1 u2 v1 v2 c0 c1 c2 d1 d2 g0'
theorem Mi_of {H : Type} {enc : TypeId × Value → H} {P : Program} {W : World} {r : Reach} {b0 : Nat} {tW tG t1 t2 : TypeId} {g0 g1 g2 g3 g4 g5 fS f0 f1 f2 : Field} {v : Value} {d : DataW H} {ps : List MemPlace}
    (hH : P.underlying tW = some (.struct #[g0, g1, g2, g3, g4, g5])) (hcH : P.cellsOf tW = 6) (p0 : g0.offset = 0) (p1 : g1.offset = 1) (p2 : g2.offset = 2) (p3 : g3.offset = 3) (p4 : g4.offset = 4) (p5 : g5.offset = 5)
    (e0 : P.cellsOf g0.type = 1) (e1 : P.cellsOf g1.type = 1) (e2 : P.cellsOf g2.type = 1) (e3 : P.cellsOf g3.type = 1) (e4 : P.cellsOf g4.type = 1) (e5 : P.cellsOf g5.type = 1)
    (w0 : P.underlying g0.type = some (.struct #[fS])) (w1 : P.underlying g1.type = some (.struct #[fS])) (w2 : P.underlying g2.type = some (.slice t1)) (w3 : P.underlying g3.type = some (.slice t2)) (w4 : P.underlying g4.type = some (.int .i64)) (w5 : P.underlying g5.type = some (.int .i64))
    (oS : fS.offset = 0) (cS : P.cellsOf fS.type = 1) (uS : P.underlying fS.type = some (.slice tG))
    (ht : P.underlying tG = some (.struct #[f0, f1, f2])) (hc : P.cellsOf tG = 3) (o0 : f0.offset = 0) (o1 : f1.offset = 1) (o2 : f2.offset = 2)
    (u0 : P.underlying f0.type = some (.int .i64)) (u1 : P.underlying f1.type = some (.slice t1)) (u2 : P.underlying f2.type = some (.slice t2)) (v1 : P.underlying t1 = some (.int .i64)) (v2 : P.underlying t2 = some .string)
    (c0 : P.cellsOf f0.type = 1) (c1 : P.cellsOf f1.type = 1) (c2 : P.cellsOf f2.type = 1) (d1 : P.cellsOf t1 = 1) (d2 : P.cellsOf t2 = 1)
    (hval : Value.okWide P W r b0 tW v) (h : DataW.Trod enc P W 0 (fun _ => true) true tW v d ps) :
    ∃ (A : MiA) (X : Mi), v = .agg #[.slice A.s X.S.length A.ks, .slice A.r X.R.length A.kr, .slice A.t X.st.length A.kt, .slice A.d X.dt.length A.kd, .int .i64 X.tx, .int .i64 X.he] ∧ MiR W.heap.size A X W ∧ MiCnt X ∧ fit X.tx ∧ fit X.he := by
  obtain ⟨cs, rfl, hsz⟩ := okWide_struct hH hval
  obtain ⟨fuel, hf⟩ := h
  have hf' : DataW.trod enc P W 0 (fun _ => true) true fuel tW (Value.agg cs).cells.toList = some (d, ps) := hf
  have hcs : (Value.agg cs).cells.toList = cs.toList := by simp [Value.cells]
  rw [hcs] at hf'
  obtain ⟨xs, n, _, _, hl, hlen, hfs⟩ := DataW.trod_struct hH hf'
  match xs, hlen with
  | [y0, y1, y2, y3, y4, y5], _ =>
    have q0 := hfs 0 g0 rfl
    rw [p0, e0] at q0
    have q1 := hfs 1 g1 rfl
    rw [p1, e1] at q1
    have q2 := hfs 2 g2 rfl
    rw [p2, e2] at q2
    have q3 := hfs 3 g3 rfl
    rw [p3, e3] at q3
    have q4 := hfs 4 g4 rfl
    rw [p4, e4] at q4
    have q5 := hfs 5 g5 rfl
    rw [p5, e5] at q5
    rw [hcH] at hl
    obtain ⟨x0, x1, x2, x3, x4, x5, hx⟩ := Milen hl
    obtain rfl : cs = #[x0, x1, x2, x3, x4, x5] := by
      apply Array.ext'
      exact hx
    have q0' : DataW.trod enc P W 0 (fun _ => true) true n g0.type [x0] = some y0 := q0
    obtain ⟨a0, k0, l0, rfl, h0, z0, n0⟩ := marks_at w0 e0 oS cS uS ht hc o0 o1 o2 u0 u1 u2 v1 v2 c0 c1 c2 d1 d2 q0'
    have q1' : DataW.trod enc P W 0 (fun _ => true) true n g1.type [x1] = some y1 := q1
    obtain ⟨a1, k1, l1, rfl, h1, z1, n1⟩ := marks_at w1 e1 oS cS uS ht hc o0 o1 o2 u0 u1 u2 v1 v2 c0 c1 c2 d1 d2 q1'
    have q2' : DataW.trod enc P W 0 (fun _ => true) true n g2.type [x2] = some y2 := q2
    obtain ⟨a2, k2, l2, rfl, h2, z2, n2⟩ := ints_at w2 v1 d1 q2'
    have q3' : DataW.trod enc P W 0 (fun _ => true) true n g3.type [x3] = some y3 := q3
    obtain ⟨a3, k3, l3, rfl, h3, z3, n3⟩ := strs_at w3 v2 d2 q3'
    have q4' : DataW.trod enc P W 0 (fun _ => true) true n g4.type [x4] = some y4 := q4
    obtain ⟨z4, s4, _, hz4⟩ := DataW.trod_int w4 q4'
    have s4' : x4 = .int .i64 z4 := by simpa using s4
    subst s4'
    have q5' : DataW.trod enc P W 0 (fun _ => true) true n g5.type [x5] = some y5 := q5
    obtain ⟨z5, s5, _, hz5⟩ := DataW.trod_int w5 q5'
    have s5' : x5 = .int .i64 z5 := by simpa using s5
    subst s5'
    exact ⟨⟨a0, k0, a1, k1, a2, k2, a3, k3⟩, ⟨l0, l1, l2, l3, z4, z5⟩, rfl, ⟨h0, h1, h2, h3⟩, ⟨n0, fun s hs => ⟨(z0 s hs).nbl, (z0 s hs).dt, (z0 s hs).ndt⟩, n1, fun s hs => ⟨(z1 s hs).nbl, (z1 s hs).dt, (z1 s hs).ndt⟩, n2, n3, z3⟩, fit_of hz4, fit_of hz5⟩
end Go.Proofs.Ytfdkhoelcmmfcaa
