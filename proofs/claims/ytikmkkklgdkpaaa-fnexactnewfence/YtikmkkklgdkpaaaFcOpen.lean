/- Fences that came in, opened. -/
import Derived.Test.YtikmkkklgdkpaaaAOpen
import Derived.Test.YtikmkkklgdkpaaaFcW
import Derived.Deep.Strs
namespace Go.Proofs.Ytikmkkklgdkpaaa
set_option maxRecDepth 100000
open Go Go.ChangeShapes Go.WideShapes Go.ChangeAt Go.RowKit Go.Deep
theorem one_of {α : Type} {l : List α} (h : l.length = 1) : ∃ x, l = [x] := by
  match l, h with
  | [x], _ => exact ⟨x, rfl⟩
theorem four_of {α : Type} {l : List α} (h : l.length = 4) : ∃ a b c d, l = [a, b, c, d] := by
  match l, h with
  | [a, b, c, d], _ => exact ⟨a, b, c, d, rfl⟩
theorem eight_of {α : Type} {l : List α} (h : l.length = 8) : ∃ a b c d e f g i, l = [a, b, c, d, e, f, g, i] := by
  match l, h with
  | [a, b, c, d, e, f, g, i], _ => exact ⟨a, b, c, d, e, f, g, i, rfl⟩
theorem rows_at {H : Type} {enc : TypeId × Value → H} {P : Program} {W : World} {tS t t1 : TypeId} {n : Nat} {x : Value} {y : DataW H × List MemPlace}
    (hS : P.underlying tS = some (.slice t)) (ht : P.underlying t = some (.slice t1)) (hc : P.cellsOf t = 1) (u2 : P.underlying t1 = some (.int .i64)) (c2 : P.cellsOf t1 = 1)
    (g : DataW.trod enc P W 0 (fun _ => true) true n tS [x] = some y) :
    ∃ (a : Option Addr) (cap : Nat) (L : List (List Int)), x = .slice a L.length cap ∧ Js W.heap.size a L W ∧ (∀ v ∈ L, v.length ≤ 9223372036854775807) ∧ L.length ≤ 9223372036854775807 := by
  obtain ⟨a, len, cap, rfl⟩ := slice_at hS g
  obtain ⟨rows, hlen, hgs, hrows, hmax⟩ := gsl_of hS hc (by decide) g
  obtain ⟨zs, rfl, hq⟩ := list_of (α := List Int × Option Addr × Nat) (f := fun z => [.slice z.2.1 z.1.length z.2.2]) (Q := fun z => Is W.heap.size z.2.1 z.1 W ∧ z.1.length ≤ 9223372036854775807) rows (fun r hr => by
    obtain ⟨n, x, hx⟩ := hrows r hr
    have hr1 : r.length = 1 := by
      rcases open_slice ht hx with ⟨hcs, _⟩ | ⟨x', l, c, _, _, _, _, hcs, _⟩
      · rw [hcs]; rfl
      · rw [hcs]; rfl
    obtain ⟨r0, rfl⟩ := one_of hr1
    obtain ⟨p, c, l, rfl, hI, _, hll⟩ := ints_at ht u2 c2 hx
    exact ⟨(l, p, c), rfl, hI, hll⟩)
  have hlen' : zs.length = len := by simpa using hlen
  subst hlen'
  have e : maxLen = 9223372036854775807 := by decide
  rw [e] at hmax
  refine ⟨a, cap, zs.map (·.1), by simp, fun h0 => ?_, fun s hs => ?_, by simpa using hmax⟩
  · obtain ⟨b, off, ea, hb, hcl⟩ := hgs.cell (by simpa using h0)
    refine ⟨b, off, ea, hb, fun i hi => ?_⟩
    have hi' : i < zs.length := by simpa using hi
    have k0 := hcl i (by simpa using hi) 0 (by decide)
    rw [List.getElem_map, Nat.mul_one, Nat.add_zero] at k0
    rw [List.getElem_map]
    exact ⟨zs[i].2.1, zs[i].2.2, k0, (hq _ (List.getElem_mem hi')).1⟩
  · obtain ⟨z, hz, rfl⟩ := List.mem_map.1 hs
    exact (hq z hz).2
theorem pcells_of {H : Type} {enc : TypeId × Value → H} {P : Program} {W : World} {t : TypeId} {f0 f1 f2 f3 : Field} {fuel : Nat} {cs : List Value} {x : DataW H × List MemPlace}
    (ht : P.underlying t = some (.struct #[f0, f1, f2, f3])) (hc : P.cellsOf t = 4) (o0 : f0.offset = 0) (o1 : f1.offset = 1) (o2 : f2.offset = 2) (o3 : f3.offset = 3) (u0 : P.underlying f0.type = some (.int .i64)) (u1 : P.underlying f1.type = some (.int .i64)) (u2 : P.underlying f2.type = some (.int .i64)) (u3 : P.underlying f3.type = some (.int .i64)) (c0 : P.cellsOf f0.type = 1) (c1 : P.cellsOf f1.type = 1) (c2 : P.cellsOf f2.type = 1) (c3 : P.cellsOf f3.type = 1)
    (h : DataW.trod enc P W 0 (fun _ => true) true fuel t cs = some x) : ∃ r : Pp, cs = pcells r := by
  obtain ⟨xs, n, _, _, hl, hlen, hf⟩ := DataW.trod_struct ht h
  match xs, hlen with
  | [y0, y1, y2, y3], _ =>
    have g0 := hf 0 f0 rfl
    rw [o0, c0] at g0
    have g1 := hf 1 f1 rfl
    rw [o1, c1] at g1
    have g2 := hf 2 f2 rfl
    rw [o2, c2] at g2
    have g3 := hf 3 f3 rfl
    rw [o3, c3] at g3
    rw [hc] at hl
    obtain ⟨x0, x1, x2, x3, rfl⟩ := four_of hl
    have q0 : DataW.trod enc P W 0 (fun _ => true) true n f0.type [x0] = some y0 := g0
    obtain ⟨m0, e0, _, w0⟩ := DataW.trod_int u0 q0
    have e0' : x0 = .int .i64 m0 := by simpa using e0
    have q1 : DataW.trod enc P W 0 (fun _ => true) true n f1.type [x1] = some y1 := g1
    obtain ⟨m1, e1, _, w1⟩ := DataW.trod_int u1 q1
    have e1' : x1 = .int .i64 m1 := by simpa using e1
    have q2 : DataW.trod enc P W 0 (fun _ => true) true n f2.type [x2] = some y2 := g2
    obtain ⟨m2, e2, _, w2⟩ := DataW.trod_int u2 q2
    have e2' : x2 = .int .i64 m2 := by simpa using e2
    have q3 : DataW.trod enc P W 0 (fun _ => true) true n f3.type [x3] = some y3 := g3
    obtain ⟨m3, e3, _, w3⟩ := DataW.trod_int u3 q3
    have e3' : x3 = .int .i64 m3 := by simpa using e3
    subst e0' e1' e2' e3'
    exact ⟨⟨m0, m1, m2, m3⟩, rfl⟩
theorem papers_at {H : Type} {enc : TypeId × Value → H} {P : Program} {W : World} {tS t : TypeId} {f0 f1 f2 f3 : Field} {n : Nat} {x : Value} {y : DataW H × List MemPlace}
    (hS : P.underlying tS = some (.slice t)) (ht : P.underlying t = some (.struct #[f0, f1, f2, f3])) (hc : P.cellsOf t = 4) (o0 : f0.offset = 0) (o1 : f1.offset = 1) (o2 : f2.offset = 2) (o3 : f3.offset = 3) (u0 : P.underlying f0.type = some (.int .i64)) (u1 : P.underlying f1.type = some (.int .i64)) (u2 : P.underlying f2.type = some (.int .i64)) (u3 : P.underlying f3.type = some (.int .i64)) (c0 : P.cellsOf f0.type = 1) (c1 : P.cellsOf f1.type = 1) (c2 : P.cellsOf f2.type = 1) (c3 : P.cellsOf f3.type = 1)
    (g : DataW.trod enc P W 0 (fun _ => true) true n tS [x] = some y) :
    ∃ (a : Option Addr) (cap : Nat) (l : List Pp), x = .slice a l.length cap ∧ Ps W.heap.size a l W ∧ l.length ≤ 9223372036854775807 := by
  obtain ⟨a, len, cap, rfl⟩ := slice_at hS g
  obtain ⟨rows, hlen, hgs, hrows, hmax⟩ := gsl_of hS hc (by decide) g
  obtain ⟨l, rfl, _⟩ := list_of (f := pcells) (Q := fun _ => True) rows (fun r hr => by
    obtain ⟨n, x, hx⟩ := hrows r hr
    obtain ⟨z, hz⟩ := pcells_of ht hc o0 o1 o2 o3 u0 u1 u2 u3 c0 c1 c2 c3 hx
    exact ⟨z, hz, trivial⟩)
  have hlen' : l.length = len := by simpa using hlen
  subst hlen'
  have e : maxLen = 9223372036854775807 := by decide
  rw [e] at hmax
  exact ⟨a, cap, l, rfl, hgs, hmax⟩
theorem fence_of {H : Type} {enc : TypeId × Value → H} {P : Program} {W : World} {r : Reach} {b0 : Nat} {tW tI tV tN t : TypeId} {g0 g1 g2 g3 g4 g5 g6 g7 f0 f1 f2 f3 : Field} {v : Value} {d : DataW H} {ps : List MemPlace}
    (hH : P.underlying tW = some (.struct #[g0, g1, g2, g3, g4, g5, g6, g7])) (hcH : P.cellsOf tW = 8) (p0 : g0.offset = 0) (p1 : g1.offset = 1) (p2 : g2.offset = 2) (p3 : g3.offset = 3) (p4 : g4.offset = 4) (p5 : g5.offset = 5) (p6 : g6.offset = 6) (p7 : g7.offset = 7)
    (d0 : P.cellsOf g0.type = 1) (d1 : P.cellsOf g1.type = 1) (d2 : P.cellsOf g2.type = 1) (d3 : P.cellsOf g3.type = 1) (d4 : P.cellsOf g4.type = 1) (d5 : P.cellsOf g5.type = 1) (d6 : P.cellsOf g6.type = 1) (d7 : P.cellsOf g7.type = 1)
    (v0 : P.underlying g0.type = some (.slice tI)) (v1 : P.underlying g1.type = some (.slice tI)) (v2 : P.underlying g2.type = some (.slice tI)) (v3 : P.underlying g3.type = some (.slice tV)) (v4 : P.underlying g4.type = some (.slice tV)) (v5 : P.underlying g5.type = some (.slice t)) (v6 : P.underlying g6.type = some (.int .i64)) (v7 : P.underlying g7.type = some (.slice tV))
    (uI : P.underlying tI = some (.int .i64)) (cI : P.cellsOf tI = 1) (uV : P.underlying tV = some (.slice tN)) (cV : P.cellsOf tV = 1) (uN : P.underlying tN = some (.int .i64)) (cN : P.cellsOf tN = 1)
    (ht : P.underlying t = some (.struct #[f0, f1, f2, f3])) (hc : P.cellsOf t = 4) (o0 : f0.offset = 0) (o1 : f1.offset = 1) (o2 : f2.offset = 2) (o3 : f3.offset = 3) (u0 : P.underlying f0.type = some (.int .i64)) (u1 : P.underlying f1.type = some (.int .i64)) (u2 : P.underlying f2.type = some (.int .i64)) (u3 : P.underlying f3.type = some (.int .i64)) (c0 : P.cellsOf f0.type = 1) (c1 : P.cellsOf f1.type = 1) (c2 : P.cellsOf f2.type = 1) (c3 : P.cellsOf f3.type = 1)
    (hval : Value.okWide P W r b0 tW v) (h : DataW.Trod enc P W 0 (fun _ => true) true tW v d ps) :
    ∃ (A : Af) (X : Fc), v = .agg #[.slice A.j X.jd.length A.kj, .slice A.g X.gv.length A.kg, .slice A.p X.pl.length A.kp, .slice A.v X.vt.length A.kv, .slice A.n X.wn.length A.kn, .slice A.l X.ln.length A.kl, .int .i64 X.sn, .slice A.s X.st.length A.ks] ∧ FR W.heap.size A X W ∧ CntF X ∧ fit X.sn := by
  obtain ⟨cs, rfl, hsz⟩ := okWide_struct hH hval
  obtain ⟨fuel, hf⟩ := h
  have hf' : DataW.trod enc P W 0 (fun _ => true) true fuel tW (Value.agg cs).cells.toList = some (d, ps) := hf
  have hcs : (Value.agg cs).cells.toList = cs.toList := by simp [Value.cells]
  rw [hcs] at hf'
  obtain ⟨xs, n, _, _, hl, hlen, hfs⟩ := DataW.trod_struct hH hf'
  match xs, hlen with
  | [y0, y1, y2, y3, y4, y5, y6, y7], _ =>
    have q0 := hfs 0 g0 rfl
    rw [p0, d0] at q0
    have q1 := hfs 1 g1 rfl
    rw [p1, d1] at q1
    have q2 := hfs 2 g2 rfl
    rw [p2, d2] at q2
    have q3 := hfs 3 g3 rfl
    rw [p3, d3] at q3
    have q4 := hfs 4 g4 rfl
    rw [p4, d4] at q4
    have q5 := hfs 5 g5 rfl
    rw [p5, d5] at q5
    have q6 := hfs 6 g6 rfl
    rw [p6, d6] at q6
    have q7 := hfs 7 g7 rfl
    rw [p7, d7] at q7
    rw [hcH] at hl
    obtain ⟨x0, x1, x2, x3, x4, x5, x6, x7, hx⟩ := eight_of hl
    obtain rfl : cs = #[x0, x1, x2, x3, x4, x5, x6, x7] := by
      apply Array.ext'
      exact hx
    have q0' : DataW.trod enc P W 0 (fun _ => true) true n g0.type [x0] = some y0 := q0
    obtain ⟨a0, k0, l0, rfl, h0, _, n0⟩ := ints_at v0 uI cI q0'
    have q1' : DataW.trod enc P W 0 (fun _ => true) true n g1.type [x1] = some y1 := q1
    obtain ⟨a1, k1, l1, rfl, h1, _, n1⟩ := ints_at v1 uI cI q1'
    have q2' : DataW.trod enc P W 0 (fun _ => true) true n g2.type [x2] = some y2 := q2
    obtain ⟨a2, k2, l2, rfl, h2, _, n2⟩ := ints_at v2 uI cI q2'
    have q3' : DataW.trod enc P W 0 (fun _ => true) true n g3.type [x3] = some y3 := q3
    obtain ⟨a3, k3, l3, rfl, h3, z3, n3⟩ := rows_at v3 uV cV uN cN q3'
    have q4' : DataW.trod enc P W 0 (fun _ => true) true n g4.type [x4] = some y4 := q4
    obtain ⟨a4, k4, l4, rfl, h4, z4, n4⟩ := rows_at v4 uV cV uN cN q4'
    have q5' : DataW.trod enc P W 0 (fun _ => true) true n g5.type [x5] = some y5 := q5
    obtain ⟨a5, k5, l5, rfl, h5, n5⟩ := papers_at v5 ht hc o0 o1 o2 o3 u0 u1 u2 u3 c0 c1 c2 c3 q5'
    have q6' : DataW.trod enc P W 0 (fun _ => true) true n g6.type [x6] = some y6 := q6
    obtain ⟨z, e6, _, hz⟩ := DataW.trod_int v6 q6'
    have e6' : x6 = .int .i64 z := by simpa using e6
    subst e6'
    have q7' : DataW.trod enc P W 0 (fun _ => true) true n g7.type [x7] = some y7 := q7
    obtain ⟨a7, k7, l7, rfl, h7, z7, n7⟩ := rows_at v7 uV cV uN cN q7'
    exact ⟨⟨a0, k0, a1, k1, a2, k2, a3, k3, a4, k4, a5, k5, a7, k7⟩, ⟨l0, l1, l2, l3, l4, l5, z, l7⟩, rfl, ⟨h0, h1, h2, h3, h4, h5, h7⟩, ⟨n0, n1, n2, n3, z3, n4, z4, n5, n7, z7⟩, fit_of hz⟩
end Go.Proofs.Ytikmkkklgdkpaaa
