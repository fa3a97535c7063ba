/- Marks that came in, opened. -/
import Derived.Test.YtiionfmpbifbcaaHA
import Derived.Deep.Strs
namespace Go.Proofs.Ytiionfmpbifbcaa
set_option maxRecDepth 100000
open Go Go.ChangeShapes Go.WideShapes Go.ChangeAt Go.RowKit Go.Deep
/-- what an int holds -/
def fit (n : Int) : Prop := -9223372036854775808 ≤ n ∧ n ≤ 9223372036854775807
theorem fit_of {n : Int} (h : (Lit.int .i64 n).wf = true) : fit n := by
  have := bounds_i64 h
  exact ⟨by omega, by omega⟩
theorem slice_at {H : Type} {enc : TypeId × Value → H} {P : Program} {W : World} {tS t : TypeId} {n : Nat} {x : Value} {y : DataW H × List MemPlace} (hS : P.underlying tS = some (.slice t))
    (g : DataW.trod enc P W 0 (fun _ => true) true n tS [x] = some y) : ∃ a len cap, x = .slice a len cap := by
  rcases open_slice hS g with ⟨hcs, _⟩ | ⟨x', l, c, _, _, _, _, hcs, _⟩
  · exact ⟨none, 0, 0, by simpa using hcs⟩
  · exact ⟨some x', l, c, by simpa using hcs⟩
theorem ints_at {H : Type} {enc : TypeId × Value → H} {P : Program} {W : World} {tS t : TypeId} {n : Nat} {x : Value} {y : DataW H × List MemPlace}
    (hS : P.underlying tS = some (.slice t)) (ht : P.underlying t = some (.int .i64)) (hc : P.cellsOf t = 1)
    (g : DataW.trod enc P W 0 (fun _ => true) true n tS [x] = some y) :
    ∃ (a : Option Addr) (cap : Nat) (l : List Int), x = .slice a l.length cap ∧ Is W.heap.size a l W ∧ (∀ x ∈ l, fit x) ∧ l.length ≤ 9223372036854775807 := by
  obtain ⟨a, len, cap, rfl⟩ := slice_at hS g
  obtain ⟨rows, hlen, hgs, hrows, hmax⟩ := gsl_of hS hc (by decide) g
  obtain ⟨l, rfl, hq⟩ := list_of (f := icell) (Q := fit) rows (fun r hr => by
    obtain ⟨n, x, hx⟩ := hrows r hr
    obtain ⟨m0, e0, _, w0⟩ := DataW.trod_int ht hx
    exact ⟨m0, e0, fit_of w0⟩)
  have hlen' : l.length = len := by simpa using hlen
  subst hlen'
  have e : maxLen = 9223372036854775807 := by decide
  rw [e] at hmax
  exact ⟨a, cap, l, rfl, hgs, hq, hmax⟩
theorem strs_at {H : Type} {enc : TypeId × Value → H} {P : Program} {W : World} {tS t : TypeId} {n : Nat} {x : Value} {y : DataW H × List MemPlace}
    (hS : P.underlying tS = some (.slice t)) (ht : P.underlying t = some .string) (hc : P.cellsOf t = 1)
    (g : DataW.trod enc P W 0 (fun _ => true) true n tS [x] = some y) :
    ∃ (a : Option Addr) (cap : Nat) (l : List ByteArray), x = .slice a l.length cap ∧ Ss W.heap.size a l W ∧ (∀ x ∈ l, x.size ≤ 9223372036854775807) ∧ l.length ≤ 9223372036854775807 := by
  obtain ⟨a, len, cap, rfl⟩ := slice_at hS g
  obtain ⟨rows, hlen, hgs, hrows, hmax⟩ := gsl_of hS hc (by decide) g
  have e : maxLen = 9223372036854775807 := by decide
  obtain ⟨l, rfl, hq⟩ := list_of (f := scell) (Q := fun s => s.size ≤ 9223372036854775807) rows (fun r hr => by
    obtain ⟨n, x, hx⟩ := hrows r hr
    obtain ⟨s, e0, _, hs⟩ := DataW.trod_string ht hx
    rw [e] at hs
    exact ⟨s, e0, hs⟩)
  have hlen' : l.length = len := by simpa using hlen
  subst hlen'
  rw [e] at hmax
  exact ⟨a, cap, l, rfl, hgs, hq, hmax⟩
theorem one_of {α : Type} {l : List α} (h : l.length = 1) : ∃ x, l = [x] := by
  match l, h with
  | [x], _ => exact ⟨x, rfl⟩
theorem three_of {α : Type} {l : List α} (h : l.length = 3) : ∃ x y z, l = [x, y, z] := by
  match l, h with
  | [x, y, z], _ => exact ⟨x, y, z, rfl⟩
/-- a layer: its numbers fit an int, its lengths too -/
structure fitY (y : Ly) : Prop where
  mark : fit y.mark
  bl : ∀ x ∈ y.bl, fit x
  nbl : y.bl.length ≤ 9223372036854775807
  dt : ∀ x ∈ y.dt, x.size ≤ 9223372036854775807
  ndt : y.dt.length ≤ 9223372036854775807
theorem layers_at {H : Type} {enc : TypeId × Value → H} {P : Program} {W : World} {tS t t1 t2 : TypeId} {f0 f1 f2 : Field} {n : Nat} {x : Value} {y : DataW H × List MemPlace}
    (hS : P.underlying tS = some (.slice t)) (ht : P.underlying t = some (.struct #[f0, f1, f2])) (hc : P.cellsOf t = 3) (o0 : f0.offset = 0) (o1 : f1.offset = 1) (o2 : f2.offset = 2)
    (u0 : P.underlying f0.type = some (.int .i64)) (u1 : P.underlying f1.type = some (.slice t1)) (u2 : P.underlying f2.type = some (.slice t2)) (v1 : P.underlying t1 = some (.int .i64)) (v2 : P.underlying t2 = some .string)
    (c0 : P.cellsOf f0.type = 1) (c1 : P.cellsOf f1.type = 1) (c2 : P.cellsOf f2.type = 1) (d1 : P.cellsOf t1 = 1) (d2 : P.cellsOf t2 = 1)
    (g : DataW.trod enc P W 0 (fun _ => true) true n tS [x] = some y) :
    ∃ (a : Option Addr) (cap : Nat) (S : List Ly), x = .slice a S.length cap ∧ Ys W.heap.size a S W ∧ (∀ s ∈ S, fitY s) ∧ S.length ≤ 9223372036854775807 := by
  obtain ⟨a, len, cap, rfl⟩ := slice_at hS g
  obtain ⟨rows, hlen, hgs, hrows, hmax⟩ := gsl_of hS hc (by decide) g
  obtain ⟨zs, rfl, hq⟩ := list_of (α := Ly × Option Addr × Nat × Option Addr × Nat) (f := fun z => [.int .i64 z.1.mark, .slice z.2.1 z.1.bl.length z.2.2.1, .slice z.2.2.2.1 z.1.dt.length z.2.2.2.2]) (Q := fun z => Is W.heap.size z.2.1 z.1.bl W ∧ Ss W.heap.size z.2.2.2.1 z.1.dt W ∧ fitY z.1) rows (fun r hr => by
    obtain ⟨n, x, hx⟩ := hrows r hr
    obtain ⟨y0, y1, y2, n2, _, hl, g0, g1, g2⟩ := trod_struct3 ht hx
    rw [o0, c0] at g0
    rw [o1, c1] at g1
    rw [o2, c2] at g2
    rw [hc] at hl
    obtain ⟨r0, r1, r2, rfl⟩ := three_of hl
    have g0' : DataW.trod enc P W 0 (fun _ => true) true n2 f0.type [r0] = some y0 := g0
    have g1' : DataW.trod enc P W 0 (fun _ => true) true n2 f1.type [r1] = some y1 := g1
    have g2' : DataW.trod enc P W 0 (fun _ => true) true n2 f2.type [r2] = some y2 := g2
    obtain ⟨m, e1, _, hm⟩ := DataW.trod_int u0 g0'
    have e1' : r0 = .int .i64 m := by simpa using e1
    subst e1'
    obtain ⟨p, c, l, rfl, hI, hfl, hll⟩ := ints_at u1 v1 d1 g1'
    obtain ⟨q, d, k, rfl, hJ, hfk, hkk⟩ := strs_at u2 v2 d2 g2'
    exact ⟨(⟨m, l, k⟩, p, c, q, d), rfl, hI, hJ, fit_of hm, hfl, hll, hfk, hkk⟩)
  have hlen' : zs.length = len := by simpa using hlen
  subst hlen'
  have e : maxLen = 9223372036854775807 := by decide
  rw [e] at hmax
  refine ⟨a, cap, zs.map (·.1), by simp, fun h0 => ?_, fun s hs => ?_, by simpa using hmax⟩
  · obtain ⟨b, off, ea, hb, hcl⟩ := hgs.cell (by simpa using h0)
    refine ⟨b, off, ea, hb, fun i hi => ?_⟩
    have hi' : i < zs.length := by simpa using hi
    have k0 := hcl i (by simpa using hi) 0 (by decide)
    have k1 := hcl i (by simpa using hi) 1 (by decide)
    have k2 := hcl i (by simpa using hi) 2 (by decide)
    rw [List.getElem_map] at k0 k1 k2
    rw [List.getElem_map]
    exact ⟨zs[i].2.1, zs[i].2.2.1, zs[i].2.2.2.1, zs[i].2.2.2.2, k0, k1, k2, (hq _ (List.getElem_mem hi')).1, (hq _ (List.getElem_mem hi')).2.1⟩
  · obtain ⟨z, hz, rfl⟩ := List.mem_map.1 hs
    exact (hq z hz).2.2
theorem marks_of {H : Type} {enc : TypeId × Value → H} {P : Program} {W : World} {r : Reach} {b0 : Nat} {tM tG t1 t2 : TypeId} {fS f0 f1 f2 : Field} {v : Value} {d : DataW H} {ps : List MemPlace}
    (hM : P.underlying tM = some (.struct #[fS])) (hcM : P.cellsOf tM = 1) (oS : fS.offset = 0) (cS : P.cellsOf fS.type = 1)
    (uS : P.underlying fS.type = some (.slice tG))
    (ht : P.underlying tG = some (.struct #[f0, f1, f2])) (hc : P.cellsOf tG = 3) (o0 : f0.offset = 0) (o1 : f1.offset = 1) (o2 : f2.offset = 2)
    (u0 : P.underlying f0.type = some (.int .i64)) (u1 : P.underlying f1.type = some (.slice t1)) (u2 : P.underlying f2.type = some (.slice t2)) (v1 : P.underlying t1 = some (.int .i64)) (v2 : P.underlying t2 = some .string)
    (c0 : P.cellsOf f0.type = 1) (c1 : P.cellsOf f1.type = 1) (c2 : P.cellsOf f2.type = 1) (d1 : P.cellsOf t1 = 1) (d2 : P.cellsOf t2 = 1)
    (hval : Value.okWide P W r b0 tM v) (h : DataW.Trod enc P W 0 (fun _ => true) true tM v d ps) :
    ∃ (aS : Option Addr) (kS : Nat) (S : List Ly), v = .agg #[.slice aS S.length kS] ∧ Ys W.heap.size aS S W ∧ (∀ s ∈ S, fitY s) ∧ S.length ≤ 9223372036854775807 := by
  obtain ⟨cs, rfl, hsz⟩ := okWide_struct hM hval
  obtain ⟨fuel, hf⟩ := h
  have hf' : DataW.trod enc P W 0 (fun _ => true) true fuel tM (Value.agg cs).cells.toList = some (d, ps) := hf
  have hcs : (Value.agg cs).cells.toList = cs.toList := by simp [Value.cells]
  rw [hcs] at hf'
  obtain ⟨y0, n, _, hl, g0⟩ := trod_struct1 hM hf'
  rw [oS, cS] at g0
  rw [hcM] at hl
  obtain ⟨x0, hx⟩ := one_of hl
  obtain rfl : cs = #[x0] := by
    apply Array.ext'
    exact hx
  have g0' : DataW.trod enc P W 0 (fun _ => true) true n fS.type [x0] = some y0 := g0
  obtain ⟨aS, kS, S, rfl, hG, hfS, hS⟩ := layers_at uS ht hc o0 o1 o2 u0 u1 u2 v1 v2 c0 c1 c2 d1 d2 g0'
  exact ⟨aS, kS, S, rfl, hG, hfS, hS⟩
end Go.Proofs.Ytiionfmpbifbcaa
