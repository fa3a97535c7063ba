/- A heap that came in, opened. -/
import Derived.Test.YtbomcppkgpfjjaaGOpen
import Derived.Test.YtbomcppkgpfjjaaHMem
namespace Go.Proofs.Ytbomcppkgpfjjaa
set_option maxRecDepth 100000
open Go Go.ChangeShapes Go.WideShapes Go.ChangeAt Go.RowKit Go.Deep G00541
/-- what an int holds -/
def fit (n : Int) : Prop := -9223372036854775808 ≤ n ∧ n ≤ 9223372036854775807
theorem fit_of {n : Int} (h : (Lit.int .i64 n).wf = true) : fit n := by
  have := bounds_i64 h
  exact ⟨by omega, by omega⟩
theorem slice_at {H : Type} {enc : TypeId × Value → H} {P : Program} {W : World} {tS t : TypeId} {n : Nat} {x : Value} {y : DataW H × List MemPlace} (hS : P.underlying tS = some (.slice t))
    (g : DataW.trod enc P W 0 (fun _ => true) true n tS [x] = some y) : ∃ a len cap, x = .slice a len cap := by
  rcases open_slice hS g with ⟨hcs, _⟩ | ⟨x', l, c, _, _, _, _, hcs, _⟩
  · exact ⟨none, 0, 0, by simpa using hcs⟩
  · exact ⟨some x', l, c, by simpa using hcs⟩
theorem ints_at {H : Type} {enc : TypeId × Value → H} {P : Program} {W : World} {tS t : TypeId} {n : Nat} {x : Value} {y : DataW H × List MemPlace}
    (hS : P.underlying tS = some (.slice t)) (ht : P.underlying t = some (.int .i64)) (hc : P.cellsOf t = 1)
    (g : DataW.trod enc P W 0 (fun _ => true) true n tS [x] = some y) :
    ∃ (a : Option Addr) (cap : Nat) (l : List Int), x = .slice a l.length cap ∧ Is W.heap.size a l W ∧ (∀ x ∈ l, fit x) ∧ l.length ≤ 9223372036854775807 := by
  obtain ⟨a, len, cap, rfl⟩ := slice_at hS g
  obtain ⟨rows, hlen, hgs, hrows, hmax⟩ := gsl_of hS hc (by decide) g
  obtain ⟨l, rfl, hq⟩ := list_of (f := icell) (Q := fit) rows (fun r hr => by
    obtain ⟨n, x, hx⟩ := hrows r hr
    obtain ⟨m0, e0, _, w0⟩ := DataW.trod_int ht hx
    exact ⟨m0, e0, fit_of w0⟩)
  have hlen' : l.length = len := by simpa using hlen
  subst hlen'
  have e : maxLen = 9223372036854775807 := by decide
  rw [e] at hmax
  exact ⟨a, cap, l, rfl, hgs, hq, hmax⟩
theorem bools_at {H : Type} {enc : TypeId × Value → H} {P : Program} {W : World} {tS t : TypeId} {n : Nat} {x : Value} {y : DataW H × List MemPlace}
    (hS : P.underlying tS = some (.slice t)) (ht : P.underlying t = some .bool) (hc : P.cellsOf t = 1)
    (g : DataW.trod enc P W 0 (fun _ => true) true n tS [x] = some y) :
    ∃ (a : Option Addr) (cap : Nat) (l : List Bool), x = .slice a l.length cap ∧ Bs W.heap.size a l W ∧ l.length ≤ 9223372036854775807 := by
  obtain ⟨a, len, cap, rfl⟩ := slice_at hS g
  obtain ⟨rows, hlen, hgs, hrows, hmax⟩ := gsl_of hS hc (by decide) g
  obtain ⟨l, rfl, hq⟩ := list_of (f := bcell) (Q := fun _ => True) rows (fun r hr => by
    obtain ⟨n, x, hx⟩ := hrows r hr
    obtain ⟨m0, e0, _⟩ := DataW.trod_bool ht hx
    exact ⟨m0, e0, trivial⟩)
  have hlen' : l.length = len := by simpa using hlen
  subst hlen'
  have e : maxLen = 9223372036854775807 := by decide
  rw [e] at hmax
  exact ⟨a, cap, l, rfl, hgs, hmax⟩
theorem one_of {α : Type} {l : List α} (h : l.length = 1) : ∃ x, l = [x] := by
  match l, h with
  | [x], _ => exact ⟨x, rfl⟩
theorem two_of {α : Type} {l : List α} (h : l.length = 2) : ∃ x y, l = [x, y] := by
  match l, h with
  | [x, y], _ => exact ⟨x, y, rfl⟩
/-- a segment: each number of its blocks, and its age, fits an int -/
def fitS (s : Sg) : Prop := (∀ x ∈ s.bl, fit x) ∧ s.bl.length ≤ 9223372036854775807 ∧ fit s.age
theorem segs_at {H : Type} {enc : TypeId × Value → H} {P : Program} {W : World} {tS t t1 : TypeId} {f0 f1 : Field} {n : Nat} {x : Value} {y : DataW H × List MemPlace}
    (hS : P.underlying tS = some (.slice t)) (ht : P.underlying t = some (.struct #[f0, f1])) (hc : P.cellsOf t = 2) (o0 : f0.offset = 0) (o1 : f1.offset = 1)
    (u0 : P.underlying f0.type = some (.slice t1)) (u1 : P.underlying f1.type = some (.int .i64)) (u2 : P.underlying t1 = some (.int .i64)) (c0 : P.cellsOf f0.type = 1) (c1 : P.cellsOf f1.type = 1) (c2 : P.cellsOf t1 = 1)
    (g : DataW.trod enc P W 0 (fun _ => true) true n tS [x] = some y) :
    ∃ (a : Option Addr) (cap : Nat) (S : List Sg), x = .slice a S.length cap ∧ Gs W.heap.size a S W ∧ (∀ s ∈ S, fitS s) ∧ S.length ≤ 9223372036854775807 := by
  obtain ⟨a, len, cap, rfl⟩ := slice_at hS g
  obtain ⟨rows, hlen, hgs, hrows, hmax⟩ := gsl_of hS hc (by decide) g
  obtain ⟨zs, rfl, hq⟩ := list_of (α := Sg × Option Addr × Nat) (f := fun z => [.slice z.2.1 z.1.bl.length z.2.2, .int .i64 z.1.age]) (Q := fun z => Is W.heap.size z.2.1 z.1.bl W ∧ fitS z.1) rows (fun r hr => by
    obtain ⟨n, x, hx⟩ := hrows r hr
    obtain ⟨y0, y1, n2, _, hl, g0, g1⟩ := trod_struct2 ht hx
    rw [o0, c0] at g0
    rw [o1, c1] at g1
    rw [hc] at hl
    obtain ⟨r0, r1, rfl⟩ := two_of hl
    have g0' : DataW.trod enc P W 0 (fun _ => true) true n2 f0.type [r0] = some y0 := g0
    have g1' : DataW.trod enc P W 0 (fun _ => true) true n2 f1.type [r1] = some y1 := g1
    obtain ⟨p, c, l, rfl, hI, hfl, hll⟩ := ints_at u0 u2 c2 g0'
    obtain ⟨m, e1, _, hm⟩ := DataW.trod_int u1 g1'
    have e1' : r1 = .int .i64 m := by simpa using e1
    subst e1'
    exact ⟨(⟨l, m⟩, p, c), rfl, hI, hfl, hll, fit_of hm⟩)
  have hlen' : zs.length = len := by simpa using hlen
  subst hlen'
  have e : maxLen = 9223372036854775807 := by decide
  rw [e] at hmax
  refine ⟨a, cap, zs.map (·.1), by simp, fun h0 => ?_, fun s hs => ?_, by simpa using hmax⟩
  · obtain ⟨b, off, ea, hb, hcl⟩ := hgs.cell (by simpa using h0)
    refine ⟨b, off, ea, hb, fun i hi => ?_⟩
    have hi' : i < zs.length := by simpa using hi
    have k0 := hcl i (by simpa using hi) 0 (by decide)
    have k1 := hcl i (by simpa using hi) 1 (by decide)
    rw [List.getElem_map] at k0 k1
    rw [List.getElem_map]
    exact ⟨zs[i].2.1, zs[i].2.2, k0, k1, (hq _ (List.getElem_mem hi')).1⟩
  · obtain ⟨z, hz, rfl⟩ := List.mem_map.1 hs
    exact (hq z hz).2
theorem lives_at {H : Type} {enc : TypeId × Value → H} {P : Program} {W : World} {tS t t1 : TypeId} {n : Nat} {x : Value} {y : DataW H × List MemPlace}
    (hS : P.underlying tS = some (.slice t)) (ht : P.underlying t = some (.slice t1)) (hc : P.cellsOf t = 1) (u2 : P.underlying t1 = some .bool) (c2 : P.cellsOf t1 = 1)
    (g : DataW.trod enc P W 0 (fun _ => true) true n tS [x] = some y) :
    ∃ (a : Option Addr) (cap : Nat) (L : List (List Bool)), x = .slice a L.length cap ∧ Vs W.heap.size a L W ∧ (∀ v ∈ L, v.length ≤ 9223372036854775807) ∧ L.length ≤ 9223372036854775807 := by
  obtain ⟨a, len, cap, rfl⟩ := slice_at hS g
  obtain ⟨rows, hlen, hgs, hrows, hmax⟩ := gsl_of hS hc (by decide) g
  obtain ⟨zs, rfl, hq⟩ := list_of (α := List Bool × Option Addr × Nat) (f := fun z => [.slice z.2.1 z.1.length z.2.2]) (Q := fun z => Bs W.heap.size z.2.1 z.1 W ∧ z.1.length ≤ 9223372036854775807) rows (fun r hr => by
    obtain ⟨n, x, hx⟩ := hrows r hr
    have hr1 : r.length = 1 := by
      rcases open_slice ht hx with ⟨hcs, _⟩ | ⟨x', l, c, _, _, _, _, hcs, _⟩
      · rw [hcs]; rfl
      · rw [hcs]; rfl
    obtain ⟨r0, rfl⟩ := one_of hr1
    obtain ⟨p, c, l, rfl, hI, hll⟩ := bools_at ht u2 c2 hx
    exact ⟨(l, p, c), rfl, hI, hll⟩)
  have hlen' : zs.length = len := by simpa using hlen
  subst hlen'
  have e : maxLen = 9223372036854775807 := by decide
  rw [e] at hmax
  refine ⟨a, cap, zs.map (·.1), by simp, fun h0 => ?_, fun s hs => ?_, by simpa using hmax⟩
  · obtain ⟨b, off, ea, hb, hcl⟩ := hgs.cell (by simpa using h0)
    refine ⟨b, off, ea, hb, fun i hi => ?_⟩
    have hi' : i < zs.length := by simpa using hi
    have k0 := hcl i (by simpa using hi) 0 (by decide)
    rw [List.getElem_map, Nat.mul_one, Nat.add_zero] at k0
    rw [List.getElem_map]
    exact ⟨zs[i].2.1, zs[i].2.2, k0, (hq _ (List.getElem_mem hi')).1⟩
  · obtain ⟨z, hz, rfl⟩ := List.mem_map.1 hs
    exact (hq z hz).2
theorem heap_of {H : Type} {enc : TypeId × Value → H} {P : Program} {W : World} {r : Reach} {b0 : Nat} {tH tG tI tV tB : TypeId} {fS fL f0 f1 : Field} {v : Value} {d : DataW H} {ps : List MemPlace}
    (hH : P.underlying tH = some (.struct #[fS, fL])) (hcH : P.cellsOf tH = 2) (oS : fS.offset = 0) (oL : fL.offset = 1) (cS : P.cellsOf fS.type = 1) (cL : P.cellsOf fL.type = 1)
    (uS : P.underlying fS.type = some (.slice tG)) (uL : P.underlying fL.type = some (.slice tV))
    (ht : P.underlying tG = some (.struct #[f0, f1])) (hc : P.cellsOf tG = 2) (o0 : f0.offset = 0) (o1 : f1.offset = 1)
    (u0 : P.underlying f0.type = some (.slice tI)) (u1 : P.underlying f1.type = some (.int .i64)) (u2 : P.underlying tI = some (.int .i64)) (c0 : P.cellsOf f0.type = 1) (c1 : P.cellsOf f1.type = 1) (c2 : P.cellsOf tI = 1)
    (hV : P.underlying tV = some (.slice tB)) (cV : P.cellsOf tV = 1) (uB : P.underlying tB = some .bool) (cB : P.cellsOf tB = 1)
    (hval : Value.okWide P W r b0 tH v) (h : DataW.Trod enc P W 0 (fun _ => true) true tH v d ps) :
    ∃ (aS aL : Option Addr) (kS kL : Nat) (S : List Sg) (L : List (List Bool)), v = .agg #[.slice aS S.length kS, .slice aL L.length kL] ∧ Gs W.heap.size aS S W ∧ Vs W.heap.size aL L W ∧ (∀ s ∈ S, fitS s) ∧ (∀ v ∈ L, v.length ≤ 9223372036854775807) ∧ S.length ≤ 9223372036854775807 ∧ L.length ≤ 9223372036854775807 := by
  obtain ⟨cs, rfl, hsz⟩ := okWide_struct hH hval
  obtain ⟨fuel, hf⟩ := h
  have hf' : DataW.trod enc P W 0 (fun _ => true) true fuel tH (Value.agg cs).cells.toList = some (d, ps) := hf
  have hcs : (Value.agg cs).cells.toList = cs.toList := by simp [Value.cells]
  rw [hcs] at hf'
  obtain ⟨y0, y1, n, _, hl, g0, g1⟩ := trod_struct2 hH hf'
  rw [oS, cS] at g0
  rw [oL, cL] at g1
  rw [hcH] at hl
  obtain ⟨x0, x1, hx⟩ := two_of hl
  obtain rfl : cs = #[x0, x1] := by
    apply Array.ext'
    exact hx
  have g0' : DataW.trod enc P W 0 (fun _ => true) true n fS.type [x0] = some y0 := g0
  have g1' : DataW.trod enc P W 0 (fun _ => true) true n fL.type [x1] = some y1 := g1
  obtain ⟨aS, kS, S, rfl, hG, hfS, hS⟩ := segs_at uS ht hc o0 o1 u0 u1 u2 c0 c1 c2 g0'
  obtain ⟨aL, kL, L, rfl, hL, hfL, hLl⟩ := lives_at uL hV cV uB cB g1'
  exact ⟨aS, aL, kS, kL, S, L, rfl, hG, hL, hfS, hfL, hS, hLl⟩
end Go.Proofs.Ytbomcppkgpfjjaa
