/- Volumes and ops that came in, opened. -/
import Derived.Test.YtlbhfgcpflhccaaROpen
import Derived.Test.YtlbhfgcpflhccaaStrR
namespace Go.Proofs.Ytlbhfgcpflhccaa
set_option maxRecDepth 100000
open Go Go.ChangeShapes Go.WideShapes Go.ChangeAt Go.RowKit Go.Deep G00541
/-- what an int holds -/
def fit (n : Int) : Prop := -9223372036854775808 ≤ n ∧ n ≤ 9223372036854775807
theorem fit_of {n : Int} (h : (Lit.int .i64 n).wf = true) : fit n := by
  have := bounds_i64 h
  exact ⟨by omega, by omega⟩
theorem slice_at {H : Type} {enc : TypeId × Value → H} {P : Program} {W : World} {tS t : TypeId} {n : Nat} {x : Value} {y : DataW H × List MemPlace} (hS : P.underlying tS = some (.slice t))
    (g : DataW.trod enc P W 0 (fun _ => true) true n tS [x] = some y) : ∃ a len cap, x = .slice a len cap := by
  rcases open_slice hS g with ⟨hcs, _⟩ | ⟨x', l, c, _, _, _, _, hcs, _⟩
  · exact ⟨none, 0, 0, by simpa using hcs⟩
  · exact ⟨some x', l, c, by simpa using hcs⟩
theorem strs_at {H : Type} {enc : TypeId × Value → H} {P : Program} {W : World} {tS t : TypeId} {n : Nat} {x : Value} {y : DataW H × List MemPlace}
    (hS : P.underlying tS = some (.slice t)) (ht : P.underlying t = some .string) (hc : P.cellsOf t = 1)
    (g : DataW.trod enc P W 0 (fun _ => true) true n tS [x] = some y) :
    ∃ (a : Option Addr) (cap : Nat) (l : List ByteArray), x = .slice a l.length cap ∧ Ss W.heap.size a l W ∧ (∀ x ∈ l, x.size ≤ 9223372036854775807) ∧ l.length ≤ 9223372036854775807 := by
  obtain ⟨a, len, cap, rfl⟩ := slice_at hS g
  obtain ⟨rows, hlen, hgs, hrows, hmax⟩ := gsl_of hS hc (by decide) g
  have e : maxLen = 9223372036854775807 := by decide
  obtain ⟨l, rfl, hq⟩ := list_of (f := scell) (Q := fun s => s.size ≤ 9223372036854775807) rows (fun r hr => by
    obtain ⟨n, x, hx⟩ := hrows r hr
    obtain ⟨s, e0, _, hs⟩ := DataW.trod_string ht hx
    rw [e] at hs
    exact ⟨s, e0, hs⟩)
  have hlen' : l.length = len := by simpa using hlen
  subst hlen'
  rw [e] at hmax
  exact ⟨a, cap, l, rfl, hgs, hq, hmax⟩
theorem recs_at {H : Type} {enc : TypeId × Value → H} {P : Program} {W : World} {tS t : TypeId} {f0 f1 f2 f3 : Field} {n : Nat} {x : Value} {y : DataW H × List MemPlace}
    (hS : P.underlying tS = some (.slice t))
    (ht : P.underlying t = some (.struct #[f0, f1, f2, f3])) (hc : P.cellsOf t = 4) (o0 : f0.offset = 0) (o1 : f1.offset = 1) (o2 : f2.offset = 2) (o3 : f3.offset = 3)
    (u0 : P.underlying f0.type = some (.int .i64)) (u1 : P.underlying f1.type = some (.int .i64)) (u2 : P.underlying f2.type = some (.int .i64)) (u3 : P.underlying f3.type = some .string)
    (c0 : P.cellsOf f0.type = 1) (c1 : P.cellsOf f1.type = 1) (c2 : P.cellsOf f2.type = 1) (c3 : P.cellsOf f3.type = 1)
    (g : DataW.trod enc P W 0 (fun _ => true) true n tS [x] = some y) :
    ∃ (a : Option Addr) (cap : Nat) (l : List Rc), x = .slice a l.length cap ∧ Rs W.heap.size a l W ∧ (∀ r ∈ l, r.data.length ≤ 9223372036854775807) ∧ l.length ≤ 9223372036854775807 := by
  obtain ⟨a, len, cap, rfl⟩ := slice_at hS g
  obtain ⟨rows, hlen, hgs, hrows, hmax⟩ := gsl_of hS hc (by decide) g
  obtain ⟨l, rfl, hq⟩ := list_of (f := rcells) (Q := fun r => r.data.length ≤ maxLen) rows (fun r hr => by
    obtain ⟨n, x, hx⟩ := hrows r hr
    exact rcells_of ht hc o0 o1 o2 o3 u0 u1 u2 u3 c0 c1 c2 c3 hx)
  have hlen' : l.length = len := by simpa using hlen
  subst hlen'
  have e : maxLen = 9223372036854775807 := by decide
  rw [e] at hmax
  exact ⟨a, cap, l, rfl, hgs, fun z hz => by have := hq z hz; rw [e] at this; exact this, hmax⟩
theorem four_of {α : Type} {l : List α} (h : l.length = 4) : ∃ x y z u, l = [x, y, z, u] := by
  match l, h with
  | [x, y, z, u], _ => exact ⟨x, y, z, u, rfl⟩
theorem five_of {α : Type} {l : List α} (h : l.length = 5) : ∃ x y z u v, l = [x, y, z, u, v] := by
  match l, h with
  | [x, y, z, u, v], _ => exact ⟨x, y, z, u, v, rfl⟩
theorem volume_of {H : Type} {enc : TypeId × Value → H} {P : Program} {W : World} {r : Reach} {b0 : Nat} {tV tS tR : TypeId} {g0 g1 g2 g3 f0 f1 f2 f3 : Field} {v : Value} {d : DataW H} {ps : List MemPlace}
    (hH : P.underlying tV = some (.struct #[g0, g1, g2, g3])) (hcH : P.cellsOf tV = 4) (p0 : g0.offset = 0) (p1 : g1.offset = 1) (p2 : g2.offset = 2) (p3 : g3.offset = 3)
    (d0 : P.cellsOf g0.type = 1) (d1 : P.cellsOf g1.type = 1) (d2 : P.cellsOf g2.type = 1) (d3 : P.cellsOf g3.type = 1)
    (v0 : P.underlying g0.type = some (.slice tS)) (v1 : P.underlying g1.type = some (.int .i64)) (v2 : P.underlying g2.type = some (.slice tR)) (v3 : P.underlying g3.type = some (.int .i64))
    (uS : P.underlying tS = some .string) (cS : P.cellsOf tS = 1)
    (ht : P.underlying tR = some (.struct #[f0, f1, f2, f3])) (hc : P.cellsOf tR = 4) (o0 : f0.offset = 0) (o1 : f1.offset = 1) (o2 : f2.offset = 2) (o3 : f3.offset = 3)
    (u0 : P.underlying f0.type = some (.int .i64)) (u1 : P.underlying f1.type = some (.int .i64)) (u2 : P.underlying f2.type = some (.int .i64)) (u3 : P.underlying f3.type = some .string)
    (c0 : P.cellsOf f0.type = 1) (c1 : P.cellsOf f1.type = 1) (c2 : P.cellsOf f2.type = 1) (c3 : P.cellsOf f3.type = 1)
    (hval : Value.okWide P W r b0 tV v) (h : DataW.Trod enc P W 0 (fun _ => true) true tV v d ps) :
    ∃ (aB aL : Option Addr) (kB kL : Nat) (B : List ByteArray) (F : Int) (L : List Rc) (s : Int), v = .agg #[.slice aB B.length kB, .int .i64 F, .slice aL L.length kL, .int .i64 s] ∧ Ss W.heap.size aB B W ∧ Rs W.heap.size aL L W ∧ fit F ∧ fit s ∧
      (∀ x ∈ B, x.size ≤ 9223372036854775807) ∧ B.length ≤ 9223372036854775807 ∧ (∀ r ∈ L, r.data.length ≤ 9223372036854775807) ∧ L.length ≤ 9223372036854775807 := by
  obtain ⟨cs, rfl, hsz⟩ := okWide_struct hH hval
  obtain ⟨fuel, hf⟩ := h
  have hf' : DataW.trod enc P W 0 (fun _ => true) true fuel tV (Value.agg cs).cells.toList = some (d, ps) := hf
  have hcs : (Value.agg cs).cells.toList = cs.toList := by simp [Value.cells]
  rw [hcs] at hf'
  obtain ⟨xs, n, _, _, hl, hlen, hfs⟩ := DataW.trod_struct hH hf'
  match xs, hlen with
  | [y0, y1, y2, y3], _ =>
    have q0 := hfs 0 g0 rfl
    have q1 := hfs 1 g1 rfl
    have q2 := hfs 2 g2 rfl
    have q3 := hfs 3 g3 rfl
    rw [p0, d0] at q0
    rw [p1, d1] at q1
    rw [p2, d2] at q2
    rw [p3, d3] at q3
    rw [hcH] at hl
    obtain ⟨x0, x1, x2, x3, hx⟩ := four_of hl
    obtain rfl : cs = #[x0, x1, x2, x3] := by
      apply Array.ext'
      exact hx
    have q0' : DataW.trod enc P W 0 (fun _ => true) true n g0.type [x0] = some y0 := q0
    have q1' : DataW.trod enc P W 0 (fun _ => true) true n g1.type [x1] = some y1 := q1
    have q2' : DataW.trod enc P W 0 (fun _ => true) true n g2.type [x2] = some y2 := q2
    have q3' : DataW.trod enc P W 0 (fun _ => true) true n g3.type [x3] = some y3 := q3
    obtain ⟨aB, kB, B, rfl, hB, hfB, hlB⟩ := strs_at v0 uS cS q0'
    obtain ⟨F, e1, _, hF⟩ := DataW.trod_int v1 q1'
    obtain ⟨aL, kL, L, rfl, hL, hfL, hlL⟩ := recs_at v2 ht hc o0 o1 o2 o3 u0 u1 u2 u3 c0 c1 c2 c3 q2'
    obtain ⟨s, e3, _, hs⟩ := DataW.trod_int v3 q3'
    have e1' : x1 = .int .i64 F := by simpa using e1
    have e3' : x3 = .int .i64 s := by simpa using e3
    subst e1'
    subst e3'
    exact ⟨aB, aL, kB, kL, B, F, L, s, rfl, hB, hL, fit_of hF, fit_of hs, hfB, hlB, hfL, hlL⟩
/-- an op -/
structure Op where
  kind : Int
  place : Int
  long : Int
  data : ByteArray
  keep : Int
def ocells (o : Op) : List Value := [.int .i64 o.kind, .int .i64 o.place, .int .i64 o.long, .string o.data, .int .i64 o.keep]
def oval (o : Op) : Value := .agg #[.int .i64 o.kind, .int .i64 o.place, .int .i64 o.long, .string o.data, .int .i64 o.keep]
/-- each number of an op fits an int, its text's length too -/
def fitO (o : Op) : Prop := fit o.kind ∧ fit o.place ∧ fit o.long ∧ fit o.keep ∧ o.data.size ≤ 9223372036854775807
theorem ocells_of {H : Type} {enc : TypeId × Value → H} {P : Program} {W : World} {t : TypeId} {f0 f1 f2 f3 f4 : Field} {fuel : Nat} {cs : List Value} {x : DataW H × List MemPlace}
    (ht : P.underlying t = some (.struct #[f0, f1, f2, f3, f4])) (hc : P.cellsOf t = 5) (o0 : f0.offset = 0) (o1 : f1.offset = 1) (o2 : f2.offset = 2) (o3 : f3.offset = 3) (o4 : f4.offset = 4)
    (u0 : P.underlying f0.type = some (.int .i64)) (u1 : P.underlying f1.type = some (.int .i64)) (u2 : P.underlying f2.type = some (.int .i64)) (u3 : P.underlying f3.type = some .string) (u4 : P.underlying f4.type = some (.int .i64))
    (c0 : P.cellsOf f0.type = 1) (c1 : P.cellsOf f1.type = 1) (c2 : P.cellsOf f2.type = 1) (c3 : P.cellsOf f3.type = 1) (c4 : P.cellsOf f4.type = 1)
    (h : DataW.trod enc P W 0 (fun _ => true) true fuel t cs = some x) : ∃ o : Op, cs = ocells o ∧ fitO o := by
  obtain ⟨xs, n, _, _, hl, hlen, hf⟩ := DataW.trod_struct ht h
  match xs, hlen with
  | [y0, y1, y2, y3, y4], _ =>
    have g0 := hf 0 f0 rfl
    have g1 := hf 1 f1 rfl
    have g2 := hf 2 f2 rfl
    have g3 := hf 3 f3 rfl
    have g4 := hf 4 f4 rfl
    rw [o0, c0] at g0
    rw [o1, c1] at g1
    rw [o2, c2] at g2
    rw [o3, c3] at g3
    rw [o4, c4] at g4
    rw [hc] at hl
    obtain ⟨x0, x1, x2, x3, x4, rfl⟩ := five_of hl
    have q0 : DataW.trod enc P W 0 (fun _ => true) true n f0.type [x0] = some y0 := g0
    have q1 : DataW.trod enc P W 0 (fun _ => true) true n f1.type [x1] = some y1 := g1
    have q2 : DataW.trod enc P W 0 (fun _ => true) true n f2.type [x2] = some y2 := g2
    have q3 : DataW.trod enc P W 0 (fun _ => true) true n f3.type [x3] = some y3 := g3
    have q4 : DataW.trod enc P W 0 (fun _ => true) true n f4.type [x4] = some y4 := g4
    obtain ⟨m0, e0, _, w0⟩ := DataW.trod_int u0 q0
    obtain ⟨m1, e1, _, w1⟩ := DataW.trod_int u1 q1
    obtain ⟨m2, e2, _, w2⟩ := DataW.trod_int u2 q2
    obtain ⟨s, e3, _, hs⟩ := DataW.trod_string u3 q3
    obtain ⟨m4, e4, _, w4⟩ := DataW.trod_int u4 q4
    have e : maxLen = 9223372036854775807 := by decide
    rw [e] at hs
    have e0' : x0 = .int .i64 m0 := by simpa using e0
    have e1' : x1 = .int .i64 m1 := by simpa using e1
    have e2' : x2 = .int .i64 m2 := by simpa using e2
    have e3' : x3 = .string s := by simpa using e3
    have e4' : x4 = .int .i64 m4 := by simpa using e4
    subst e0' e1' e2' e3' e4'
    exact ⟨⟨m0, m1, m2, s, m4⟩, rfl, fit_of w0, fit_of w1, fit_of w2, fit_of w4, hs⟩
theorem op_of {H : Type} {enc : TypeId × Value → H} {P : Program} {W : World} {r : Reach} {b0 : Nat} {t : TypeId} {f0 f1 f2 f3 f4 : Field} {v : Value} {d : DataW H} {ps : List MemPlace}
    (ht : P.underlying t = some (.struct #[f0, f1, f2, f3, f4])) (hc : P.cellsOf t = 5) (o0 : f0.offset = 0) (o1 : f1.offset = 1) (o2 : f2.offset = 2) (o3 : f3.offset = 3) (o4 : f4.offset = 4)
    (u0 : P.underlying f0.type = some (.int .i64)) (u1 : P.underlying f1.type = some (.int .i64)) (u2 : P.underlying f2.type = some (.int .i64)) (u3 : P.underlying f3.type = some .string) (u4 : P.underlying f4.type = some (.int .i64))
    (c0 : P.cellsOf f0.type = 1) (c1 : P.cellsOf f1.type = 1) (c2 : P.cellsOf f2.type = 1) (c3 : P.cellsOf f3.type = 1) (c4 : P.cellsOf f4.type = 1)
    (hval : Value.okWide P W r b0 t v) (h : DataW.Trod enc P W 0 (fun _ => true) true t v d ps) :
    ∃ o : Op, v = oval o ∧ fitO o := by
  obtain ⟨cs, rfl, hsz⟩ := okWide_struct ht hval
  obtain ⟨fuel, hf⟩ := h
  have hf' : DataW.trod enc P W 0 (fun _ => true) true fuel t (Value.agg cs).cells.toList = some (d, ps) := hf
  have hcs : (Value.agg cs).cells.toList = cs.toList := by simp [Value.cells]
  rw [hcs] at hf'
  obtain ⟨o, ho, hs⟩ := ocells_of ht hc o0 o1 o2 o3 o4 u0 u1 u2 u3 u4 c0 c1 c2 c3 c4 hf'
  refine ⟨o, ?_, hs⟩
  unfold oval
  congr 1
  apply Array.ext'
  exact ho
end Go.Proofs.Ytlbhfgcpflhccaa
