/- Parts and bytes that came in, opened. -/
import Derived.Test.YtakhohabjcgpoabGOpen
import Derived.Test.YtakhohabjcgpoabAOpen
import Derived.Test.YtakhohabjcgpoabTPm
namespace Go.Proofs.Ytakhohabjcgpoab
set_option maxRecDepth 100000
open Go Go.ChangeShapes Go.WideShapes Go.ChangeAt Go.RowKit Go.Deep
theorem byteI_of {n : Int} (h : (Lit.int .u8 n).wf = true) : ∃ x : Nat, n = (x : Int) ∧ x < 256 := by
  have := bounds_u8 h
  exact ⟨n.toNat, by omega, by omega⟩
theorem three_of {α : Type} {l : List α} (h : l.length = 3) : ∃ x y z, l = [x, y, z] := by
  match l, h with
  | [x, y, z], _ => exact ⟨x, y, z, rfl⟩
theorem tcells_of {H : Type} {enc : TypeId × Value → H} {P : Program} {W : World} {t : TypeId} {f0 f1 f2 : Field} {fuel : Nat} {cs : List Value} {x : DataW H × List MemPlace}
    (ht : P.underlying t = some (.struct #[f0, f1, f2])) (hc : P.cellsOf t = 3) (o0 : f0.offset = 0) (o1 : f1.offset = 1) (o2 : f2.offset = 2)
    (u0 : P.underlying f0.type = some (.int .i64)) (u1 : P.underlying f1.type = some (.int .i64)) (u2 : P.underlying f2.type = some .string)
    (c0 : P.cellsOf f0.type = 1) (c1 : P.cellsOf f1.type = 1) (c2 : P.cellsOf f2.type = 1)
    (h : DataW.trod enc P W 0 (fun _ => true) true fuel t cs = some x) : ∃ r : Pt, cs = tcells r ∧ r.tx.size ≤ 9223372036854775807 ∧ fit r.fr ∧ fit r.lg := by
  obtain ⟨xs, n, _, _, hl, hlen, hf⟩ := DataW.trod_struct ht h
  match xs, hlen with
  | [y0, y1, y2], _ =>
    have g0 := hf 0 f0 rfl
    have g1 := hf 1 f1 rfl
    have g2 := hf 2 f2 rfl
    rw [o0, c0] at g0
    rw [o1, c1] at g1
    rw [o2, c2] at g2
    rw [hc] at hl
    obtain ⟨x0, x1, x2, rfl⟩ := three_of hl
    have q0 : DataW.trod enc P W 0 (fun _ => true) true n f0.type [x0] = some y0 := g0
    have q1 : DataW.trod enc P W 0 (fun _ => true) true n f1.type [x1] = some y1 := g1
    have q2 : DataW.trod enc P W 0 (fun _ => true) true n f2.type [x2] = some y2 := g2
    obtain ⟨m0, e0, _, w0⟩ := DataW.trod_int u0 q0
    obtain ⟨m1, e1, _, w1⟩ := DataW.trod_int u1 q1
    obtain ⟨s, e2, _, hs⟩ := DataW.trod_string u2 q2
    have e : maxLen = 9223372036854775807 := by decide
    rw [e] at hs
    have e0' : x0 = .int .i64 m0 := by simpa using e0
    have e1' : x1 = .int .i64 m1 := by simpa using e1
    have e2' : x2 = .string s := by simpa using e2
    subst e0' e1' e2'
    exact ⟨⟨m0, m1, s⟩, rfl, hs, fit_of w0, fit_of w1⟩
theorem parts_of {H : Type} {enc : TypeId × Value → H} {P : Program} {W : World} {r : Reach} {b0 : Nat} {tS t : TypeId} {f0 f1 f2 : Field} {v : Value} {d : DataW H} {ps : List MemPlace}
    (hS : P.underlying tS = some (.slice t)) (ht : P.underlying t = some (.struct #[f0, f1, f2])) (hc : P.cellsOf t = 3) (o0 : f0.offset = 0) (o1 : f1.offset = 1) (o2 : f2.offset = 2)
    (u0 : P.underlying f0.type = some (.int .i64)) (u1 : P.underlying f1.type = some (.int .i64)) (u2 : P.underlying f2.type = some .string)
    (c0 : P.cellsOf f0.type = 1) (c1 : P.cellsOf f1.type = 1) (c2 : P.cellsOf f2.type = 1)
    (hval : Value.okWide P W r b0 tS v) (h : DataW.Trod enc P W 0 (fun _ => true) true tS v d ps) :
    ∃ (a : Option Addr) (cap : Nat) (l : List Pt), v = .slice a l.length cap ∧ Pts W.heap.size a l W ∧ (∀ r ∈ l, r.tx.size ≤ 9223372036854775807 ∧ fit r.fr ∧ fit r.lg) ∧ l.length ≤ 9223372036854775807 := by
  obtain ⟨a, len, cap, rfl⟩ := okWide_slice hS hval
  obtain ⟨fuel, hf⟩ := h
  have hf' : DataW.trod enc P W 0 (fun _ => true) true fuel tS [.slice a len cap] = some (d, ps) := hf
  obtain ⟨rows, hlen, hgs, hrows, hmax⟩ := gsl_of hS hc (by decide) hf'
  obtain ⟨l, rfl, hq⟩ := list_of (f := tcells) (Q := fun r => r.tx.size ≤ 9223372036854775807 ∧ fit r.fr ∧ fit r.lg) rows (fun r hr => by
    obtain ⟨n, x, hx⟩ := hrows r hr
    exact tcells_of ht hc o0 o1 o2 u0 u1 u2 c0 c1 c2 hx)
  have hlen' : l.length = len := by simpa using hlen
  subst hlen'
  have e : maxLen = 9223372036854775807 := by decide
  rw [e] at hmax
  exact ⟨a, cap, l, rfl, hgs, hq, hmax⟩
end Go.Proofs.Ytakhohabjcgpoab
