/- Texts, packets and numbers that came in, opened. -/
import Derived.Test.YtnjeeeccfhpolaaGOpen
import Derived.Test.YtnjeeeccfhpolaaAOpen
import Derived.Test.YtnjeeeccfhpolaaPkM
import Derived.Deep.Strs
namespace Go.Proofs.Ytnjeeeccfhpolaa
set_option maxRecDepth 100000
open Go Go.ChangeShapes Go.WideShapes Go.ChangeAt Go.RowKit Go.Deep
theorem two_of {α : Type} {l : List α} (h : l.length = 2) : ∃ x y, l = [x, y] := by
  match l, h with
  | [x, y], _ => exact ⟨x, y, rfl⟩
theorem strs_at {H : Type} {enc : TypeId × Value → H} {P : Program} {W : World} {tS t : TypeId} {n : Nat} {x : Value} {y : DataW H × List MemPlace}
    (hS : P.underlying tS = some (.slice t)) (ht : P.underlying t = some .string) (hc : P.cellsOf t = 1)
    (g : DataW.trod enc P W 0 (fun _ => true) true n tS [x] = some y) :
    ∃ (a : Option Addr) (cap : Nat) (l : List ByteArray), x = .slice a l.length cap ∧ Ss W.heap.size a l W ∧ (∀ x ∈ l, x.size ≤ 9223372036854775807) ∧ l.length ≤ 9223372036854775807 := by
  obtain ⟨a, len, cap, rfl⟩ := slice_at hS g
  obtain ⟨rows, hlen, hgs, hrows, hmax⟩ := gsl_of hS hc (by decide) g
  have e : maxLen = 9223372036854775807 := by decide
  obtain ⟨l, rfl, hq⟩ := list_of (f := scell) (Q := fun s => s.size ≤ 9223372036854775807) rows (fun r hr => by
    obtain ⟨n, x, hx⟩ := hrows r hr
    obtain ⟨s, e0, _, hs⟩ := DataW.trod_string ht hx
    rw [e] at hs
    exact ⟨s, e0, hs⟩)
  have hlen' : l.length = len := by simpa using hlen
  subst hlen'
  rw [e] at hmax
  exact ⟨a, cap, l, rfl, hgs, hq, hmax⟩
theorem strings_of {H : Type} {enc : TypeId × Value → H} {P : Program} {W : World} {r : Reach} {b0 : Nat} {tS t : TypeId} {v : Value} {d : DataW H} {ps : List MemPlace}
    (hS : P.underlying tS = some (.slice t)) (ht : P.underlying t = some .string) (hc : P.cellsOf t = 1)
    (hval : Value.okWide P W r b0 tS v) (h : DataW.Trod enc P W 0 (fun _ => true) true tS v d ps) :
    ∃ (a : Option Addr) (cap : Nat) (l : List ByteArray), v = .slice a l.length cap ∧ Ss W.heap.size a l W ∧ (∀ x ∈ l, x.size ≤ 9223372036854775807) ∧ l.length ≤ 9223372036854775807 := by
  obtain ⟨a, len, cap, rfl⟩ := okWide_slice hS hval
  obtain ⟨fuel, hf⟩ := h
  have hf' : DataW.trod enc P W 0 (fun _ => true) true fuel tS [.slice a len cap] = some (d, ps) := hf
  exact strs_at hS ht hc hf'
theorem pcells_of {H : Type} {enc : TypeId × Value → H} {P : Program} {W : World} {t : TypeId} {f0 f1 : Field} {fuel : Nat} {cs : List Value} {x : DataW H × List MemPlace}
    (ht : P.underlying t = some (.struct #[f0, f1])) (hc : P.cellsOf t = 2) (o0 : f0.offset = 0) (o1 : f1.offset = 1)
    (u0 : P.underlying f0.type = some (.int .i64)) (u1 : P.underlying f1.type = some .string)
    (c0 : P.cellsOf f0.type = 1) (c1 : P.cellsOf f1.type = 1)
    (h : DataW.trod enc P W 0 (fun _ => true) true fuel t cs = some x) : ∃ r : Pk, cs = pcells r ∧ r.tx.size ≤ 9223372036854775807 ∧ fit r.ms := by
  obtain ⟨xs, n, _, _, hl, hlen, hf⟩ := DataW.trod_struct ht h
  match xs, hlen with
  | [y0, y1], _ =>
    have g0 := hf 0 f0 rfl
    have g1 := hf 1 f1 rfl
    rw [o0, c0] at g0
    rw [o1, c1] at g1
    rw [hc] at hl
    obtain ⟨x0, x1, rfl⟩ := two_of hl
    have q0 : DataW.trod enc P W 0 (fun _ => true) true n f0.type [x0] = some y0 := g0
    have q1 : DataW.trod enc P W 0 (fun _ => true) true n f1.type [x1] = some y1 := g1
    obtain ⟨m1, e1, _, w1⟩ := DataW.trod_int u0 q0
    obtain ⟨s, e2, _, hs⟩ := DataW.trod_string u1 q1
    have e : maxLen = 9223372036854775807 := by decide
    rw [e] at hs
    have e1' : x0 = .int .i64 m1 := by simpa using e1
    have e2' : x1 = .string s := by simpa using e2
    subst e1' e2'
    exact ⟨⟨m1, s⟩, rfl, hs, fit_of w1⟩
theorem packets_of {H : Type} {enc : TypeId × Value → H} {P : Program} {W : World} {r : Reach} {b0 : Nat} {tS t : TypeId} {f0 f1 : Field} {v : Value} {d : DataW H} {ps : List MemPlace}
    (hS : P.underlying tS = some (.slice t)) (ht : P.underlying t = some (.struct #[f0, f1])) (hc : P.cellsOf t = 2) (o0 : f0.offset = 0) (o1 : f1.offset = 1)
    (u0 : P.underlying f0.type = some (.int .i64)) (u1 : P.underlying f1.type = some .string)
    (c0 : P.cellsOf f0.type = 1) (c1 : P.cellsOf f1.type = 1)
    (hval : Value.okWide P W r b0 tS v) (h : DataW.Trod enc P W 0 (fun _ => true) true tS v d ps) :
    ∃ (a : Option Addr) (cap : Nat) (l : List Pk), v = .slice a l.length cap ∧ Ps W.heap.size a l W ∧ (∀ r ∈ l, r.tx.size ≤ 9223372036854775807 ∧ fit r.ms) ∧ l.length ≤ 9223372036854775807 := by
  obtain ⟨a, len, cap, rfl⟩ := okWide_slice hS hval
  obtain ⟨fuel, hf⟩ := h
  have hf' : DataW.trod enc P W 0 (fun _ => true) true fuel tS [.slice a len cap] = some (d, ps) := hf
  obtain ⟨rows, hlen, hgs, hrows, hmax⟩ := gsl_of hS hc (by decide) hf'
  obtain ⟨l, rfl, hq⟩ := list_of (f := pcells) (Q := fun r => r.tx.size ≤ 9223372036854775807 ∧ fit r.ms) rows (fun r hr => by
    obtain ⟨n, x, hx⟩ := hrows r hr
    exact pcells_of ht hc o0 o1 u0 u1 c0 c1 hx)
  have hlen' : l.length = len := by simpa using hlen
  subst hlen'
  have e : maxLen = 9223372036854775807 := by decide
  rw [e] at hmax
  exact ⟨a, cap, l, rfl, hgs, hq, hmax⟩
end Go.Proofs.Ytnjeeeccfhpolaa
