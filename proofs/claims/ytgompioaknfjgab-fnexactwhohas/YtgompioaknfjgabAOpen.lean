/- Lists of numbers that came in, opened; small things. -/
import Derived.Test.YtgompioaknfjgabGOpen
import Derived.Test.YtgompioaknfjgabKInt
import Derived.Test.YtgompioaknfjgabAAll
import Derived.Test.YtgompioaknfjgabVBase
namespace Go.Proofs.Ytgompioaknfjgab
set_option maxRecDepth 100000
open Go Go.ChangeShapes Go.WideShapes Go.ChangeAt Go.RowKit Go.Deep
/-- what an int holds -/
def fit (n : Int) : Prop := -9223372036854775808 ≤ n ∧ n ≤ 9223372036854775807
theorem fit_of {n : Int} (h : (Lit.int .i64 n).wf = true) : fit n := by
  have := bounds_i64 h
  exact ⟨by omega, by omega⟩
theorem slice_at {H : Type} {enc : TypeId × Value → H} {P : Program} {W : World} {tS t : TypeId} {n : Nat} {x : Value} {y : DataW H × List MemPlace} (hS : P.underlying tS = some (.slice t))
    (g : DataW.trod enc P W 0 (fun _ => true) true n tS [x] = some y) : ∃ a len cap, x = .slice a len cap := by
  rcases open_slice hS g with ⟨hcs, _⟩ | ⟨x', l, c, _, _, _, _, hcs, _⟩
  · exact ⟨none, 0, 0, by simpa using hcs⟩
  · exact ⟨some x', l, c, by simpa using hcs⟩
theorem ints_at {H : Type} {enc : TypeId × Value → H} {P : Program} {W : World} {tS t : TypeId} {n : Nat} {x : Value} {y : DataW H × List MemPlace}
    (hS : P.underlying tS = some (.slice t)) (ht : P.underlying t = some (.int .i64)) (hc : P.cellsOf t = 1)
    (g : DataW.trod enc P W 0 (fun _ => true) true n tS [x] = some y) :
    ∃ (a : Option Addr) (cap : Nat) (l : List Int), x = .slice a l.length cap ∧ Is W.heap.size a l W ∧ (∀ x ∈ l, fit x) ∧ l.length ≤ 9223372036854775807 := by
  obtain ⟨a, len, cap, rfl⟩ := slice_at hS g
  obtain ⟨rows, hlen, hgs, hrows, hmax⟩ := gsl_of hS hc (by decide) g
  obtain ⟨l, rfl, hq⟩ := list_of (f := icell) (Q := fit) rows (fun r hr => by
    obtain ⟨n, x, hx⟩ := hrows r hr
    obtain ⟨m0, e0, _, w0⟩ := DataW.trod_int ht hx
    exact ⟨m0, e0, fit_of w0⟩)
  have hlen' : l.length = len := by simpa using hlen
  subst hlen'
  have e : maxLen = 9223372036854775807 := by decide
  rw [e] at hmax
  exact ⟨a, cap, l, rfl, hgs, hq, hmax⟩
theorem ints_of {H : Type} {enc : TypeId × Value → H} {P : Program} {W : World} {r : Reach} {b0 : Nat} {tS t : TypeId} {v : Value} {d : DataW H} {ps : List MemPlace}
    (hS : P.underlying tS = some (.slice t)) (ht : P.underlying t = some (.int .i64)) (hc : P.cellsOf t = 1)
    (hval : Value.okWide P W r b0 tS v) (h : DataW.Trod enc P W 0 (fun _ => true) true tS v d ps) :
    ∃ (a : Option Addr) (cap : Nat) (l : List Int), v = .slice a l.length cap ∧ Is W.heap.size a l W ∧ (∀ x ∈ l, fit x) ∧ l.length ≤ 9223372036854775807 := by
  obtain ⟨a, len, cap, rfl⟩ := okWide_slice hS hval
  obtain ⟨fuel, hf⟩ := h
  have hf' : DataW.trod enc P W 0 (fun _ => true) true fuel tS [.slice a len cap] = some (d, ps) := hf
  obtain ⟨rows, hlen, hgs, hrows, hmax⟩ := gsl_of hS hc (by decide) hf'
  obtain ⟨l, rfl, hq⟩ := list_of (f := icell) (Q := fit) rows (fun r hr => by
    obtain ⟨n, x, hx⟩ := hrows r hr
    obtain ⟨m0, e0, _, w0⟩ := DataW.trod_int ht hx
    exact ⟨m0, e0, fit_of w0⟩)
  have hlen' : l.length = len := by simpa using hlen
  subst hlen'
  have e : maxLen = 9223372036854775807 := by decide
  rw [e] at hmax
  exact ⟨a, cap, l, rfl, hgs, hq, hmax⟩
end Go.Proofs.Ytgompioaknfjgab
