/- What comes in fits. -/
import Derived.Test.YtmlmllhcoobijabXOpen
import Derived.Test.YtmlmllhcoobijabXIn
import Derived.Test.YtmlmllhcoobijabIntR
import Derived.ProofKit
namespace Go.Proofs.Ytmlmllhcoobijab
open Go Go.ChangeShapes Go.WideShapes Go.ChangeAt Go.RowKit Go.Deep G00541
theorem fit_of {n : Int} (h : (Lit.int .i64 n).wf = true) : fit n := by
  have := bounds_i64 h
  exact ⟨by omega, by omega⟩
def FitX (x : Sx) : Prop := fit x.at_ ∧ fit x.long ∧ fit x.place
theorem fitX_fit {x : Sx} (h : fitX x) : FitX x := ⟨fit_of h.1, fit_of h.2.1, fit_of h.2.2⟩
theorem fitX_all {l : List Sx} (h : ∀ x ∈ l, fitX x) : FitM l := fun x hx => ⟨fit_of (h x hx).1, fit_of (h x hx).2.1⟩
theorem ints_of {H : Type} {enc : TypeId × Value → H} {P : Program} {W : World} {r : Reach} {b0 : Nat} {tS t : TypeId} {v : Value} {d : DataW H} {ps : List MemPlace}
    (hS : P.underlying tS = some (.slice t)) (ht : P.underlying t = some (.int .i64)) (hc : P.cellsOf t = 1)
    (hval : Value.okWide P W r b0 tS v) (h : DataW.Trod enc P W 0 (fun _ => true) true tS v d ps) :
    ∃ (a : Option Addr) (cap : Nat) (l : List Int), v = .slice a l.length cap ∧ Is W.heap.size a l W ∧ (∀ x ∈ l, fit x) ∧ l.length ≤ 9223372036854775807 := by
  obtain ⟨a, len, cap, rfl⟩ := okWide_slice hS hval
  obtain ⟨fuel, hf⟩ := h
  have hf' : DataW.trod enc P W 0 (fun _ => true) true fuel tS [.slice a len cap] = some (d, ps) := hf
  obtain ⟨rows, hlen, hgs, hrows, hmax⟩ := gsl_of hS hc (by decide) hf'
  obtain ⟨l, rfl, hq⟩ := list_of (f := icell) (Q := fit) rows (fun r hr => by
    obtain ⟨n, x, hx⟩ := hrows r hr
    obtain ⟨m0, e0, _, w0⟩ := DataW.trod_int ht hx
    exact ⟨m0, e0, fit_of w0⟩)
  have hlen' : l.length = len := by simpa using hlen
  subst hlen'
  have e : maxLen = 9223372036854775807 := by decide
  rw [e] at hmax
  exact ⟨a, cap, l, rfl, hgs, hq, hmax⟩
end Go.Proofs.Ytmlmllhcoobijab
