/- A list of numbers that came in, opened. -/
import Derived.Test.YtlifhakgboekfabHA
namespace Go.Proofs.Ytlifhakgboekfab
set_option maxRecDepth 100000
open Go Go.ChangeShapes Go.WideShapes Go.ChangeAt Go.RowKit Go.Deep
theorem ints_of {H : Type} {enc : TypeId × Value → H} {P : Program} {W : World} {r : Reach} {b0 : Nat} {tS t : TypeId} {v : Value} {d : DataW H} {ps : List MemPlace}
    (hS : P.underlying tS = some (.slice t)) (ht : P.underlying t = some (.int .i64)) (hc : P.cellsOf t = 1)
    (hval : Value.okWide P W r b0 tS v) (h : DataW.Trod enc P W 0 (fun _ => true) true tS v d ps) :
    ∃ (a : Option Addr) (cap : Nat) (l : List Int), v = .slice a l.length cap ∧ Is W.heap.size a l W ∧ (∀ x ∈ l, fit x) ∧ l.length ≤ 9223372036854775807 := by
  obtain ⟨a, len, cap, rfl⟩ := okWide_slice hS hval
  obtain ⟨fuel, hf⟩ := h
  have hf' : DataW.trod enc P W 0 (fun _ => true) true fuel tS [.slice a len cap] = some (d, ps) := hf
  exact ints_at hS ht hc hf'
end Go.Proofs.Ytlifhakgboekfab
