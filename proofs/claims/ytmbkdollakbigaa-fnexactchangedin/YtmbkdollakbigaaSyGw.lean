/- Drawn regions whose callees may make memory, but tell one value. -/
import Derived.Test.YtmbkdollakbigaaKReadI
import Derived.BigQuiet
namespace Go.Proofs.Ytmbkdollakbigaa
set_option maxRecDepth 100000
open Go Go.ChangeShapes Go.WideShapes Go.ChangeAt Go.RowKit
/-- a world that has grown -/
structure Gw (W : World) where
  v : World
  b : Below W.heap.size W v
/-- a region that draws, walked once: its callees may make memory, but tell one value in every world that has grown -/
theorem region_grown {P : Program} {id : Nat} {Q : Exit → Act → World → Prop} {a : Act} {w : World} {l : List Oper} (W : World) (hw : Below W.heap.size W w) (hm : P.follows .mixedOrders = true) (hB : Region.lexB .any l.toArray = true)
    (h : wpQuiet P l.toArray (fun w' => ∃ s : Gw W, w' = s.v) (fun a' => ∀ w', (∃ s : Gw W, w' = s.v) → Q .normal a' w') l a) : (Code.region id l.toArray true).wp P Q a w :=
  wp_region_quiet (C := fun w' => ∃ s : Gw W, w' = s.v) hm hB ⟨⟨w.drew, hw.drew⟩, rfl⟩ (by simpa using h)
theorem grown_of {P : Program} {f : FuncId} {args : Array Value} {W : World} {s : Gw W} {v : Value} (h : Calls P f args s.v fun e w' => e = .returned v ∧ Below s.v.heap.size s.v w') : Calls P f args s.v fun e w'' => e = .returned v ∧ ∃ s' : Gw W, w'' = s'.v :=
  h.mono fun _ w' ⟨he, hb⟩ => ⟨he, ⟨w', s.b.trans (hb.mono s.b.size)⟩, rfl⟩
theorem ownsMap_sameS {w w' : World} {b nn : Nat} {D : DataW Unit} (h : w.ownsMap Try.prog 3 keptE b nn D) (hb : w'.heap[b]? = w.heap[b]?) : w'.ownsMap Try.prog 3 keptE b nn D := by
  obtain ⟨es, clock, h1, h2⟩ := h
  exact ⟨es, clock, hb.trans h1, h2⟩
end Go.Proofs.Ytmbkdollakbigaa
