/- The exact law of ReadAt: both walks. -/
import Derived.Test.YtndcnilkibfbpaaLKread
import Derived.Test.YtndcnilkibfbpaaKReadI
namespace Go.Proofs.Ytndcnilkibfbpaa
set_option maxRecDepth 100000
open Go Go.ChangeShapes Go.WideShapes Go.ChangeAt Go.RowKit
theorem walk_ReadAt (a : Option Addr) (k : Nat) (S : List Ly) (n1 n2 : Int) (w : World) (hn : S.length ≤ 9223372036854775807) (hz : ∀ s ∈ S, cntY s) (hG : Ys w.heap.size a S w) (_ : fit n1) (_ : fit n2) :
    Calls Try.prog 7 #[.agg #[.slice a S.length k], .int .i64 n1, .int .i64 n2] w fun e w' => e = .returned (.bool true) ∧ Below w.heap.size w w' :=
  law_ReadAt a k S n1 n2 w hn hz hG fun hf => ⟨rdT S n1 n2, rdB S n1 n2, fun a k v h1 h2 => sread_any a k S n1 n2 v hf.len hf.bl h2 h1, fun a k v h1 _ => iread_any a k S n1 n2 v hf.len hf.bl h1⟩
end Go.Proofs.Ytndcnilkibfbpaa
