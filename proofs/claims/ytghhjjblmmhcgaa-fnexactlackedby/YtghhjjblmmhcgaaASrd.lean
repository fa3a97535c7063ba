/- The library's sorted over numbers, laid at this seat's own numbers. -/
import Derived.Shelf.SlIterI.Nil
import Derived.Test.YtghhjjblmmhcgaaProg
namespace Go.Proofs.Ytghhjjblmmhcgaa
set_option maxRecDepth 100000
open Go Go.Shelf Go.RowKit
def zlays_ren : Go.Shelf.Ren := ⟨fun | 6 => 45 | 8 => 47 | 9 => 48 | 11 => 50 | 13 => 52 | 12 => 51 | 23 => 62 | 24 => 63 | 14 => 53 | 15 => 54 | 16 => 55 | 17 => 56 | 18 => 57 | 19 => 58 | 20 => 59 | 21 => 60 | 22 => 61 | 25 => 64 | 26 => 65 | 27 => 66 | 28 => 67 | 29 => 68 | 30 => 69 | 31 => 70 | n => n, fun | 26 => 3 | 28 => 45 | 24 => 22 | 0 => 0 | 3 => 3 | 37 => 53 | 48 => 63 | 50 => 65 | 4 => 4 | 40 => 56 | 39 => 55 | 45 => 60 | 5 => 5 | 9 => 9 | 51 => 66 | 55 => 70 | 57 => 72 | 58 => 73 | 33 => 33 | n => n, fun | n => n⟩
theorem zlays : Go.Proofs.SlLaysZI.n6 Try.prog zlays_ren := {
  mixed := by kernel_rfl
  f6 := ⟨ "slices.Sorted[int]", by decide, Try.func45.trans (congrArg some (by kernel_rfl))⟩
  f8 := ⟨ "slices.Collect[int]", by decide, Try.func47.trans (congrArg some (by kernel_rfl))⟩
  f11 := ⟨ "slices.AppendSeq[[]int,int]", by decide, Try.func50.trans (congrArg some (by kernel_rfl))⟩
  t0 := Try.underlying0
  a0 := Try.isAgg0
  z0 := Try.sizeOf0
  v0 := Try.zeroValue0
  t24 := Try.underlying22
  a24 := Try.isAgg22
  z24 := Try.sizeOf22
  v24 := Try.zeroValue22
  t26 := Try.underlying3
  a26 := Try.isAgg3
  z26 := Try.sizeOf3
  v26 := Try.zeroValue3
  t28 := Try.underlying45
  a28 := Try.isAgg45
  z28 := Try.sizeOf45
  v28 := Try.zeroValue45
  i26 := by kernel_rfl }
end Go.Proofs.Ytghhjjblmmhcgaa
