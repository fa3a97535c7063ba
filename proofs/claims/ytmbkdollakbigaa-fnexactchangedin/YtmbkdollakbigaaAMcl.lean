/- The library's mclone over numbers, laid at this seat's own numbers. -/
import Derived.Shelf.SlMaps.Clone
import Derived.Test.YtmbkdollakbigaaProg
namespace Go.Proofs.Ytmbkdollakbigaa
set_option maxRecDepth 100000
open Go Go.Shelf Go.RowKit
def mclays_ren : Go.Shelf.Ren := ⟨fun | 5 => 26 | 7 => 48 | n => n, fun | 23 => 46 | 25 => 3 | 3 => 53 | 4 => 4 | 20 => 20 | n => n, fun | n => n⟩
theorem mclays : Go.Proofs.SlLaysW.n5 Try.prog mclays_ren := {
  mixed := by kernel_rfl
  f5 := ⟨ "maps.Clone[map[int]loop.example/g00541/impl.kept,int,loop.example/g00541/impl.kept]", by decide, Try.func26.trans (congrArg some (by kernel_rfl))⟩
  f7 := Try.func48.trans (congrArg some (by kernel_rfl))
  t4 := Try.underlying4
  a4 := Try.isAgg4
  z4 := Try.sizeOf4
  v4 := Try.zeroValue4
  t20 := Try.underlying20
  a20 := Try.isAgg20
  z20 := Try.sizeOf20
  v20 := Try.zeroValue20
  t23 := Try.underlying46
  a23 := Try.isAgg46
  z23 := Try.sizeOf46
  v23 := Try.zeroValue46 }
end Go.Proofs.Ytmbkdollakbigaa
