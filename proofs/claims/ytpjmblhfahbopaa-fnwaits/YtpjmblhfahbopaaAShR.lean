/- The library's reverse over numbers, laid at this seat's own numbers. -/
import Derived.Shelf.Slices.Reverse
import Derived.Lib.SlKeysI
import Derived.Test.YtpjmblhfahbopaaProg
namespace Go.Proofs.Ytpjmblhfahbopaa
set_option maxRecDepth 100000
open Go Go.Shelf Go.RowKit Go.Sort Go.Lib
def rlays_ren : Go.Shelf.Ren := ⟨fun | 112 => 62 | n => n, fun | 28 => 23 | 3 => 3 | 4 => 4 | 0 => 0 | n => n, fun | n => n⟩
theorem rlays : Go.Proofs.Lays.n112 Try.prog rlays_ren := {
  mixed := by kernel_rfl
  f112 := Try.func62.trans (congrArg some (by kernel_rfl))
  t0 := Try.underlying0
  a0 := Try.isAgg0
  z0 := Try.sizeOf0
  v0 := Try.zeroValue0
  t3 := Try.underlying3
  a3 := Try.isAgg3
  z3 := Try.sizeOf3
  v3 := Try.zeroValue3
  t4 := Try.underlying4
  a4 := Try.isAgg4
  z4 := Try.sizeOf4
  v4 := Try.zeroValue4
  t28 := Try.underlying23
  a28 := Try.isAgg23
  z28 := Try.sizeOf23
  v28 := Try.zeroValue23 }
theorem revI_row (blk off cap : Nat) (zs : List Int) (w : World) (hH : Holds (Value.int .i64) w blk off zs.toArray) (hsz : zs.length ≤ 9223372036854775807) :
    Calls Try.prog 62 #[.slice (some ⟨blk, off, none⟩) zs.length cap] w fun e w' => e = .returned (.tuple #[]) ∧ ∃ n, w' = putRow (Value.int .i64) (Sort.ahead w n) blk off zs.reverse.toArray := Any.slices_Reverse_int rlays blk off cap zs w hH hsz
theorem revI_none (p : Option Addr) (cap : Nat) (w : World) : Calls Try.prog 62 #[.slice p 0 cap] w fun e w' => e = .returned (.tuple #[]) ∧ w' = w := Any.slices_Reverse_int_empty rlays p cap w
end Go.Proofs.Ytpjmblhfahbopaa
