/- Slices of texts: held against each other, marks laid and held. -/
import Derived.Test.YtfkcfachbfbmpaaStrR
import Derived.Test.YtfkcfachbfbmpaaMarkT
import Derived.Test.YtfkcfachbfbmpaaVBase
import Derived.Test.YtfkcfachbfbmpaaKInt
import Derived.Deep.RegionWith
import Derived.RegionTactic
namespace Go.Proofs.Ytfkcfachbfbmpaa
set_option maxRecDepth 100000
open Go.ChangeShapes Go.WideShapes Go.ChangeAt Go.RowKit
def smarks (n k : Nat) : List ByteArray := (List.range n).map fun (i : Nat) => markT (k + i)
theorem smarks_len (n k : Nat) : (smarks n k).length = n := by simp [smarks]
theorem smarks_at (n k i : Nat) (h : i < (smarks n k).length) : (smarks n k)[i] = markT (k + i) := by simp [smarks]
theorem SRow.madeV (w : World) (n : Nat) : SRow w.heap.size (List.replicate n ⟨#[]⟩) (w.alloc (.cells (madeCells (Value.string ⟨#[]⟩).cells n) 9)) := by
  have := GRow.made w 9 n #[.string ⟨#[]⟩]
  unfold SRow
  rw [List.map_replicate]
  have e : n * (#[Value.string ⟨#[]⟩] : Array Value).size = n := Nat.mul_one n
  rw [e] at this
  exact this
theorem infoStrV : (Try.prog.info? 9).map (fun i => (i.zero, i.size, i.bytes)) = some (some (.string ⟨#[]⟩), 1, 16) := by kernel_rfl
theorem make_strsV (n : Nat) (hn : n ≤ 1048576) (W : World) : (Instr.makeSlice 78 (.int .i64 (n : Int)) (.int .i64 (n : Int))).run Try.prog W =
    .ok (.slice (some ⟨W.heap.size, 0, none⟩) n n) (W.alloc (.cells (madeCells (Value.string ⟨#[]⟩).cells n) 9)) := by
  obtain ⟨i0, hi, hz0, hz1, hz2⟩ := info_parts infoStrV
  have h := run_make (P := Try.prog) W 78 9 i0 _ Try.underlying78 hi hz0 .i64 .i64 (n : Int) (n : Int) (by omega) (by omega) (by rw [hz2]; omega) (by omega)
  rw [hz1] at h
  simpa using h
end Go.Proofs.Ytfkcfachbfbmpaa
