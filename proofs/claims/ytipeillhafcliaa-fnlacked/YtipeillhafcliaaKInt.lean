/- Slices of numbers: held against each other, marks laid and held. -/
import Derived.Test.YtipeillhafcliaaIntR
import Derived.Laws.MakeOwn
import Derived.Test.YtipeillhafcliaaChecked
import Derived.ProofKit
import Derived.RegionTactic
namespace Go.Proofs.Ytipeillhafcliaa
set_option maxRecDepth 100000
open Go.ChangeShapes Go.WideShapes Go.ChangeAt Go.RowKit
theorem take_snoc {α : Type} (l : List α) (k : Nat) (h : k < l.length) : l.take (k + 1) = l.take k ++ [l[k]] := List.take_succ_eq_append_getElem h
def imarks (n k : Nat) : List Int := (List.range n).map fun i => ((k + i : Nat) : Int)
theorem imarks_len (n k : Nat) : (imarks n k).length = n := by simp [imarks]
theorem imarks_at (n k i : Nat) (h : i < (imarks n k).length) : (imarks n k)[i] = ((k + i : Nat) : Int) := by simp [imarks]
theorem infoI : (Try.prog.info? 3).map (fun i => (i.zero, i.size, i.bytes)) = some (some (.int .i64 0), 1, 8) := by kernel_rfl
theorem make_ints (n : Nat) (hn : n ≤ 1048576) (W : World) : (Instr.makeSlice 23 (.int .i64 (n : Int)) (.int .i64 (n : Int))).run Try.prog W =
    .ok (.slice (some ⟨W.heap.size, 0, none⟩) n n) (W.alloc (.cells (madeCells (Value.int .i64 0).cells n) 3)) := by
  obtain ⟨i0, hi, hz0, hz1, hz2⟩ := info_parts infoI
  have h := run_make (P := Try.prog) W 23 3 i0 _ Try.underlying23 hi hz0 .i64 .i64 (n : Int) (n : Int) (by omega) (by omega) (by rw [hz2]; omega) (by omega)
  rw [hz1] at h
  simpa using h
theorem IRow.made (w : World) (n : Nat) : IRow w.heap.size (List.replicate n 0) (w.alloc (.cells (madeCells (Value.int .i64 0).cells n) 3)) := by
  have := GRow.made w 3 n #[.int .i64 0]
  unfold IRow
  rw [List.map_replicate]
  have e : (#[Value.int .i64 0] : Array Value).size = 1 := rfl
  rw [e, Nat.mul_one] at this
  exact this
end Go.Proofs.Ytipeillhafcliaa
