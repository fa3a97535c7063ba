/- Walk of the program's joinTexts. -/
import Derived.Test.YtmbkdollakbigaaChecked
import Derived.Test.YtmbkdollakbigaaHA
import Derived.ProofKit
namespace Go.Proofs.Ytmbkdollakbigaa
set_option maxRecDepth 100000
open Go.ChangeShapes Go.WideShapes Go.ChangeAt Go.RowKit
theorem infoU8 : (Try.prog.info? 5).map (fun i => (i.zero, i.size, i.bytes)) = some (some (.int .u8 0), 1, 1) := by kernel_rfl
theorem make_bytes (n : Nat) (hn : n ≤ 4194304) (W : World) : (Instr.makeSlice 94 (.int .i64 (n : Int)) (.int .i64 (n : Int))).run Try.prog W =
    .ok (.slice (some ⟨W.heap.size, 0, none⟩) n n) (W.alloc (.cells (madeCells (Value.int .u8 0).cells n) 5)) := by
  obtain ⟨i0, hi, hz0, hz1, hz2⟩ := info_parts infoU8
  have h := run_make (P := Try.prog) W 94 5 i0 _ Try.underlying94 hi hz0 .i64 .i64 (n : Int) (n : Int) (by omega) (by omega) (by rw [hz2]; omega) (by omega)
  rw [hz1] at h
  simpa using h
theorem ba_size (x : ByteArray) : x.data.toList.length = x.size := Array.length_toList
theorem splice_all (L : List Value) (c : List Value) (h : L.length = c.length) : splice L 0 c = c := by
  unfold splice; rw [List.drop_of_length_le (by omega)]; simp
theorem splice_two (L : List Value) (c d : List Value) (h : L.length = c.length + d.length) : splice (splice L 0 c) c.length d = c ++ d := by
  have h1 : splice L 0 c = c ++ L.drop c.length := by simp [splice]
  rw [h1]
  unfold splice
  rw [List.take_left, List.drop_of_length_le (by simp; omega), List.append_nil]
theorem ByteRow.ofHeap {R : Nat} {l : List UInt8} {t : TypeId} {w : World} (h : w.heap[R]? = some (.cells (bvals l).toArray t (0, 0))) : ByteRow R l w := by
  have hlt : R < w.heap.size := by
    rcases Nat.lt_or_ge R w.heap.size with h' | h'
    · exact h'
    · rw [Array.getElem?_eq_none h'] at h; cases h
  refine ⟨hlt, fun j hj => ?_, fun j _ => ?_⟩
  · unfold World.cell?
    rw [h]
    simp [bvals, hj]
  · unfold World.frozen?
    rw [h]
    simp
theorem bvals_app (a b : List UInt8) : bvals (a ++ b) = bvals a ++ bvals b := by simp [bvals]
theorem ba_app (x y : ByteArray) : (⟨(x.data.toList ++ y.data.toList).toArray⟩ : ByteArray) = x ++ y := by
  apply ByteArray.ext
  simp [ByteArray.data_append]
theorem sizeU8 : (Try.prog.info? 5).map (·.size) = some 1 := by kernel_rfl
theorem copy_first (x y : ByteArray) (M : Array Value) (hl : M.size = x.size + y.size) (v : World) :
    (Builtin.copy_ #[94, 9] 3 #[.slice (some ⟨v.heap.size, 0, none⟩) (x.size + y.size) (x.size + y.size), .string x]).run Try.prog (v.alloc (.cells M 5)) =
      .ok (goInt x.size) ((v.alloc (.cells M 5)).setRow v.heap.size (splice M.toList 0 (bvals x.data.toList)).toArray) :=
  run_copy_str _ _ _ _ 5 _ 0 _ _ x M 5 Try.underlying94 sizeU8 (heap_last _ _) (by omega) (by omega)
theorem copy_none (y : ByteArray) (h : y.size = 0) (d : Option Addr) (l c : Nat) (v : World) :
    (Builtin.copy_ #[94, 9] 3 #[.slice d l c, .string y]).run Try.prog v = .ok (goInt 0) v :=
  run_copy_str0 _ _ _ _ 5 d l c y Try.underlying94 sizeU8 h
theorem copy_second (x y : ByteArray) (M : Array Value) (hl : M.size = x.size + y.size) (v : World) :
    (Builtin.copy_ #[94, 9] 3 #[.slice (some ⟨v.heap.size, x.size, none⟩) y.size y.size, .string y]).run Try.prog ((v.alloc (.cells M 5)).setRow v.heap.size (splice M.toList 0 (bvals x.data.toList)).toArray) =
      .ok (goInt y.size) (((v.alloc (.cells M 5)).setRow v.heap.size (splice M.toList 0 (bvals x.data.toList)).toArray).setRow v.heap.size (splice (splice M.toList 0 (bvals x.data.toList)) x.size (bvals y.data.toList)).toArray) := by
  have h := run_copy_str (P := Try.prog) ((v.alloc (.cells M 5)).setRow v.heap.size (splice M.toList 0 (bvals x.data.toList)).toArray) 94 9 3 5 v.heap.size x.size y.size y.size y _ 5 Try.underlying94 sizeU8 (setRow_heap _ _ _ _ _ _ (heap_last _ _)) (Nat.le_refl _) (by
    have hlx : (bvals x.data.toList).length = x.size := by rw [bvals_len, ba_size]
    have := length_splice M.toList 0 (bvals x.data.toList) (by rw [hlx, Array.length_toList]; omega)
    rw [List.size_toArray, this, Array.length_toList]; omega)
  exact h
theorem join_row (x y : ByteArray) (M : Array Value) (hl : M.size = x.size + y.size) (v : World) :
    (((v.alloc (.cells M 5)).setRow v.heap.size (splice M.toList 0 (bvals x.data.toList)).toArray).setRow v.heap.size (splice (splice M.toList 0 (bvals x.data.toList)) x.size (bvals y.data.toList)).toArray).heap[v.heap.size]? = some (.cells (bvals (x.data.toList ++ y.data.toList)).toArray 5 (0, 0)) := by
  rw [setRow_heap _ _ _ _ _ _ (setRow_heap _ _ _ _ _ _ (heap_last _ _)), bvals_app]
  have hlx : (bvals x.data.toList).length = x.size := by rw [bvals_len, ba_size]
  have := splice_two M.toList (bvals x.data.toList) (bvals y.data.toList) (by rw [bvals_len, bvals_len, ba_size, ba_size, Array.length_toList, hl])
  rw [hlx] at this
  rw [this]
theorem join_row0 (x y : ByteArray) (h0 : y.size = 0) (M : Array Value) (hl : M.size = x.size + y.size) (v : World) :
    ((v.alloc (.cells M 5)).setRow v.heap.size (splice M.toList 0 (bvals x.data.toList)).toArray).heap[v.heap.size]? = some (.cells (bvals x.data.toList).toArray 5 (0, 0)) := by
  rw [setRow_heap _ _ _ _ _ _ (heap_last _ _)]
  rw [splice_all _ _ (by rw [bvals_len, ba_size, Array.length_toList, hl]; omega)]
theorem setRow_below (v : World) (M C : Array Value) : Below v.heap.size v ((v.alloc (.cells M 5)).setRow v.heap.size C) :=
  below_setRow ((Below.refl _ _).alloc (Nat.le_refl _) _) (Nat.le_refl _) _
set_option maxHeartbeats 1000000 in
theorem join_any (x y : ByteArray) (w : World) (hx : x.size ≤ 1048576) (hy : y.size ≤ 1048576) :
    Calls Try.prog 56 #[.string x, .string y] w fun e w' => e = .returned (.string (x ++ y)) ∧ Below w.heap.size w w' := by
  have hmk := make_bytes (x.size + y.size) (by omega)
  rw [Int.natCast_add] at hmk
  have hlen : (madeCells (Value.int .u8 0).cells (x.size + y.size)).size = x.size + y.size := by simp [madeCells]
  generalize madeCells (Value.int .u8 0).cells (x.size + y.size) = M at *
  have h1 := copy_first x y M hlen
  have hsd := setRow_below w M
  by_cases h0 : y.size = 0
  · have h2 := copy_none y h0
    have hrow := ByteRow.ofHeap (join_row0 x y h0 M hlen w)
    have hc := hrow.back (P := Try.prog) (n := x.size + y.size) (cap := x.size + y.size) (by rw [ba_size]; omega) 94 9 Try.underlying94 Try.underlying5 Try.underlying9
    have he : (⟨x.data.toList.toArray⟩ : ByteArray) = x ++ y := by
      rw [← ba_app, List.eq_nil_of_length_eq_zero (l := y.data.toList) (by rw [ba_size]; exact h0), List.append_nil]
    rw [he] at hc
    have HS : Hid (∀ C, Below w.heap.size w ((w.alloc (.cells M 5)).setRow w.heap.size C)) := hsd
    clear hsd hrow he hlen h0
    generalize x ++ y = z at *
    go_enter Try.func56, Try.ntmps56
    go_wp2
    all_goals
      go_ret
      exact ⟨rfl, HS.out _⟩
  · have h2 := copy_second x y M hlen
    have hp : 0 < y.size := by omega
    have hrow := ByteRow.ofHeap (join_row x y M hlen w)
    have hc := hrow.back (P := Try.prog) (n := x.size + y.size) (cap := x.size + y.size) (by rw [List.length_append, ba_size, ba_size]) 94 9 Try.underlying94 Try.underlying5 Try.underlying9
    rw [ba_app] at hc
    have HS : Hid (∀ C, Below w.heap.size w ((w.alloc (.cells M 5)).setRow w.heap.size C)) := hsd
    clear hsd hrow hlen h0
    generalize x ++ y = z at *
    go_enter Try.func56, Try.ntmps56
    go_wp2
    all_goals
      first
        | exact absurd (show y.size = 0 by rw [‹y = ByteArray.empty›]; rfl) (by omega)
        | (go_ret; exact ⟨rfl, below_setRow (HS.out _) (Nat.le_refl _) _⟩)
end Go.Proofs.Ytmbkdollakbigaa
