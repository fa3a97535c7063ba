/- Texts that are cut. -/
import Derived.Test.YthoeffbefmhkjaaDoorChecked
import Derived.Test.YthoeffbefmhkjaaDoorQA
import Derived.WalkKit
import Derived.ProofKit
namespace Go.Proofs.YthoeffbefmhkjaaDoor
set_option maxRecDepth 100000
open Go.ChangeShapes Go.WideShapes Go.ChangeAt Go.RowKit G00541
theorem cut_at (s : ByteArray) (i j : Nat) (x y : Int) (hx : x = i) (hy : y = j) (h : i ≤ j) (hj : j ≤ s.size) (v : World) :
    Sem.run Tryd.prog (Instr.slice 9 (.string s) (some (.int .i64 x)) (some (.int .i64 y)) none) v = .ok (.string (s.extract i j)) v := by
  subst hx hy
  have := run_slice_string (P := Tryd.prog) v 9 s .i64 .i64 (i : Int) (j : Int) Tryd.underlying9 (by omega) (by omega) (by omega)
  rw [Int.toNat_natCast, Int.toNat_natCast] at this
  exact this
theorem cut_from (s : ByteArray) (i : Nat) (x : Int) (hx : x = i) (h : i ≤ s.size) (v : World) :
    Sem.run Tryd.prog (Instr.slice 9 (.string s) (some (.int .i64 x)) none none) v = .ok (.string (s.extract i s.size)) v := by
  subst hx
  rw [run_slice_string_from_if v 9 s .i64 (i : Int) Tryd.underlying9, if_pos ⟨by omega, by omega⟩, Int.toNat_natCast]
theorem cut_to (s : ByteArray) (j : Nat) (y : Int) (hy : y = j) (h : j ≤ s.size) (v : World) :
    Sem.run Tryd.prog (Instr.slice 9 (.string s) none (some (.int .i64 y)) none) v = .ok (.string (s.extract 0 j)) v := by
  subst hy
  rw [run_slice_string_to_if v 9 s .i64 (j : Int) Tryd.underlying9, if_pos ⟨by omega, by omega⟩, Int.toNat_natCast]
theorem ext_size (s : ByteArray) (i j : Nat) (h : i ≤ j) (hj : j ≤ s.size) : (s.extract i j).size = j - i := by rw [ByteArray.size_extract]; omega
theorem ext_list (s : ByteArray) (i j : Nat) : (s.extract i j).data.toList = (s.data.toList.drop i).take (j - i) := by
  rw [ByteArray.data_extract, Array.toList_extract, List.extract_eq_take_drop]
theorem get_list (s : ByteArray) (i : Nat) (h : i < s.size) : s.data.toList.getD i 0 = s[i] := by
  rw [List.getD_eq_getElem?_getD, List.getElem?_eq_getElem (by rw [bytes_size]; exact h)]
  rfl
theorem piece_eq (T : ByteArray) (h : 5 ≤ T.size) : pieceR T.data.toList = ⟨(T[0].toNat : Int), (T[1].toNat : Int), (T[2].toNat : Int), (T.extract 3 (T.size - 2)).data.toList⟩ := by
  unfold pieceR
  rw [get_list T 0 (by omega), get_list T 1 (by omega), get_list T 2 (by omega), ext_list, bytes_size, show T.size - 2 - 3 = T.size - 5 by omega]
/-- readR over a text's own bytes -/
theorem readR_out {s : ByteArray} {p : Nat} (h : s.size ≤ p) : readR s.data.toList p = none := by
  unfold readR
  rw [if_neg (by rw [bytes_size]; omega)]
theorem readR_at {s : ByteArray} {p n : Nat} (hp : p < s.size) (hn : s[p].toNat = n) :
    readR s.data.toList p = if 5 ≤ n ∧ n ≤ s.size - p - 1 ∧ goodR (pieceR (s.extract (p + 1) (p + 1 + n)).data.toList) = true ∧ sumOn 0 (s.extract (p + 1) (p + 1 + n)).data.toList = 0 then some (pieceR (s.extract (p + 1) (p + 1 + n)).data.toList, p + 1 + n) else none := by
  unfold readR
  rw [if_pos (by rw [bytes_size]; exact hp)]
  simp only [get_list s p hp, hn, bytes_size]
  rw [ext_list, show p + 1 + n - (p + 1) = n by omega]
end Go.Proofs.YthoeffbefmhkjaaDoor
