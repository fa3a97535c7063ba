/- The law on sums: its walk out of the contracts. -/
import Derived.Test.YtilijmnagcgjjaaDoorDraw2
namespace Go.Proofs.YtilijmnagcgjjaaDoor
set_option maxRecDepth 100000
open Go.ChangeShapes Go.WideShapes Go.ChangeAt Go.RowKit
theorem implOf_yes (s : ByteArray) (w : World) (hT : Tab w) (hs : s.size ≤ 400) :
    Calls Tryd.prog 7 #[.string s] w fun e w' => e = .returned (.tuple #[.int .i64 (G00541.sumOn 0 s.data.toList : Nat), .bool true]) ∧ w' = w := by
  refine (implOf_any s w hT (by omega)).mono fun e w' ⟨he, hw⟩ => ⟨?_, hw⟩
  rw [he, show (0 : Int) = ((0 : Nat) : Int) from rfl, okSum_yes (by decide) hs, valSum_yes (by decide) hs]
theorem implZ_yes (n : Nat) (m : Int) (w : World) (hT : Tab w) (hn : n < 65536) (h0 : 0 ≤ m) (h4 : m ≤ 400) :
    Calls Tryd.prog 10 #[.int .i64 n, .int .i64 m] w fun e w' => e = .returned (.tuple #[.int .i64 (G00541.sumOn n (List.replicate m.toNat 0) : Nat), .bool true]) ∧ Below w.heap.size w w' := by
  refine (implZ_any n m w hT).mono fun e w' ⟨he, hb⟩ => ⟨?_, hb⟩
  have hy : (0 : Int) ≤ (n : Int) ∧ (n : Int) < 65536 ∧ 0 ≤ m ∧ m ≤ 400 := by omega
  rw [he, okZ_yes hy, valZ_yes hy, Int.toNat_natCast]
/-- the facts on sums that the law asks for, at a place k -/
theorem sums_facts (s t : ByteArray) (k : Nat) (h1 : s.size = t.size) :
    (G00541.sumOn 0 (xorL s t)) = (G00541.sumOn 0 s.data.toList) ^^^ (G00541.sumOn 0 t.data.toList) ∧
    G00541.sumOn (G00541.sumOn 0 (s.data.toList.take k)) (s.data.toList.drop k) = G00541.sumOn 0 s.data.toList ∧
    (G00541.sumOn (G00541.sumOn 0 (s.data.toList.take k)) (List.replicate (s.size - k) 0)) ^^^ (G00541.sumOn 0 (s.data.toList.drop k)) = G00541.sumOn 0 s.data.toList := by
  have e : G00541.sumOn (G00541.sumOn 0 (s.data.toList.take k)) (s.data.toList.drop k) = G00541.sumOn 0 s.data.toList := by
    rw [← G00541.sumOn_append, List.take_append_drop]
  refine ⟨?_, e, ?_⟩
  · have := G00541.sumOn_xor s.data.toList t.data.toList 0 0 (by simpa using h1) (by decide) (by decide)
    rw [Nat.xor_self] at this
    exact this
  · have hl : (s.data.toList.drop k).length = s.size - k := by simp
    rw [← hl, G00541.sumOn_zeros _ _ (G00541.sumOn_lt _ _ (by decide)), e]
theorem xor_ne (P Q R : Nat) (hP : P < 65536) (hQ : Q < 65536) (h : R = P ^^^ Q) : ((R : Int) != bits .xor .i64 (P : Int) (Q : Int)) = false := by
  rw [i64_xor _ _ (by omega) (by omega), bne_eq_false_iff_eq, h]
theorem xor_ne' (P Q R : Nat) (hP : P < 65536) (hQ : Q < 65536) (h : P ^^^ Q = R) : (bits .xor .i64 (P : Int) (Q : Int) != (R : Int)) = false := by
  rw [i64_xor _ _ (by omega) (by omega), bne_eq_false_iff_eq, h]
theorem mod_nat (n : Int) (m : Nat) : ∃ k : Nat, n % ((m : Int) + 1) = (k : Int) ∧ k ≤ m := by
  have h0 := Int.emod_nonneg n (b := (m : Int) + 1) (by omega)
  have h1 := Int.emod_lt_of_pos n (b := (m : Int) + 1) (by omega)
  exact ⟨(n % ((m : Int) + 1)).toNat, by omega, by omega⟩
theorem take_data (s : ByteArray) (k : Nat) : (s.extract 0 k).data.toList = s.data.toList.take k := by
  simp [ByteArray.data_extract]
theorem drop_data (s : ByteArray) (k : Nat) : (s.extract k s.size).data.toList = s.data.toList.drop k := by
  simp [ByteArray.data_extract]
  exact List.take_of_length_le (by simp)
end Go.Proofs.YtilijmnagcgjjaaDoor
