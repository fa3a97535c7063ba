/- Walks of SumZeros, of the program and of its model. -/
import Derived.Test.YtilijmnagcgjjaaDoorWU
import Derived.Test.YtilijmnagcgjjaaDoorBytes
import Derived.Test.YtilijmnagcgjjaaDoorShelf
namespace Go.Proofs.YtilijmnagcgjjaaDoor
set_option maxRecDepth 100000
open Go.ChangeShapes Go.WideShapes Go.ChangeAt Go.RowKit
def zeros (n : Nat) : ByteArray := ⟨(List.replicate n 0).toArray⟩
theorem zeros_data (n : Nat) : (zeros n).data.toList = List.replicate n 0 := by simp [zeros]
theorem zeros_size (n : Nat) : (zeros n).size = n := by simp [zeros, ByteArray.size]
theorem repeat_zero : ∀ n : Nat, Lib.repeatL [0] n = List.replicate n 0
  | 0 => rfl
  | n + 1 => by
    have ih := repeat_zero n
    simp [Lib.repeatL] at ih ⊢
    first | exact ih | (rw [List.replicate_succ, ih]) | (rw [ih]; rfl)
theorem repeat_any (n : Int) (w : World) (h0 : 0 ≤ n) (h : n ≤ 400) :
    Calls Tryd.prog 22 #[.string { data := #[0] }, .int .i64 n] w fun e w' => e = .returned (.string (zeros n.toNat)) ∧ Below w.heap.size w w' := by
  obtain ⟨n, rfl⟩ := Int.eq_ofNat_of_zero_le h0
  refine (Tryd.strings_Repeat { data := #[0] } n w (by omega) (by show 1 * n ≤ _; omega)).mono fun e w' ⟨he, hb⟩ => ⟨?_, hb⟩
  rw [he, Int.toNat_natCast, zeros, ← repeat_zero n]
def okZ (n m : Int) : Bool := decide (0 ≤ n ∧ n < 65536 ∧ 0 ≤ m ∧ m ≤ 400)
def valZ (n m : Int) : Int := if okZ n m = true then ((G00541.sumOn n.toNat (List.replicate m.toNat 0) : Nat) : Int) else 0
theorem okZ_yes {n m : Int} (h : 0 ≤ n ∧ n < 65536 ∧ 0 ≤ m ∧ m ≤ 400) : okZ n m = true := by unfold okZ; simpa using h
theorem okZ_no {n m : Int} (h : ¬ (0 ≤ n ∧ n < 65536 ∧ 0 ≤ m ∧ m ≤ 400)) : okZ n m = false := by unfold okZ; simpa using h
theorem valZ_yes {n m : Int} (h : 0 ≤ n ∧ n < 65536 ∧ 0 ≤ m ∧ m ≤ 400) : valZ n m = ((G00541.sumOn n.toNat (List.replicate m.toNat 0) : Nat) : Int) := by unfold valZ; rw [if_pos (okZ_yes h)]
theorem valZ_no {n m : Int} (h : ¬ (0 ≤ n ∧ n < 65536 ∧ 0 ≤ m ∧ m ≤ 400)) : valZ n m = 0 := by unfold valZ; rw [if_neg (by rw [okZ_no h]; decide)]
theorem sum_zeros (n m : Int) (h0 : 0 ≤ m) (h : m ≤ 400) : valSum n (zeros m.toNat) = valZ n m ∧ okSum n (zeros m.toNat) = okZ n m := by
  have hz := zeros_size m.toNat
  by_cases hg : 0 ≤ n ∧ n < 65536
  · obtain ⟨k, rfl⟩ := Int.eq_ofNat_of_zero_le hg.1
    have hy : (0 : Int) ≤ (k : Int) ∧ (k : Int) < 65536 ∧ 0 ≤ m ∧ m ≤ 400 := by omega
    rw [valZ_yes hy, okZ_yes hy, valSum_yes (by omega) (by omega), okSum_yes (by omega) (by omega), zeros_data, Int.toNat_natCast]
    exact ⟨rfl, rfl⟩
  · have hn : ¬ (0 ≤ n ∧ n < 65536 ∧ 0 ≤ m ∧ m ≤ 400) := by omega
    rw [valZ_no hn, okZ_no hn, valSum_no (by omega), okSum_no (by omega)]
    exact ⟨rfl, rfl⟩
theorem Tab.below {w w' : World} (hT : Tab w) (hb : Below w.heap.size w w') : Tab w' := fun i hi => by
  have h := hT i hi
  have hlt : 0 < w.heap.size := World.block_lt_of_cell? _ _ h
  exact (hb.cell (p := ⟨0, i, none⟩) hlt).trans h
set_option maxHeartbeats 400000 in
theorem implZ_any (n m : Int) (w : World) (hT : Tab w) :
    Calls Tryd.prog 10 #[.int .i64 n, .int .i64 m] w fun e w' => e = .returned (.tuple #[.int .i64 (valZ n m), .bool (okZ n m)]) ∧ Below w.heap.size w w' := by
  by_cases h : 0 ≤ m ∧ m ≤ 400
  · obtain ⟨h0, h4⟩ := h
    obtain ⟨e1, e2⟩ := sum_zeros n m h0 h4
    rw [← e1, ← e2]
    clear e1 e2
    have hz := zeros_size m.toNat
    have hd : decide (m < 0) = false := by simp; omega
    have he : decide (400 < m) = false := by simp; omega
    go_enter Tryd.func10, Tryd.ntmps10
    go_wp2_with fail
    refine (repeat_any _ _ h0 h4).mono ?_
    rintro e w1 ⟨rfl, b1⟩
    have hT1 : Tab w1 := hT.below b1
    have HB : Hid (Below w.heap.size w w1) := b1
    clear b1
    go_wp2_with fail
    refine (implOn_any _ _ _ hT1 (by omega)).mono ?_
    rintro e w2 ⟨rfl, rfl⟩
    go_wp2
    go_ret2
    exact ⟨rfl, HB.out⟩
  · have hn : ¬ (0 ≤ n ∧ n < 65536 ∧ 0 ≤ m ∧ m ≤ 400) := fun k => h k.2.2
    rw [valZ_no hn, okZ_no hn]
    clear hn
    by_cases hm : m < 0
    · have hd : decide (m < 0) = true := by simpa using hm
      go_enter Tryd.func10, Tryd.ntmps10
      go_wp2_with fail
      go_ret2
      exact ⟨rfl, Below.refl _ _⟩
    · have hd : decide (m < 0) = false := by simpa using hm
      have he : decide (400 < m) = true := by simp; omega
      go_enter Tryd.func10, Tryd.ntmps10
      go_wp2_with fail
      go_ret2
      exact ⟨rfl, Below.refl _ _⟩
theorem info5z : (Tryd.prog.info? 5).map (fun i => (i.zero, i.size, i.bytes)) = some (some (.int .u8 0), 1, 1) := by kernel_rfl
theorem make_bytesz (n : Int) (h0 : 0 ≤ n) (hn : n ≤ 1048576) (W : World) : (Instr.makeSlice 22 (.int .i64 n) (.int .i64 n)).run Tryd.prog W =
    .ok (.slice (some ⟨W.heap.size, 0, none⟩) n.toNat n.toNat) (W.alloc (.cells (madeCells (Value.int .u8 0).cells n.toNat) 5)) := by
  obtain ⟨i0, hi, hz0, hz1, hz2⟩ := info_parts info5z
  have h := run_make (P := Tryd.prog) W 22 5 i0 (.int .u8 0) Tryd.underlying22 hi hz0 .i64 .i64 n n h0 (by omega) (by rw [hz2]; omega) (by omega)
  rw [hz1] at h
  simpa using h
theorem zeros_back (n cap : Nat) (W : World) : Sem.run Tryd.prog (convert 22 9 (.slice (some ⟨W.heap.size, 0, none⟩) n cap)) (W.alloc (.cells (madeCells (Value.int .u8 0).cells n) 5)) = .ok (.string (zeros n)) (W.alloc (.cells (madeCells (Value.int .u8 0).cells n) 5)) :=
  (ByteRow.made W n).back (by simp) 22 9 Tryd.underlying22 Tryd.underlying5 Tryd.underlying9
theorem specOn_int (n : Int) (s : ByteArray) (w : World) (h0 : 0 ≤ n) (hn : n < 65536) (hs : s.size ≤ maxLen) :
    Calls Tryd.prog 25 #[.int .i64 n, .string s] w fun e w' => e = .returned (.int .i64 (G00541.sumOn n.toNat s.data.toList : Nat)) ∧ w' = w := by
  obtain ⟨n, rfl⟩ := Int.eq_ofNat_of_zero_le h0
  rw [Int.toNat_natCast]
  exact specOn_any n s w (by omega) hs
set_option maxHeartbeats 400000 in
theorem specZ_any (n m : Int) (w : World) :
    Calls Tryd.prog 16 #[.int .i64 n, .int .i64 m] w fun e w' => e = .returned (.tuple #[.int .i64 (valZ n m), .bool (okZ n m)]) ∧ Below w.heap.size w w' := by
  by_cases hn : n < 0 ∨ 65535 < n
  · have hno : ¬ (0 ≤ n ∧ n < 65536 ∧ 0 ≤ m ∧ m ≤ 400) := by omega
    rw [valZ_no hno, okZ_no hno]
    clear hno
    go_enter Tryd.func16, Tryd.ntmps16
    go_wp2_with fail
    refine (l1In_no _ _ _ _ hn).mono ?_
    rintro e w1 ⟨rfl, rfl⟩
    go_wp2
    go_ret2
    exact ⟨rfl, Below.refl _ _⟩
  · by_cases hm : m < 0 ∨ 400 < m
    · have hno : ¬ (0 ≤ n ∧ n < 65536 ∧ 0 ≤ m ∧ m ≤ 400) := by omega
      rw [valZ_no hno, okZ_no hno]
      clear hno
      have h1 : 0 ≤ n := by omega
      have h2 : n ≤ 65535 := by omega
      clear hn
      go_enter Tryd.func16, Tryd.ntmps16
      go_wp2_with fail
      refine (l1In_yes _ _ _ _ h1 h2).mono ?_
      rintro e w1 ⟨rfl, rfl⟩
      go_wp2_with fail
      refine (l1In_no _ _ _ _ hm).mono ?_
      rintro e w1 ⟨rfl, rfl⟩
      go_wp2
      go_ret2
      exact ⟨rfl, Below.refl _ _⟩
    · have hy : 0 ≤ n ∧ n < 65536 ∧ 0 ≤ m ∧ m ≤ 400 := by omega
      rw [valZ_yes hy, okZ_yes hy]
      obtain ⟨h1, h2, h3, h4⟩ := hy
      clear hn hm
      have hmk := make_bytesz m h3 (by omega)
      have hbk := zeros_back m.toNat m.toNat
      have hz : (zeros m.toNat).size ≤ maxLen := by rw [zeros_size]; unfold maxLen; omega
      rw [← zeros_data]
      generalize zeros m.toNat = z at *
      generalize madeCells (Value.int .u8 0).cells m.toNat = M at *
      go_enter Tryd.func16, Tryd.ntmps16
      go_wp2_with fail
      refine (l1In_yes _ _ _ _ h1 (by omega)).mono ?_
      rintro e w1 ⟨rfl, rfl⟩
      go_wp2_with fail
      refine (l1In_yes _ _ _ _ h3 h4).mono ?_
      rintro e w1 ⟨rfl, rfl⟩
      go_wp2_with fail
      refine (specOn_int _ _ _ h1 h2 hz).mono ?_
      rintro e w2 ⟨rfl, rfl⟩
      go_wp2
      go_ret2
      exact ⟨rfl, (Below.refl _ _).alloc (Nat.le_refl _) _⟩
end Go.Proofs.YtilijmnagcgjjaaDoor
