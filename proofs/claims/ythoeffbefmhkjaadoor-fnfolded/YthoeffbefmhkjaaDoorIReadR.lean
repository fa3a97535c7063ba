/- Walks of the program's ReadRecord. -/
import Derived.Test.YthoeffbefmhkjaaDoorQA
import Derived.Test.YthoeffbefmhkjaaDoorSChk
import Derived.Test.YthoeffbefmhkjaaDoorCut
namespace Go.Proofs.YthoeffbefmhkjaaDoor
set_option maxRecDepth 100000
open Go.ChangeShapes Go.WideShapes Go.ChangeAt Go.RowKit G00541
set_option maxHeartbeats 400000 in
theorem ird_out (s : ByteArray) (p : Int) (w : World) (h : 300 < s.size ∨ p < 0 ∨ (s.size : Int) ≤ p) :
    Calls Tryd.prog 17 #[.string s, .int .i64 p] w fun e w' => e = .returned (.tuple #[zrec, .int .i64 0, .bool false]) ∧ Below w.heap.size w w' := by
  by_cases h0 : 300 < s.size
  · have hd0 : decide ((300 : Int) < (s.size : Int)) = true := by simp; omega
    go_enter Tryd.func17, Tryd.ntmps17
    go_wp2
    refine bodyPost_ret (v := .tuple #[zrec, .int .i64 0, .bool false]) (by simp [results, Tryd.results17, go_sem, zrec]) rfl ⟨rfl, (Below.refl _ _).alloc (Nat.le_refl _) _⟩
  · have hd0 : decide ((300 : Int) < (s.size : Int)) = false := by simp; omega
    by_cases h1 : p < 0
    · have hd1 : decide (p < 0) = true := by simpa using h1
      go_enter Tryd.func17, Tryd.ntmps17
      go_wp2
      refine bodyPost_ret (v := .tuple #[zrec, .int .i64 0, .bool false]) (by simp [results, Tryd.results17, go_sem, zrec]) rfl ⟨rfl, (Below.refl _ _).alloc (Nat.le_refl _) _⟩
    · have hd1 : decide (p < 0) = false := by simpa using h1
      have hd2 : decide ((s.size : Int) ≤ p) = true := by simp; omega
      go_enter Tryd.func17, Tryd.ntmps17
      go_wp2
      refine bodyPost_ret (v := .tuple #[zrec, .int .i64 0, .bool false]) (by simp [results, Tryd.results17, go_sem, zrec]) rfl ⟨rfl, (Below.refl _ _).alloc (Nat.le_refl _) _⟩
set_option maxHeartbeats 1000000 in
theorem ird_long (s R : ByteArray) (p n m : Nat) (w : World) (hs : s.size ≤ 300) (hp : p < s.size) (hn : s[p].toNat = n) (hn2 : n < 256) (hR : R.size = m) (hm : m + p + 1 = s.size)
    (hcR : ∀ v, Sem.run Tryd.prog (Instr.slice 9 (.string s) (some (.int .i64 ((p : Int) + 1))) none none) v = .ok (.string R) v) (hlt : m < n) :
    Calls Tryd.prog 17 #[.string s, .int .i64 p] w fun e w' => e = .returned (.tuple #[zrec, .int .i64 0, .bool false]) ∧ Below w.heap.size w w' := by
  have hd0 : decide ((300 : Int) < (s.size : Int)) = false := by simp; omega
  have hd1 : decide ((p : Int) < 0) = false := by simp
  have hd2 : decide ((s.size : Int) ≤ (p : Int)) = false := by simp; omega
  have hd3 : decide ((m : Int) < (n : Int)) = true := by simp; omega
  go_enter Tryd.func17, Tryd.ntmps17
  go_wp2_with fail
  go_big_region
  generalize hW1 : (w.alloc (.cells #[.int .i64 0, .int .i64 0, .int .i64 0, .string ⟨#[]⟩] 36)).drew = w1
  have HZ1 : Hid (ZeroAt w w.heap.size w1) := by rw [← hW1]; exact (ZeroAt.start w).drew
  clear hW1
  obtain ⟨z0, z1, z2, z3, f0, f1, f2, f3, _, _, _⟩ := HZ1.out
  go_wp2
  refine bodyPost_ret (v := .tuple #[zrec, .int .i64 0, .bool false]) (by simp [results, Tryd.results17, go_sem, zrec, z0, z1, z2, z3]) rfl ⟨rfl, setFour HZ1.out.bel (Nat.le_refl _) _ _ _ _⟩
set_option maxHeartbeats 1000000 in
theorem ird_sum (s R T B : ByteArray) (p n m : Nat) (w : World) (hs : s.size ≤ 300) (hp : p < s.size) (hn : s[p].toNat = n) (hn2 : n < 256) (hR : R.size = m) (hm : m + p + 1 = s.size)
    (hcR : ∀ v, Sem.run Tryd.prog (Instr.slice 9 (.string s) (some (.int .i64 ((p : Int) + 1))) none none) v = .ok (.string R) v) (hle : n ≤ m)
    (hcT : ∀ v, Sem.run Tryd.prog (Instr.slice 9 (.string R) none (some (.int .i64 (n : Int))) none) v = .ok (.string T) v)
    (HK : Hid (∀ v, Below w.heap.size w v → Calls Tryd.prog 40 #[.string T] v fun e w' => e = .returned (.tuple #[.string B, .bool false]) ∧ Below v.heap.size v w')) :
    Calls Tryd.prog 17 #[.string s, .int .i64 p] w fun e w' => e = .returned (.tuple #[zrec, .int .i64 0, .bool false]) ∧ Below w.heap.size w w' := by
  have hd0 : decide ((300 : Int) < (s.size : Int)) = false := by simp; omega
  have hd1 : decide ((p : Int) < 0) = false := by simp
  have hd2 : decide ((s.size : Int) ≤ (p : Int)) = false := by simp; omega
  have hd3 : decide ((m : Int) < (n : Int)) = false := by simp; omega
  go_enter Tryd.func17, Tryd.ntmps17
  go_wp2_with fail
  go_big_region
  generalize hW1 : (w.alloc (.cells #[.int .i64 0, .int .i64 0, .int .i64 0, .string ⟨#[]⟩] 36)).drew = w1
  have HZ1 : Hid (ZeroAt w w.heap.size w1) := by rw [← hW1]; exact (ZeroAt.start w).drew
  clear hW1
  go_wp2_with fail
  refine (HK.out _ HZ1.out.bel).mono ?_
  rintro e w2 ⟨rfl, g2⟩
  have HZ2 : Hid (ZeroAt w w.heap.size w2) := HZ1.out.below g2
  clear g2
  obtain ⟨z0, z1, z2, z3, f0, f1, f2, f3, _, _, _⟩ := HZ2.out
  go_wp2
  refine bodyPost_ret (v := .tuple #[zrec, .int .i64 0, .bool false]) (by simp [results, Tryd.results17, go_sem, zrec, z0, z1, z2, z3]) rfl ⟨rfl, setFour HZ2.out.bel (Nat.le_refl _) _ _ _ _⟩
set_option maxHeartbeats 1000000 in
theorem ird_short (s R T B : ByteArray) (p n m : Nat) (w : World) (hs : s.size ≤ 300) (hp : p < s.size) (hn : s[p].toNat = n) (hn2 : n < 256) (hR : R.size = m) (hm : m + p + 1 = s.size)
    (hcR : ∀ v, Sem.run Tryd.prog (Instr.slice 9 (.string s) (some (.int .i64 ((p : Int) + 1))) none none) v = .ok (.string R) v) (hle : n ≤ m)
    (hcT : ∀ v, Sem.run Tryd.prog (Instr.slice 9 (.string R) none (some (.int .i64 (n : Int))) none) v = .ok (.string T) v)
    (HK : Hid (∀ v, Below w.heap.size w v → Calls Tryd.prog 40 #[.string T] v fun e w' => e = .returned (.tuple #[.string B, .bool true]) ∧ Below v.heap.size v w')) (h3 : B.size < 3) :
    Calls Tryd.prog 17 #[.string s, .int .i64 p] w fun e w' => e = .returned (.tuple #[zrec, .int .i64 0, .bool false]) ∧ Below w.heap.size w w' := by
  have hd0 : decide ((300 : Int) < (s.size : Int)) = false := by simp; omega
  have hd1 : decide ((p : Int) < 0) = false := by simp
  have hd2 : decide ((s.size : Int) ≤ (p : Int)) = false := by simp; omega
  have hd3 : decide ((m : Int) < (n : Int)) = false := by simp; omega
  have hd4 : decide ((B.size : Int) < 3) = true := by simp; omega
  go_enter Tryd.func17, Tryd.ntmps17
  go_wp2_with fail
  go_big_region
  generalize hW1 : (w.alloc (.cells #[.int .i64 0, .int .i64 0, .int .i64 0, .string ⟨#[]⟩] 36)).drew = w1
  have HZ1 : Hid (ZeroAt w w.heap.size w1) := by rw [← hW1]; exact (ZeroAt.start w).drew
  clear hW1
  go_wp2_with fail
  refine (HK.out _ HZ1.out.bel).mono ?_
  rintro e w2 ⟨rfl, g2⟩
  have HZ2 : Hid (ZeroAt w w.heap.size w2) := HZ1.out.below g2
  clear g2
  obtain ⟨z0, z1, z2, z3, f0, f1, f2, f3, _, _, _⟩ := HZ2.out
  go_wp2
  refine bodyPost_ret (v := .tuple #[zrec, .int .i64 0, .bool false]) (by simp [results, Tryd.results17, go_sem, zrec, z0, z1, z2, z3]) rfl ⟨rfl, setFour HZ2.out.bel (Nat.le_refl _) _ _ _ _⟩
set_option maxHeartbeats 1000000 in
theorem ird_bad (s R T B D : ByteArray) (p n m x0 x1 x2 : Nat) (w : World) (hs : s.size ≤ 300) (hp : p < s.size) (hn : s[p].toNat = n) (hn2 : n < 256) (hR : R.size = m) (hm : m + p + 1 = s.size)
    (hcR : ∀ v, Sem.run Tryd.prog (Instr.slice 9 (.string s) (some (.int .i64 ((p : Int) + 1))) none none) v = .ok (.string R) v) (hle : n ≤ m)
    (hcT : ∀ v, Sem.run Tryd.prog (Instr.slice 9 (.string R) none (some (.int .i64 (n : Int))) none) v = .ok (.string T) v)
    (HK : Hid (∀ v, Below w.heap.size w v → Calls Tryd.prog 40 #[.string T] v fun e w' => e = .returned (.tuple #[.string B, .bool true]) ∧ Below v.heap.size v w')) (h3 : 3 ≤ B.size) (hB : B.size ≤ 300) (e0 : B[0].toNat = x0) (e1 : B[1].toNat = x1) (e2 : B[2].toNat = x2) (b0 : x0 < 256) (b1 : x1 < 256) (b2 : x2 < 256)
    (hcD : ∀ v, Sem.run Tryd.prog (Instr.slice 9 (.string B) (some (.int .i64 3)) none none) v = .ok (.string D) v) (HG : Hid (∀ v, Calls Tryd.prog 30 #[.agg #[.int .i64 x0, .int .i64 x1, .int .i64 x2, .string D]] v fun e w' => e = .returned (.bool false) ∧ Below v.heap.size v w')) :
    Calls Tryd.prog 17 #[.string s, .int .i64 p] w fun e w' => e = .returned (.tuple #[zrec, .int .i64 0, .bool false]) ∧ Below w.heap.size w w' := by
  have hd0 : decide ((300 : Int) < (s.size : Int)) = false := by simp; omega
  have hd1 : decide ((p : Int) < 0) = false := by simp
  have hd2 : decide ((s.size : Int) ≤ (p : Int)) = false := by simp; omega
  have hd3 : decide ((m : Int) < (n : Int)) = false := by simp; omega
  have hd4 : decide ((B.size : Int) < 3) = false := by simp; omega
  go_enter Tryd.func17, Tryd.ntmps17
  go_wp2_with fail
  go_big_region
  generalize hW1 : (w.alloc (.cells #[.int .i64 0, .int .i64 0, .int .i64 0, .string ⟨#[]⟩] 36)).drew = w1
  have HZ1 : Hid (ZeroAt w w.heap.size w1) := by rw [← hW1]; exact (ZeroAt.start w).drew
  clear hW1
  go_wp2_with fail
  refine (HK.out _ HZ1.out.bel).mono ?_
  rintro e w2 ⟨rfl, g2⟩
  have HZ2 : Hid (ZeroAt w w.heap.size w2) := HZ1.out.below g2
  clear g2
  go_wp2_with fail
  go_big_region
  all_goals
    generalize hW3 : (w2.alloc (.cells #[.int .i64 x0, .int .i64 x1, .int .i64 x2, .string D] 36)).drew = w3
    have HZ3 : Hid (ZeroAt w w.heap.size w3) := by rw [← hW3]; exact (HZ2.out.below ((Below.refl _ _).alloc (Nat.le_refl _) _)).drew
    have HR3 : Hid (RecAt w2.heap.size x0 x1 x2 D w3) := by rw [← hW3]; exact (RecAt.start x0 x1 x2 D w2 36).drew
    clear hW3
    obtain ⟨c0, c1, c2, c3, _⟩ := HR3.out
    go_wp2_with fail
    refine (HG.out _).mono ?_
    rintro e w4 ⟨rfl, g4⟩
    have HZ4 : Hid (ZeroAt w w.heap.size w4) := HZ3.out.below g4
    have HR4 : Hid (RecAt w2.heap.size x0 x1 x2 D w4) := HR3.out.below g4
    clear g4 c0 c1 c2 c3
    obtain ⟨c0, c1, c2, c3, _⟩ := HR4.out
    obtain ⟨z0, z1, z2, z3, f0, f1, f2, f3, _, _, _⟩ := HZ4.out
    go_wp2
    refine bodyPost_ret (v := .tuple #[zrec, .int .i64 0, .bool false]) (by simp [results, Tryd.results17, go_sem, zrec, z0, z1, z2, z3]) rfl ⟨rfl, setFour HZ4.out.bel (Nat.le_refl _) _ _ _ _⟩
set_option maxHeartbeats 1000000 in
theorem ird_yes (s R T B D : ByteArray) (p n m x0 x1 x2 : Nat) (w : World) (hs : s.size ≤ 300) (hp : p < s.size) (hn : s[p].toNat = n) (hn2 : n < 256) (hR : R.size = m) (hm : m + p + 1 = s.size)
    (hcR : ∀ v, Sem.run Tryd.prog (Instr.slice 9 (.string s) (some (.int .i64 ((p : Int) + 1))) none none) v = .ok (.string R) v) (hle : n ≤ m)
    (hcT : ∀ v, Sem.run Tryd.prog (Instr.slice 9 (.string R) none (some (.int .i64 (n : Int))) none) v = .ok (.string T) v)
    (HK : Hid (∀ v, Below w.heap.size w v → Calls Tryd.prog 40 #[.string T] v fun e w' => e = .returned (.tuple #[.string B, .bool true]) ∧ Below v.heap.size v w')) (h3 : 3 ≤ B.size) (hB : B.size ≤ 300) (e0 : B[0].toNat = x0) (e1 : B[1].toNat = x1) (e2 : B[2].toNat = x2) (b0 : x0 < 256) (b1 : x1 < 256) (b2 : x2 < 256)
    (hcD : ∀ v, Sem.run Tryd.prog (Instr.slice 9 (.string B) (some (.int .i64 3)) none none) v = .ok (.string D) v) (HG : Hid (∀ v, Calls Tryd.prog 30 #[.agg #[.int .i64 x0, .int .i64 x1, .int .i64 x2, .string D]] v fun e w' => e = .returned (.bool true) ∧ Below v.heap.size v w')) :
    Calls Tryd.prog 17 #[.string s, .int .i64 p] w fun e w' => e = .returned (.tuple #[.agg #[.int .i64 x0, .int .i64 x1, .int .i64 x2, .string D], .int .i64 ((p + 1 + n : Nat) : Int), .bool true]) ∧ Below w.heap.size w w' := by
  have hd0 : decide ((300 : Int) < (s.size : Int)) = false := by simp; omega
  have hd1 : decide ((p : Int) < 0) = false := by simp
  have hd2 : decide ((s.size : Int) ≤ (p : Int)) = false := by simp; omega
  have hd3 : decide ((m : Int) < (n : Int)) = false := by simp; omega
  have hd4 : decide ((B.size : Int) < 3) = false := by simp; omega
  go_enter Tryd.func17, Tryd.ntmps17
  go_wp2_with fail
  go_big_region
  generalize hW1 : (w.alloc (.cells #[.int .i64 0, .int .i64 0, .int .i64 0, .string ⟨#[]⟩] 36)).drew = w1
  have HZ1 : Hid (ZeroAt w w.heap.size w1) := by rw [← hW1]; exact (ZeroAt.start w).drew
  clear hW1
  go_wp2_with fail
  refine (HK.out _ HZ1.out.bel).mono ?_
  rintro e w2 ⟨rfl, g2⟩
  have HZ2 : Hid (ZeroAt w w.heap.size w2) := HZ1.out.below g2
  clear g2
  go_wp2_with fail
  go_big_region
  all_goals
    generalize hW3 : (w2.alloc (.cells #[.int .i64 x0, .int .i64 x1, .int .i64 x2, .string D] 36)).drew = w3
    have HZ3 : Hid (ZeroAt w w.heap.size w3) := by rw [← hW3]; exact (HZ2.out.below ((Below.refl _ _).alloc (Nat.le_refl _) _)).drew
    have HR3 : Hid (RecAt w2.heap.size x0 x1 x2 D w3) := by rw [← hW3]; exact (RecAt.start x0 x1 x2 D w2 36).drew
    clear hW3
    obtain ⟨c0, c1, c2, c3, _⟩ := HR3.out
    go_wp2_with fail
    refine (HG.out _).mono ?_
    rintro e w4 ⟨rfl, g4⟩
    have HZ4 : Hid (ZeroAt w w.heap.size w4) := HZ3.out.below g4
    have HR4 : Hid (RecAt w2.heap.size x0 x1 x2 D w4) := HR3.out.below g4
    clear g4 c0 c1 c2 c3
    obtain ⟨c0, c1, c2, c3, _⟩ := HR4.out
    obtain ⟨z0, z1, z2, z3, f0, f1, f2, f3, _, _, _⟩ := HZ4.out
    go_wp2
    refine bodyPost_ret (v := .tuple #[.agg #[.int .i64 x0, .int .i64 x1, .int .i64 x2, .string D], .int .i64 ((p + 1 + n : Nat) : Int), .bool true]) (by simp [results, Tryd.results17, go_sem, z0, z1, z2, z3]) rfl ⟨rfl, setFour HZ4.out.bel (Nat.le_refl _) _ _ _ _⟩
end Go.Proofs.YthoeffbefmhkjaaDoor
