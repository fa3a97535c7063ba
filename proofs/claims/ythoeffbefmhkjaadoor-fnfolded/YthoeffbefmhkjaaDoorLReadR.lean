/- The exact law of ReadRecord: its walk. -/
import Derived.Test.YthoeffbefmhkjaaDoorReadR
import Derived.Test.YthoeffbefmhkjaaDoorERec
namespace Go.Proofs.YthoeffbefmhkjaaDoor
set_option maxRecDepth 100000
open Go.ChangeShapes Go.WideShapes Go.ChangeAt Go.RowKit G00541
set_option maxHeartbeats 400000 in
theorem sread_off (s : ByteArray) (p : Int) (w : World) (h : 300 < s.size ∨ p < 0) :
    Calls Tryd.prog 18 #[.string s, .int .i64 p] w fun e w' => e = .returned (.tuple #[zrec, .int .i64 0, .bool false]) ∧ Below w.heap.size w w' := by
  by_cases h0 : 300 < s.size
  · have hd0 : decide ((300 : Int) < (s.size : Int)) = true := by simp; omega
    go_enter Tryd.func18, Tryd.ntmps18
    go_wp2
    refine bodyPost_ret (v := .tuple #[zrec, .int .i64 0, .bool false]) (by simp [results, Tryd.results18, go_sem, zrec]) rfl ⟨rfl, (Below.refl _ _).alloc (Nat.le_refl _) _⟩
  · have hd0 : decide ((300 : Int) < (s.size : Int)) = false := by simp; omega
    have hd1 : decide (p < 0) = true := by simp; omega
    go_enter Tryd.func18, Tryd.ntmps18
    go_wp2
    refine bodyPost_ret (v := .tuple #[zrec, .int .i64 0, .bool false]) (by simp [results, Tryd.results18, go_sem, zrec]) rfl ⟨rfl, (Below.refl _ _).alloc (Nat.le_refl _) _⟩
set_option maxHeartbeats 1000000 in
theorem sread_none (s : ByteArray) (p : Nat) (w : World) (hs : s.size ≤ 300) (h : readR s.data.toList p = none) :
    Calls Tryd.prog 18 #[.string s, .int .i64 p] w fun e w' => e = .returned (.tuple #[zrec, .int .i64 0, .bool false]) ∧ Below w.heap.size w w' := by
  have hd0 : decide ((300 : Int) < (s.size : Int)) = false := by simp; omega
  have hd1 : decide ((p : Int) < 0) = false := by simp
  have HC : Hid (∀ v, Calls Tryd.prog 41 #[.string s, .int .i64 p] v fun e w' => e = .returned (.tuple #[.agg #[.int .i64 0, .int .i64 0, .int .i64 0, .string ⟨#[]⟩], .int .i64 (-1)]) ∧ Below v.heap.size v w') := fun v => sl3_none s p v hs h
  have HZ0 : Hid (ZeroAt w w.heap.size (w.alloc (.cells #[.int .i64 0, .int .i64 0, .int .i64 0, .string ⟨#[]⟩] 36))) := ZeroAt.start w
  clear h
  go_enter Tryd.func18, Tryd.ntmps18
  go_wp2_with fail
  refine (HC.out _).mono ?_
  rintro e w1 ⟨rfl, g1⟩
  have HZ1 : Hid (ZeroAt w w.heap.size w1) := HZ0.out.below g1
  obtain ⟨z0, z1, z2, z3, f0, f1, f2, f3, _, _, hlt⟩ := HZ1.out
  clear g1 HZ0
  go_wp2
  refine bodyPost_ret (v := .tuple #[zrec, .int .i64 0, .bool false]) (by simp [results, Tryd.results18, go_sem, zrec, z0, z1, z2, z3, hlt]) rfl ⟨rfl, ?_⟩
  first | exact setFour (HZ1.out.bel.alloc HZ1.out.bel.size _) (Nat.le_refl _) _ _ _ _ | exact (setFour HZ1.out.bel (Nat.le_refl _) _ _ _ _).alloc (setFour HZ1.out.bel (Nat.le_refl _) _ _ _ _).size _
set_option maxHeartbeats 1000000 in
theorem sread_some (s : ByteArray) (p : Nat) (w : World) (hs : s.size ≤ 300) (k q n : Int) (D : ByteArray) (e : Nat)
    (HC : Hid (∀ v, Calls Tryd.prog 41 #[.string s, .int .i64 p] v fun x w' => x = .returned (.tuple #[.agg #[.int .i64 k, .int .i64 q, .int .i64 n, .string D], .int .i64 (e : Int)]) ∧ Below v.heap.size v w')) :
    Calls Tryd.prog 18 #[.string s, .int .i64 p] w fun x w' => x = .returned (.tuple #[.agg #[.int .i64 k, .int .i64 q, .int .i64 n, .string D], .int .i64 (e : Int), .bool true]) ∧ Below w.heap.size w w' := by
  have hd0 : decide ((300 : Int) < (s.size : Int)) = false := by simp; omega
  have hd1 : decide ((p : Int) < 0) = false := by simp
  have hd2 : decide ((e : Int) < 0) = false := by simp
  have HZ0 : Hid (ZeroAt w w.heap.size (w.alloc (.cells #[.int .i64 0, .int .i64 0, .int .i64 0, .string ⟨#[]⟩] 36))) := ZeroAt.start w
  go_enter Tryd.func18, Tryd.ntmps18
  go_wp2_with fail
  refine (HC.out _).mono ?_
  rintro x w1 ⟨rfl, g1⟩
  have HZ1 : Hid (ZeroAt w w.heap.size w1) := HZ0.out.below g1
  obtain ⟨z0, z1, z2, z3, f0, f1, f2, f3, _, _, hlt⟩ := HZ1.out
  clear g1 HZ0
  go_wp2
  refine bodyPost_ret (v := .tuple #[.agg #[.int .i64 k, .int .i64 q, .int .i64 n, .string D], .int .i64 (e : Int), .bool true]) (by simp [results, Tryd.results18, go_sem, z0, z1, z2, z3, hlt]) rfl ⟨rfl, ?_⟩
  first | exact setFour (HZ1.out.bel.alloc HZ1.out.bel.size _) (Nat.le_refl _) _ _ _ _ | exact (setFour HZ1.out.bel (Nat.le_refl _) _ _ _ _).alloc (setFour HZ1.out.bel (Nat.le_refl _) _ _ _ _).size _
end Go.Proofs.YthoeffbefmhkjaaDoor
