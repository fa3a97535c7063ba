/- The model's l3Read: a record that is there. -/
import Derived.Test.YthoeffbefmhkjaaDoorSReadR
namespace Go.Proofs.YthoeffbefmhkjaaDoor
set_option maxRecDepth 100000
open Go.ChangeShapes Go.WideShapes Go.ChangeAt Go.RowKit G00541
set_option maxHeartbeats 2000000 in
theorem l3read_yes (s T D : ByteArray) (p n x0 x1 x2 : Nat) (w : World) (hs : s.size ≤ 300) (hp : p < s.size) (hn : s[p].toNat = n) (hn2 : n < 256) (h5 : 5 ≤ n) (hle : n ≤ s.size - p - 1)
    (hT : T.size = n) (e0 : T[0].toNat = x0) (e1 : T[1].toNat = x1) (e2 : T[2].toNat = x2) (b0 : x0 < 256) (b1 : x1 < 256) (b2 : x2 < 256)
    (hc1 : ∀ v, Sem.run Tryd.prog (Instr.slice 9 (.string s) (some (.int .i64 ((p : Int) + 1))) (some (.int .i64 ((p : Int) + 1 + (n : Int)))) none) v = .ok (.string T) v)
    (hc2 : ∀ v, Sem.run Tryd.prog (Instr.slice 9 (.string T) (some (.int .i64 3)) (some (.int .i64 ((n : Int) - 2))) none) v = .ok (.string D) v)
    (X : ByteArray) (hc3 : ∀ v, Sem.run Tryd.prog (Instr.slice 9 (.string s) (some (.int .i64 (p : Int))) (some (.int .i64 ((p : Int) + 1 + (n : Int)))) none) v = .ok (.string X) v)
    (HG : Hid (∀ v, Calls Tryd.prog 49 #[.agg #[.int .i64 x0, .int .i64 x1, .int .i64 x2, .string D]] v fun e w' => e = .returned (.bool true) ∧ Below v.heap.size v w'))
    (HY : Hid (∀ v, Calls Tryd.prog 50 #[.agg #[.int .i64 x0, .int .i64 x1, .int .i64 x2, .string D]] v fun e w' => e = .returned (.string X) ∧ Below v.heap.size v w')) :
    Calls Tryd.prog 41 #[.string s, .int .i64 p] w fun e w' => e = .returned (.tuple #[.agg #[.int .i64 x0, .int .i64 x1, .int .i64 x2, .string D], .int .i64 ((p + 1 + n : Nat) : Int)]) ∧ Below w.heap.size w w' := by
  have hd : decide ((s.size : Int) ≤ (p : Int)) = false := by simp; omega
  have hd5 : decide ((n : Int) < 5) = false := by simp; omega
  have hd6 : decide ((s.size : Int) - (p : Int) - 1 < (n : Int)) = false := by simp; omega
  go_enter Tryd.func41, Tryd.ntmps41
  go_wp2_with fail
  go_big_region
  generalize hW1 : ((w.alloc (.cells #[.int .i64 0, .int .i64 0, .int .i64 0, .string ⟨#[]⟩] 36)).alloc (.cells #[.int .i64 x0, .int .i64 x1, .int .i64 x2, .string D] 36)).drew = w1
  have HZ1 : Hid (ZeroAt w w.heap.size w1) := by rw [← hW1]; exact ((ZeroAt.start w).below ((Below.refl _ _).alloc (Nat.le_refl _) _)).drew
  have HR1 : Hid (RecAt (w.heap.size + 1) x0 x1 x2 D w1) := by rw [← hW1]; exact (by have := (RecAt.start x0 x1 x2 D (w.alloc (.cells #[.int .i64 0, .int .i64 0, .int .i64 0, .string ⟨#[]⟩] 36)) 36).drew; rw [heap_size] at this; exact this)
  clear hW1
  obtain ⟨c0, c1, c2, c3, _⟩ := HR1.out
  have hw1 : IntKind.i64.wrap ((p : Int) + 1) = (p : Int) + 1 := by simp [IntKind.wrap, IntKind.bits, IntKind.signed]; omega
  have hw2 : IntKind.i64.wrap ((p : Int) + 1 + (n : Int)) = (p : Int) + 1 + (n : Int) := by simp [IntKind.wrap, IntKind.bits, IntKind.signed]; omega
  go_wp2_with fail
  first | go_region_held (fun v => v.cell? ⟨w.heap.size + 1, 0, none⟩ = some (.int .i64 x0) ∧ v.cell? ⟨w.heap.size + 1, 1, none⟩ = some (.int .i64 x1) ∧ v.cell? ⟨w.heap.size + 1, 2, none⟩ = some (.int .i64 x2) ∧ v.cell? ⟨w.heap.size + 1, 3, none⟩ = some (.string D)) (go_keep) (first | (go_at_call 49; refine (HG.out _).mono ?_; rintro e w2 ⟨rfl, g2⟩; obtain ⟨d0, d1, d2, d3, _⟩ := HR1.out.drew.below g2) | (go_at_call 50; refine (HY.out _).mono ?_; rintro e w3 ⟨rfl, g3⟩; obtain ⟨a0, a1, a2, a3, _⟩ := (HR1.out.drew.below g2).below g3)) | fail
  all_goals
    have HZ2 : Hid (ZeroAt w w.heap.size w3) := (HZ1.out.drew.below g2).below g3
    have HR2 : Hid (RecAt (w.heap.size + 1) x0 x1 x2 D w3) := (HR1.out.drew.below g2).below g3
    clear g2 g3
    obtain ⟨z0, z1, z2, z3, f0, f1, f2, f3, _, _, _⟩ := HZ2.out
    obtain ⟨a0, a1, a2, a3, _⟩ := HR2.out
    go_wp2
    refine bodyPost_ret (v := .tuple #[.agg #[.int .i64 x0, .int .i64 x1, .int .i64 x2, .string D], .int .i64 ((p + 1 + n : Nat) : Int)]) (by simp [results, Tryd.results41, go_sem, z0, z1, z2, z3]) rfl ⟨rfl, setFour HZ2.out.bel (Nat.le_refl _) _ _ _ _⟩
end Go.Proofs.YthoeffbefmhkjaaDoor
