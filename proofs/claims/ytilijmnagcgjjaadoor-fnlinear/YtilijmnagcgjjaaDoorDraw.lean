/- Walks of what is drawn for the law on sums. -/
import Derived.Test.YtilijmnagcgjjaaDoorText
namespace Go.Proofs.YtilijmnagcgjjaaDoor
set_option maxRecDepth 100000
open Go.ChangeShapes Go.WideShapes Go.ChangeAt Go.RowKit
set_option maxHeartbeats 1000000 in
theorem drawSumOf_any (len cap : Nat) (a : Option Addr) (w : World) (hK : Code w.heap.size len cap a w) :
    Calls Tryd.prog 13 #[.slice a len cap] w fun e w' => ∃ s : ByteArray, s.size ≤ 401 ∧ e = .returned (.string s) ∧ Below w.heap.size w w' := by
  have HK : Hid (Code w.heap.size len cap a w) := hK
  clear hK
  go_enter Tryd.func13, Tryd.ntmps13
  go_wp2_with fail
  refine (text_any w.heap.size 0 len cap a _ (by omega) (Cur.start _ 41 w) (HK.out.start _)).mono ?_
  rintro e w1 ⟨s, hs, rfl, hC, hB⟩
  have HB : Hid (Below w.heap.size w w1) := hB.done
  clear hC hB
  go_wp2
  go_ret
  exact ⟨s, hs, rfl, HB.out⟩
set_option maxHeartbeats 1000000 in
theorem drawSumOn_any (len cap : Nat) (a : Option Addr) (w : World) (hK : Code w.heap.size len cap a w) :
    Calls Tryd.prog 11 #[.slice a len cap] w fun e w' => ∃ (n : Int) (s : ByteArray), s.size ≤ 401 ∧ e = .returned (.tuple #[.int .i64 n, .string s]) ∧ Below w.heap.size w w' := by
  have HK : Hid (Code w.heap.size len cap a w) := hK
  clear hK
  go_enter Tryd.func11, Tryd.ntmps11
  go_wp2_with fail
  refine (among_any [-1, 0, 1, 4096, 65535, 65536] 6 (w.heap.size + 1) w.heap.size 0 len cap 6 a _ rfl (by decide) (by decide) (by simp) (by omega) (fun i hi => ?_) (by omega) ((Cur.start _ 41 w).alloc _) ((HK.out.start _).but ((But.refl w.heap.size _).alloc _) (Nat.le_refl _) (by simp))).mono ?_
  · have := lits_at [-1, 0, 1, 4096, 65535, 65536] (w.alloc (.cells #[.slice a len cap, .int .i64 0, .int .u64 0] 41)) i hi
    simpa using this
  rintro e w1 ⟨i, hi, rfl, hC1, hB1⟩
  generalize ([-1, 0, 1, 4096, 65535, 65536] : List Int).getD i 0 = n at *
  have HC1 : Hid (Cur w.heap.size 2 (.slice a len cap) w1) := hC1
  have HB1 : Hid (But w.heap.size (w.alloc (.cells #[.slice a len cap, .int .i64 0, .int .u64 0] 41)) w1) := ((But.refl w.heap.size _).alloc _).trans hB1
  clear hC1 hB1 hi
  go_wp2_with fail
  refine (text_any w.heap.size 2 len cap a _ (by omega) HC1.out ((HK.out.start _).but HB1.out (Nat.le_refl _) (by simp))).mono ?_
  rintro e w2 ⟨s, hs, rfl, hC, hB⟩
  have HB : Hid (Below w.heap.size w w2) := (HB1.out.trans hB).done
  clear hC hB
  go_wp2
  go_ret2
  exact ⟨n, s, hs, rfl, HB.out⟩
set_option maxHeartbeats 1000000 in
theorem drawSumZeros_any (len cap : Nat) (a : Option Addr) (w : World) (hK : Code w.heap.size len cap a w) :
    Calls Tryd.prog 15 #[.slice a len cap] w fun e w' => ∃ n m : Int, e = .returned (.tuple #[.int .i64 n, .int .i64 m]) ∧ Below w.heap.size w w' := by
  have HK : Hid (Code w.heap.size len cap a w) := hK
  clear hK
  go_enter Tryd.func15, Tryd.ntmps15
  go_wp2_with fail
  refine (among_any [-1, 0, 1, 4096, 65535, 65536] 6 (w.heap.size + 1) w.heap.size 0 len cap 6 a _ rfl (by decide) (by decide) (by simp) (by omega) (fun i hi => ?_) (by omega) ((Cur.start _ 41 w).alloc _) ((HK.out.start _).but ((But.refl w.heap.size _).alloc _) (Nat.le_refl _) (by simp))).mono ?_
  · have := lits_at [-1, 0, 1, 4096, 65535, 65536] (w.alloc (.cells #[.slice a len cap, .int .i64 0, .int .u64 0] 41)) i hi
    simpa using this
  rintro e w1 ⟨i, hi, rfl, hC1, hB1⟩
  generalize ([-1, 0, 1, 4096, 65535, 65536] : List Int).getD i 0 = n at *
  have HC1 : Hid (Cur w.heap.size 2 (.slice a len cap) w1) := hC1
  have HB1 : Hid (But w.heap.size (w.alloc (.cells #[.slice a len cap, .int .i64 0, .int .u64 0] 41)) w1) := ((But.refl w.heap.size _).alloc _).trans hB1
  have hlt1 := hC1.lt
  clear hC1 hB1 hi
  go_wp2_with fail
  refine (among_any [-1, 0, 1, 2, 400, 401] 6 w1.heap.size w.heap.size 2 len cap 6 a _ rfl (by decide) (by decide) (by simp) (by omega) (fun i hi => lits_at [-1, 0, 1, 2, 400, 401] w1 i hi) (by omega) (HC1.out.alloc _) (((HK.out.start _).but HB1.out (Nat.le_refl _) (by simp)).but ((But.refl w.heap.size _).alloc _) (Nat.le_refl _) (by omega))).mono ?_
  rintro e w2 ⟨i, hi, rfl, hC, hB⟩
  generalize ([-1, 0, 1, 2, 400, 401] : List Int).getD i 0 = m at *
  have HB : Hid (Below w.heap.size w w2) := ((HB1.out.alloc _).trans hB).done
  clear hC hB hi
  go_wp2
  go_ret2
  exact ⟨n, m, rfl, HB.out⟩
end Go.Proofs.YtilijmnagcgjjaaDoor
