/- The exact law of TornSegment: its walk. -/
import Derived.Test.YthoeffbefmhkjaaDoorAllI
import Derived.Test.YthoeffbefmhkjaaDoorIJoin
import Derived.Test.YthoeffbefmhkjaaDoorQA
namespace Go.Proofs.YthoeffbefmhkjaaDoor
set_option maxRecDepth 100000
open Go.ChangeShapes Go.WideShapes Go.ChangeAt Go.RowKit G00541
set_option maxHeartbeats 400000 in
theorem storn_off (s : ByteArray) (k : Int) (w : World) (h : 300 < s.size ∨ k < 0 ∨ (s.size : Int) < k) :
    Calls Tryd.prog 15 #[.string s, .int .i64 k] w fun e w' => e = .returned (.tuple #[.string ⟨#[]⟩, .bool false]) ∧ Below w.heap.size w w' := by
  by_cases h0 : 300 < s.size
  · have hd0 : decide ((300 : Int) < (s.size : Int)) = true := by simp; omega
    go_enter Tryd.func15, Tryd.ntmps15
    go_wp2
    go_ret2
    exact ⟨rfl, Below.refl _ _⟩
  · have hd0 : decide ((300 : Int) < (s.size : Int)) = false := by simp; omega
    have h1 : k < 0 ∨ (s.size : Int) < k := by omega
    go_enter Tryd.func15, Tryd.ntmps15
    go_wp2_with fail
    refine (l1In_no _ _ _ _ h1).mono ?_
    rintro e w1 ⟨rfl, rfl⟩
    go_wp2
    go_ret2
    exact ⟨rfl, Below.refl _ _⟩
set_option maxHeartbeats 400000 in
theorem itorn_off (s : ByteArray) (k : Int) (w : World) (h : 300 < s.size ∨ k < 0 ∨ (s.size : Int) < k) :
    Calls Tryd.prog 9 #[.string s, .int .i64 k] w fun e w' => e = .returned (.tuple #[.string ⟨#[]⟩, .bool false]) ∧ Below w.heap.size w w' := by
  by_cases h0 : 300 < s.size
  · have hd0 : decide ((300 : Int) < (s.size : Int)) = true := by simp; omega
    go_enter Tryd.func9, Tryd.ntmps9
    go_wp2
    go_ret2
    exact ⟨rfl, Below.refl _ _⟩
  · have hd0 : decide ((300 : Int) < (s.size : Int)) = false := by simp; omega
    by_cases h1 : k < 0
    · have hd1 : decide (k < 0) = true := by simpa using h1
      go_enter Tryd.func9, Tryd.ntmps9
      go_wp2
      go_ret2
      exact ⟨rfl, Below.refl _ _⟩
    · have hd1 : decide (k < 0) = false := by simpa using h1
      have hd2 : decide ((s.size : Int) < k) = true := by simp; omega
      go_enter Tryd.func9, Tryd.ntmps9
      go_wp2
      go_ret2
      exact ⟨rfl, Below.refl _ _⟩
set_option maxHeartbeats 1000000 in
theorem storn_any (s T X : ByteArray) (k : Nat) (w : World) (hs : s.size ≤ 300) (hk : k ≤ s.size) (A : List Rc × Nat)
    (hc1 : ∀ v, Sem.run Tryd.prog (Instr.slice 9 (.string s) none (some (.int .i64 (k : Int))) none) v = .ok (.string T) v)
    (hc2 : ∀ v, Sem.run Tryd.prog (Instr.slice 9 (.string s) none (some (.int .i64 (A.2 : Int))) none) v = .ok (.string X) v)
    (HC : Hid (∀ v, Calls Tryd.prog 37 #[.string T] v fun e w' => ∃ x, e = .returned (.tuple #[x, .int .i64 (A.2 : Int)]) ∧ w'.ownsRow v.heap.size 36 4 x A.1.length (rflat A.1) ∧ Below v.heap.size v w')) :
    Calls Tryd.prog 15 #[.string s, .int .i64 k] w fun e w' => e = .returned (.tuple #[.string X, .bool true]) ∧ Below w.heap.size w w' := by
  have hd0 : decide ((300 : Int) < (s.size : Int)) = false := by simp; omega
  go_enter Tryd.func15, Tryd.ntmps15
  go_wp2_with fail
  refine (l1In_yes _ _ _ _ (by omega) (by omega)).mono ?_
  rintro e w1 ⟨rfl, rfl⟩
  go_wp2_with fail
  refine (HC.out _).mono ?_
  rintro e w2 ⟨x, rfl, hown, b2⟩
  have HB : Hid (Below w1.heap.size w1 w2) := b2
  clear hown b2
  go_wp2
  go_ret2
  exact ⟨rfl, HB.out⟩
set_option maxHeartbeats 1000000 in
theorem itorn_any (s T X : ByteArray) (k : Nat) (w : World) (hs : s.size ≤ 300) (hk : k ≤ s.size) (A : List Rc × Nat)
    (hc1 : ∀ v, Sem.run Tryd.prog (Instr.slice 9 (.string s) none (some (.int .i64 (k : Int))) none) v = .ok (.string T) v)
    (hc2 : ∀ v, Sem.run Tryd.prog (Instr.slice 9 (.string s) none (some (.int .i64 (A.2 : Int))) none) v = .ok (.string X) v)
    (HC : Hid (Calls Tryd.prog 8 #[.string T] w fun e w' => ∃ x, e = .returned (.tuple #[x, .int .i64 (A.2 : Int), .bool true]) ∧ w'.ownsRow w.heap.size 36 4 x A.1.length (rflat A.1) ∧ Below w.heap.size w w'))
    (HJ : Hid (∀ v, Calls Tryd.prog 35 #[.string X, .string ⟨#[]⟩] v fun e w' => e = .returned (.string X) ∧ Below v.heap.size v w')) :
    Calls Tryd.prog 9 #[.string s, .int .i64 k] w fun e w' => e = .returned (.tuple #[.string X, .bool true]) ∧ Below w.heap.size w w' := by
  have hd0 : decide ((300 : Int) < (s.size : Int)) = false := by simp; omega
  have hd1 : decide ((k : Int) < 0) = false := by simp
  have hd2 : decide ((s.size : Int) < (k : Int)) = false := by simp; omega
  go_enter Tryd.func9, Tryd.ntmps9
  go_wp2_with fail
  refine (HC.out).mono ?_
  rintro e w2 ⟨x, rfl, hown, b2⟩
  have HB : Hid (Below w.heap.size w w2) := b2
  clear hown b2
  go_wp2_with fail
  refine (HJ.out _).mono ?_
  rintro e w3 ⟨rfl, b3⟩
  have HB3 : Hid (Below w.heap.size w w3) := HB.out.trans (b3.mono HB.out.size)
  clear b3
  go_wp2
  go_ret2
  exact ⟨rfl, HB3.out⟩
end Go.Proofs.YthoeffbefmhkjaaDoor
