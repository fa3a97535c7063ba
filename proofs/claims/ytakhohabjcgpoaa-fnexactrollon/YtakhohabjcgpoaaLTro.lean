/- The exact laws of RollOf and RollOn: their walks. -/
import Derived.Test.YtakhohabjcgpoaaTRm
namespace Go.Proofs.Ytakhohabjcgpoaa
set_option maxRecDepth 100000
open Go Go.ChangeShapes Go.WideShapes Go.ChangeAt Go.RowKit
set_option maxHeartbeats 1000000 in
theorem walk_RollOf (s : ByteArray) (w : World) (hs : s.size ≤ 9223372036854775807) :
    Calls Try.prog 3 #[.string s] w fun e w' => e = .returned (.bool true) ∧ Below w.heap.size w w' := by
  have H1 := hid (sRollOf_any s)
  have H2 := hid (iRollOf_any s)
  by_cases h : s.size ≤ 1048576
  · have hd : decide ((1048576 : Int) < (s.size : Int)) = false := decide_eq_false (by omega)
    have hb : ∀ b : Bool, (b != b) = false := fun b => by cases b <;> rfl
    have hb1 := hb (decide (s.size ≤ 120))
    clear hb
    generalize decide (s.size ≤ 120) = ok at *
    generalize rollV s = r at *
    go_enter Try.func3, Try.ntmps3
    go_wp2_with fail
    refine (H1.out _).mono ?_
    rintro e w1 ⟨rfl, hw1⟩
    rw [hw1]
    clear hw1
    go_wp2_with fail
    refine (H2.out _).mono ?_
    rintro e w2 ⟨rfl, b2⟩
    have HB2 := hid b2
    clear b2
    go_wp2_with fail
    go_ret
    exact ⟨rfl, HB2.out⟩
  · have hd : decide ((1048576 : Int) < (s.size : Int)) = true := decide_eq_true (by omega)
    go_enter Try.func3, Try.ntmps3
    go_wp2_with fail
    go_ret
    exact ⟨rfl, Below.refl _ _⟩
set_option maxHeartbeats 1000000 in
theorem walk_RollOn (s x y n : Int) (w : World) (hs : fit s) (hx : ∃ k : Nat, x = (k : Int) ∧ k < 256) (hy : ∃ k : Nat, y = (k : Int) ∧ k < 256) (_hn : fit n) :
    Calls Try.prog 4 #[.int .i64 s, .int .u8 x, .int .u8 y, .int .i64 n] w fun e w' => e = .returned (.bool true) ∧ Below w.heap.size w w' := by
  obtain ⟨x, rfl, hx⟩ := hx
  obtain ⟨y, rfl, hy⟩ := hy
  have H1 := hid (fun v => sRollOn_any s x y n v hs hx hy)
  have H2 := hid (fun v => iRollOn_any s x y n v hs hx hy)
  have hb : ∀ b : Bool, (b != b) = false := fun b => by cases b <;> rfl
  have hb1 := hb (onOk s n)
  clear hb
  generalize onOk s n = ok at *
  generalize onV s x y n = r at *
  go_enter Try.func4, Try.ntmps4
  go_wp2_with fail
  refine (H1.out _).mono ?_
  rintro e w1 ⟨rfl, hw1⟩
  rw [hw1]
  clear hw1
  go_wp2_with fail
  refine (H2.out _).mono ?_
  rintro e w2 ⟨rfl, b2⟩
  have HB2 := hid b2
  clear b2
  go_wp2_with fail
  go_ret
  exact ⟨rfl, HB2.out⟩
end Go.Proofs.Ytakhohabjcgpoaa
