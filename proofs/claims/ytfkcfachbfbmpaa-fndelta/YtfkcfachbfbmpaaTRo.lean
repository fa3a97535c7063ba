/- Sums of texts: both sides' walks. -/
import Derived.Test.YtfkcfachbfbmpaaTPl
import Derived.Test.YtfkcfachbfbmpaaPSz
import Derived.Test.YtfkcfachbfbmpaaBut
import Derived.Test.YtfkcfachbfbmpaaIn
namespace Go.Proofs.Ytfkcfachbfbmpaa
set_option maxRecDepth 100000
open Go Go.ChangeShapes Go.WideShapes Go.ChangeAt Go.RowKit
set_option maxHeartbeats 400000 in
theorem long_any (s : ByteArray) (w : World) : Calls Try.prog 37 #[.string s] w fun e w' => e = .returned (.bool (decide (s.size ≤ 120))) ∧ w' = w := by
  by_cases h : s.size ≤ 120
  · have hd : decide ((s.size : Int) ≤ 120) = true := decide_eq_true (by omega)
    rw [decide_eq_true h]
    go_enter Try.func37, Try.ntmps37
    go_wp2
    go_ret
    exact ⟨rfl, rfl⟩
  · have hd : decide ((s.size : Int) ≤ 120) = false := decide_eq_false (by omega)
    rw [decide_eq_false h]
    go_enter Try.func37, Try.ntmps37
    go_wp2
    go_ret
    exact ⟨rfl, rfl⟩
set_option maxHeartbeats 400000 in
theorem isText_any (s : ByteArray) (w : World) : Calls Try.prog 32 #[.string s] w fun e w' => e = .returned (.bool (decide (s.size ≤ 120))) ∧ w' = w := by
  by_cases h : s.size ≤ 120
  · have hd : decide ((s.size : Int) ≤ 120) = true := decide_eq_true (by omega)
    rw [decide_eq_true h]
    go_enter Try.func32, Try.ntmps32
    go_wp2
    go_ret
    exact ⟨rfl, rfl⟩
  · have hd : decide ((s.size : Int) ≤ 120) = false := decide_eq_false (by omega)
    rw [decide_eq_false h]
    go_enter Try.func32, Try.ntmps32
    go_wp2
    go_ret
    exact ⟨rfl, rfl⟩
theorem ret_in {k : IntKind} {a b : Int} (h : a = b) : Ending.returned (.int k a) = .returned (.int k b) := by rw [h]
set_option maxHeartbeats 1000000 in
theorem sroll_any (s : ByteArray) (w : World) (hs : s.size ≤ 120) : Calls Try.prog 46 #[.string s] w fun e w' => e = .returned (.int .i64 (rollT s : Nat)) ∧ w' = w := by
  have HA : Hid (sumA (byN s) ≤ 30600) := Nat.le_trans (sumA_le _ (byN_lt s)) (by rw [byN_len]; omega)
  have HB : Hid (sumB (byN s) ≤ 3672000) := Nat.le_trans (sumB_le _ (byN_lt s)) (by
    rw [byN_len]
    have := Nat.mul_le_mul hs hs
    omega)
  have HR : Hid (rollT s = 256 * (sumB (byN s) % 251) + sumA (byN s) % 251) := rfl
  generalize rollT s = r at *
  go_enter Try.func46, Try.ntmps46
  go_wp2
  go_loop [3, 4, 5] (fun a b i => ∃ k x y : Nat, k ≤ s.size ∧ i = .int .i64 k ∧ a = .int .i64 x ∧ b = .int .i64 y ∧ x + sumA ((byN s).drop k) = sumA (byN s) ∧ y + sumB ((byN s).drop k) = sumB (byN s)) (fun _ _ i => s.size - (intOf i).toNat)
  case atStart => exact ⟨0, 0, 0, Nat.zero_le _, rfl, rfl, rfl, by simp, by simp⟩
  case round =>
    obtain ⟨k, x, y, hk, rfl, rfl, rfl, hx, hy⟩ := hrel
    by_cases hlt : k < s.size
    · have hd := byN_drop s k hlt
      have hl : ((byN s).drop (k + 1)).length + 1 = s.size - k := by rw [List.length_drop, byN_len]; omega
      rw [hd] at hx hy
      simp only [sumA, sumB] at hx hy
      rw [hl] at hy
      have hp : ((s.size : Int) - (k : Int)) * (s[k].toNat : Int) = ((s.size - k) * s[k].toNat : Nat) := by
        rw [Int.natCast_mul, Int.natCast_sub (by omega)]
      have hxs := HA.out
      have hys := HB.out
      generalize (s.size - k) * s[k].toNat = p at *
      generalize hz : s[k].toNat = z at *
      have HZ := hid hz
      have hzl : z ≤ 30600 := by omega
      have hpl : p ≤ 3672000 := by omega
      have hxl : x ≤ 30600 := by omega
      have hyl : y ≤ 3672000 := by omega
      have HX := hid hx
      have HY := hid hy
      clear hx hy hd hl hxs hys
      go_wp2
      go_round
      case rel => exact ⟨k + 1, x + z, y + p, by omega, by go_num, by go_num, by go_num, by have := HX.out; omega, by have := HY.out; omega⟩
      case measure => simp [intOf]; omega
    · obtain rfl : k = s.size := by omega
      rw [List.drop_of_length_le (by rw [byN_len]; omega)] at hx hy
      simp only [sumA, sumB, Nat.add_zero] at hx hy
      have HX := hid hx
      have HY := hid hy
      have hxs := HA.out
      have hys := HB.out
      have hxl : x ≤ 30600 := by omega
      have hyl : y ≤ 3672000 := by omega
      clear hx hy hxs hys
      go_wp2
      go_ret
      refine ⟨ret_in ?_, rfl⟩
      rw [HR.out, ← HX.out, ← HY.out]
      go_num
end Go.Proofs.Ytfkcfachbfbmpaa
