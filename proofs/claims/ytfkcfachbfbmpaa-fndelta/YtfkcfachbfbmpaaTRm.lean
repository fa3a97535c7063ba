/- RollOn of both sides. -/
import Derived.Test.YtfkcfachbfbmpaaTRn
namespace Go.Proofs.Ytfkcfachbfbmpaa
set_option maxRecDepth 100000
open Go Go.ChangeShapes Go.WideShapes Go.ChangeAt Go.RowKit
/-- whether a sum can go on -/
def onOk (sum long : Int) : Bool := decide (0 ≤ sum ∧ sum % 256 ≤ 250 ∧ sum / 256 ≤ 250 ∧ 1 ≤ long ∧ long ≤ 120)
def onV (sum : Int) (x y : Nat) (long : Int) : Nat := cond (onOk sum long) (onN sum.toNat x y long.toNat) 0
theorem on_no {sum long : Int} (x y : Nat) (h : ¬ (0 ≤ sum ∧ sum % 256 ≤ 250 ∧ sum / 256 ≤ 250 ∧ 1 ≤ long ∧ long ≤ 120)) : onOk sum long = false ∧ onV sum x y long = 0 := by
  have : onOk sum long = false := decide_eq_false h
  exact ⟨this, by unfold onV; rw [this]; rfl⟩
theorem on_yes {s n : Nat} (x y : Nat) (h1 : s % 256 ≤ 250) (h2 : s / 256 ≤ 250) (h3 : 1 ≤ n) (h4 : n ≤ 120) : onOk s n = true ∧ onV s x y n = 256 * onB (s % 256) (s / 256) x y n + onA (s % 256) x y := by
  have : onOk s n = true := decide_eq_true (by omega)
  exact ⟨this, by unfold onV; rw [this, Int.toNat_natCast, Int.toNat_natCast]; rfl⟩
set_option maxHeartbeats 1000000 in
theorem sRollOn_yes (s x y n : Nat) (w : World) (hx : x < 256) (hy : y < 256) (h1 : s % 256 ≤ 250) (h2 : s / 256 ≤ 250) (h3 : 1 ≤ n) (h4 : n ≤ 120) :
    Calls Try.prog 29 #[.int .i64 s, .int .u8 x, .int .u8 y, .int .i64 n] w fun e w' => e = .returned (.tuple #[.int .i64 (256 * onB (s % 256) (s / 256) x y n + onA (s % 256) x y : Nat), .bool true]) ∧ w' = w := by
  have hp : n * x ≤ 120 * 256 := Nat.mul_le_mul h4 (by omega)
  have e : ((n : Int) * (x : Int)) = ((n * x : Nat) : Int) := by rw [Int.natCast_mul]
  have d0 : decide ((s : Int) < 0) = false := decide_eq_false (by omega)
  have d1 : decide ((250 : Int) < (s : Int) % 256) = false := decide_eq_false (by omega)
  have d2 : decide ((250 : Int) < (s : Int) / 256) = false := decide_eq_false (by omega)
  have HA : Hid (onA (s % 256) x y = (s % 256 + 502 - x + y) % 251) := rfl
  have HB : Hid (onB (s % 256) (s / 256) x y n = (s / 256 + 64256 - n * x % 251 + onA (s % 256) x y) % 251) := rfl
  generalize onB (s % 256) (s / 256) x y n = ob at *
  generalize onA (s % 256) x y = oa at *
  generalize n * x = p at *
  have ea : ((s : Int) % 256 + 502 - (x : Int) + (y : Int)) % 251 = (oa : Int) := by have := HA.out; omega
  have hoa : oa < 251 := by have := HA.out; omega
  have eb : ((s : Int) / 256 + 64256 - (p : Int) % 251 + (oa : Int)) % 251 = (ob : Int) := by have := HB.out; omega
  have hob : ob < 251 := by have := HB.out; omega
  go_enter Try.func29, Try.ntmps29
  go_wp2_with fail
  refine (l1In_yes _ _ _ _ (by omega) (by omega)).mono ?_
  rintro e w2 ⟨rfl, hw2⟩
  rw [hw2]
  clear hw2
  go_wp2_with fail
  go_ret2
  exact ⟨rfl, rfl⟩
set_option maxHeartbeats 1000000 in
theorem sRollOn_no (s : Int) (x y : Nat) (n : Int) (w : World) (hs : fit s) (h : ¬ (0 ≤ s ∧ s % 256 ≤ 250 ∧ s / 256 ≤ 250 ∧ 1 ≤ n ∧ n ≤ 120)) :
    Calls Try.prog 29 #[.int .i64 s, .int .u8 x, .int .u8 y, .int .i64 n] w fun e w' => e = .returned (.tuple #[.int .i64 0, .bool false]) ∧ w' = w := by
  by_cases g0 : s < 0
  · have d0 : decide (s < 0) = true := decide_eq_true g0
    clear h
    go_enter Try.func29, Try.ntmps29
    go_wp2_with fail
    go_ret2
    exact ⟨rfl, rfl⟩
  have d0 : decide (s < 0) = false := decide_eq_false g0
  obtain ⟨s, rfl⟩ : ∃ k : Nat, s = (k : Int) := ⟨s.toNat, by omega⟩
  have hs2 : s ≤ 9223372036854775807 := by have := hs.2; omega
  by_cases g1 : s % 256 ≤ 250
  case neg =>
    have d1 : decide ((250 : Int) < (s : Int) % 256) = true := decide_eq_true (by omega)
    clear h
    go_enter Try.func29, Try.ntmps29
    go_wp2_with fail
    go_ret2
    exact ⟨rfl, rfl⟩
  have d1 : decide ((250 : Int) < (s : Int) % 256) = false := decide_eq_false (by omega)
  by_cases g2 : s / 256 ≤ 250
  case neg =>
    have d2 : decide ((250 : Int) < (s : Int) / 256) = true := decide_eq_true (by omega)
    clear h
    go_enter Try.func29, Try.ntmps29
    go_wp2_with fail
    go_ret2
    exact ⟨rfl, rfl⟩
  have d2 : decide ((250 : Int) < (s : Int) / 256) = false := decide_eq_false (by omega)
  have H2 : Hid (n < 1 ∨ 120 < n) := by show n < 1 ∨ 120 < n; omega
  clear h
  go_enter Try.func29, Try.ntmps29
  go_wp2_with fail
  refine (l1In_no _ _ _ _ H2.out).mono ?_
  rintro e w2 ⟨rfl, hw2⟩
  rw [hw2]
  clear hw2
  go_wp2_with fail
  go_ret2
  exact ⟨rfl, rfl⟩
set_option maxHeartbeats 1000000 in
theorem iRollOn_yes (s x y n : Nat) (w : World) (hs : s < 9223372036854775808) (hx : x < 256) (hy : y < 256) (h1 : s % 256 ≤ 250) (h2 : s / 256 ≤ 250) (h3 : 1 ≤ n) (h4 : n ≤ 120) :
    Calls Try.prog 27 #[.int .i64 s, .int .u8 x, .int .u8 y, .int .i64 n] w fun e w' => e = .returned (.tuple #[.int .i64 (256 * onB (s % 256) (s / 256) x y n + onA (s % 256) x y : Nat), .bool true]) ∧ Below w.heap.size w w' := by
  have HO := hid (fun R v => on_any R (s % 256) (s / 256) x y n v hx hy h4 (by omega) (by omega))
  generalize onB (s % 256) (s / 256) x y n = ob at *
  generalize onA (s % 256) x y = oa at *
  have e1 : (s : Int) % 256 = ((s % 256 : Nat) : Int) := by omega
  have e2 : (s : Int) / 256 = ((s / 256 : Nat) : Int) := by omega
  have d0 : decide ((s : Int) < 0) = false := decide_eq_false (by omega)
  generalize s % 256 = a at *
  generalize s / 256 = b at *
  have d1 : decide ((251 : Int) ≤ (a : Int)) = false := decide_eq_false (by omega)
  have d2 : decide ((251 : Int) ≤ (b : Int)) = false := decide_eq_false (by omega)
  have d3 : decide ((n : Int) < 1) = false := decide_eq_false (by omega)
  have d4 : decide ((120 : Int) < (n : Int)) = false := decide_eq_false (by omega)
  have g1 := boxB w (.cells #[.int .i64 a, .int .i64 b] 69)
  have k1 := heap_last w (.cells #[.int .i64 a, .int .i64 b] 69)
  have HB1 := hid g1
  have HK1 := hid k1
  have HC := hid (HO.out _ _ k1)
  clear g1 k1 HO
  go_enter Try.func27, Try.ntmps27
  go_wp2_with fail
  refine HC.out.mono ?_
  rintro e w2 ⟨rfl, _, b2⟩
  have HB2 := hid (HB1.out.trans (b2.below (Nat.le_refl _) HB1.out.size))
  clear b2
  go_wp2_with fail
  go_ret2
  exact ⟨rfl, HB2.out⟩
set_option maxHeartbeats 1000000 in
theorem iRollOn_no (s : Int) (x y : Nat) (n : Int) (w : World) (hs : fit s) (h : ¬ (0 ≤ s ∧ s % 256 ≤ 250 ∧ s / 256 ≤ 250 ∧ 1 ≤ n ∧ n ≤ 120)) :
    Calls Try.prog 27 #[.int .i64 s, .int .u8 x, .int .u8 y, .int .i64 n] w fun e w' => e = .returned (.tuple #[.int .i64 0, .bool false]) ∧ Below w.heap.size w w' := by
  have HB1 := hid (fun cs => boxB w (.cells cs 69))
  by_cases g0 : s < 0
  · have d0 : decide (s < 0) = true := decide_eq_true g0
    clear h
    go_enter Try.func27, Try.ntmps27
    go_wp2_with fail
    go_ret2
    exact ⟨rfl, HB1.out _⟩
  have d0 : decide (s < 0) = false := decide_eq_false g0
  obtain ⟨s, rfl⟩ : ∃ k : Nat, s = (k : Int) := ⟨s.toNat, by omega⟩
  have hs2 : s / 256 ≤ 9223372036854775807 := by have := hs.2; omega
  have e1 : (s : Int) % 256 = ((s % 256 : Nat) : Int) := by omega
  have e2 : (s : Int) / 256 = ((s / 256 : Nat) : Int) := by omega
  rw [e1, e2] at h
  generalize s % 256 = a at *
  generalize s / 256 = b at *
  by_cases g1 : a ≤ 250
  case neg =>
    have d1 : decide ((251 : Int) ≤ (a : Int)) = true := decide_eq_true (by omega)
    clear h
    go_enter Try.func27, Try.ntmps27
    go_wp2_with fail
    go_ret2
    exact ⟨rfl, HB1.out _⟩
  have d1 : decide ((251 : Int) ≤ (a : Int)) = false := decide_eq_false (by omega)
  by_cases g2 : b ≤ 250
  case neg =>
    have d2 : decide ((251 : Int) ≤ (b : Int)) = true := decide_eq_true (by omega)
    clear h
    go_enter Try.func27, Try.ntmps27
    go_wp2_with fail
    go_ret2
    exact ⟨rfl, HB1.out _⟩
  have d2 : decide ((251 : Int) ≤ (b : Int)) = false := decide_eq_false (by omega)
  by_cases g3 : n < 1
  · have d3 : decide (n < 1) = true := decide_eq_true g3
    clear h
    go_enter Try.func27, Try.ntmps27
    go_wp2_with fail
    go_ret2
    exact ⟨rfl, HB1.out _⟩
  have d3 : decide (n < 1) = false := decide_eq_false g3
  have d4 : decide (120 < n) = true := decide_eq_true (by omega)
  clear h
  go_enter Try.func27, Try.ntmps27
  go_wp2_with fail
  go_ret2
  exact ⟨rfl, HB1.out _⟩
theorem sRollOn_any (s : Int) (x y : Nat) (n : Int) (w : World) (hs : fit s) (hx : x < 256) (hy : y < 256) :
    Calls Try.prog 29 #[.int .i64 s, .int .u8 x, .int .u8 y, .int .i64 n] w fun e w' => e = .returned (.tuple #[.int .i64 (onV s x y n : Nat), .bool (onOk s n)]) ∧ w' = w := by
  by_cases h : 0 ≤ s ∧ s % 256 ≤ 250 ∧ s / 256 ≤ 250 ∧ 1 ≤ n ∧ n ≤ 120
  · obtain ⟨s, rfl⟩ : ∃ k : Nat, s = (k : Int) := ⟨s.toNat, by omega⟩
    obtain ⟨n, rfl⟩ : ∃ k : Nat, n = (k : Int) := ⟨n.toNat, by omega⟩
    obtain ⟨e1, e2⟩ := on_yes (s := s) (n := n) x y (by omega) (by omega) (by omega) (by omega)
    rw [e1, e2]
    exact sRollOn_yes s x y n w hx hy (by omega) (by omega) (by omega) (by omega)
  · obtain ⟨e1, e2⟩ := on_no x y h
    rw [e1, e2]
    exact sRollOn_no s x y n w hs h
theorem iRollOn_any (s : Int) (x y : Nat) (n : Int) (w : World) (hs : fit s) (hx : x < 256) (hy : y < 256) :
    Calls Try.prog 27 #[.int .i64 s, .int .u8 x, .int .u8 y, .int .i64 n] w fun e w' => e = .returned (.tuple #[.int .i64 (onV s x y n : Nat), .bool (onOk s n)]) ∧ Below w.heap.size w w' := by
  by_cases h : 0 ≤ s ∧ s % 256 ≤ 250 ∧ s / 256 ≤ 250 ∧ 1 ≤ n ∧ n ≤ 120
  · obtain ⟨s, rfl⟩ : ∃ k : Nat, s = (k : Int) := ⟨s.toNat, by omega⟩
    obtain ⟨n, rfl⟩ : ∃ k : Nat, n = (k : Int) := ⟨n.toNat, by omega⟩
    obtain ⟨e1, e2⟩ := on_yes (s := s) (n := n) x y (by omega) (by omega) (by omega) (by omega)
    rw [e1, e2]
    exact iRollOn_yes s x y n w (by omega) hx hy (by omega) (by omega) (by omega) (by omega)
  · obtain ⟨e1, e2⟩ := on_no x y h
    rw [e1, e2]
    exact iRollOn_no s x y n w hs h
end Go.Proofs.Ytfkcfachbfbmpaa
