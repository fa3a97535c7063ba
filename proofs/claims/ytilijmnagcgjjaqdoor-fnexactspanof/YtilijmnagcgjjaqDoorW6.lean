/- Walks of SpanOf, of the program and of its model. -/
import Derived.Test.YtilijmnagcgjjaqDoorW3
import Derived.Test.YtilijmnagcgjjaqDoorShelf
import Derived.Shelf.Spec.TrailingZeros
namespace Go.Proofs.YtilijmnagcgjjaqDoor
set_option maxRecDepth 100000
open Go.ChangeShapes Go.WideShapes Go.ChangeAt Go.RowKit
theorem bitLen_iff : ∀ (x : Nat), x < 2 ^ 64 → ∀ k, (k < Lib.bitLen x ↔ 0 < x / 2 ^ k) := by
  intro x
  induction x using Nat.strongRecOn with
  | _ x ih =>
    intro hx k
    by_cases h0 : x = 0
    · subst h0
      have e : Lib.bitLen 0 = 0 := by decide +kernel
      rw [e, Nat.zero_div]
      exact ⟨fun h => absurd h (Nat.not_lt_zero _), fun h => absurd h (Nat.lt_irrefl _)⟩
    · rw [Lib.bitLen_half x h0 hx]
      cases k with
      | zero => rw [Nat.pow_zero, Nat.div_one]; omega
      | succ k =>
        have := ih (x / 2) (by omega) (by omega) k
        rw [show 2 ^ (k + 1) = 2 * 2 ^ k by rw [Nat.pow_succ, Nat.mul_comm], ← Nat.div_div_eq_div_mul]
        omega
theorem bitLen_le (x : Nat) (hx : x < 16777216) : Lib.bitLen x ≤ 24 := by
  apply Nat.le_of_not_lt
  intro h
  have := (bitLen_iff x (by omega) 24).1 h
  omega
/-- where the lowest 1 of a number lies -/
theorem lowest (x : Nat) (h0 : x ≠ 0) (hx : x < 16777216) :
    Lib.ctz 64 x < Lib.bitLen x ∧ x / 2 ^ Lib.ctz 64 x % 2 = 1 ∧ ∀ k, k < Lib.ctz 64 x → x / 2 ^ k % 2 = 0 := by
  unfold Lib.ctz
  rw [if_neg h0]
  obtain ⟨m, hm, hk⟩ := Lib.ctzFrom_spec 64 x (by omega) (by omega)
  generalize Lib.ctzFrom 64 x = c at *
  have hd : x / 2 ^ c = 2 * m + 1 := by rw [hm]; exact Nat.mul_div_cancel_left _ (Nat.two_pow_pos c)
  refine ⟨(bitLen_iff x (by omega) c).2 (by omega), by omega, fun k hkc => ?_⟩
  obtain ⟨d, rfl⟩ : ∃ d, c = k + (d + 1) := ⟨c - k - 1, by omega⟩
  have : x / 2 ^ k = 2 * (2 ^ d * (2 * m + 1)) := by
    rw [hm, Nat.pow_add, Nat.pow_succ, Nat.mul_assoc, Nat.mul_div_cancel_left _ (Nat.two_pow_pos k), Nat.mul_comm (2 ^ d) 2, Nat.mul_assoc]
  omega
set_option maxHeartbeats 1000000 in
theorem tz64_core (x k idx : Nat) (w : World) (hx0 : ((x : Int) == 0) = false)
    (key : IntKind.u64.wrap (bits BinOp.and IntKind.u64 (x : Int) (IntKind.u64.wrap (-(x : Int))) * 285870213051353865) / 288230376151711744 = (idx : Int))
    (hi : idx < 64) (hk : k < 64) (hcell : w.cell? ⟨2, idx, none⟩ = some (.int .u8 k)) :
    Calls Tryd.prog 34 #[.int .u64 x] w fun e w' => e = .returned (.int .i64 k) ∧ w' = w := by
  go_enter Tryd.func34, Tryd.ntmps34
  go_wp2_with (simp only [key])
  go_ret
  exact ⟨rfl, rfl⟩
theorem tz64_any (x : Nat) (w : World) (h0 : x ≠ 0) (hx : x < 18446744073709551616) (hT : TabAt 2 Lib.deBruijn64tab w) :
    Calls Tryd.prog 34 #[.int .u64 x] w fun e w' => e = .returned (.int .i64 (Lib.ctz 64 x)) ∧ w' = w := by
  obtain ⟨hlow, hk⟩ := Lib.lowest_bit 64 x h0 hx
  obtain ⟨hi, htab⟩ := Lib.deBruijn64_at _ hk
  have hcell := hT _ hi
  rw [htab] at hcell
  exact tz64_core x _ _ w (by simp; omega) (tz64_key x _ hx h0 hlow) hi hk hcell
set_option maxHeartbeats 400000 in
theorem tz_any (x : Nat) (w : World) (h0 : x ≠ 0) (hx : x < 18446744073709551616) (hT : TabAt 2 Lib.deBruijn64tab w) :
    Calls Tryd.prog 30 #[.int .u64 x] w fun e w' => e = .returned (.int .i64 (Lib.ctz 64 x)) ∧ w' = w := by
  have HX : Hid (x < 18446744073709551616) := hx
  have HT : Hid (TabAt 2 Lib.deBruijn64tab w) := hT
  clear hT
  go_enter Tryd.func30, Tryd.ntmps30
  go_wp2_with fail
  refine (tz64_any _ _ h0 HX.out HT.out).mono ?_
  rintro e w' ⟨rfl, rfl⟩
  go_wp2
  go_ret
  exact ⟨rfl, rfl⟩
set_option maxHeartbeats 400000 in
theorem low_any (x : Nat) (w : World) (h0 : x ≠ 0) (hx : x < 16777216) (hT : TabAt 2 Lib.deBruijn64tab w) :
    Calls Tryd.prog 27 #[.int .i64 x] w fun e w' => e = .returned (.int .i64 (Lib.ctz 64 x)) ∧ w' = w := by
  have HT : Hid (TabAt 2 Lib.deBruijn64tab w) := hT
  clear hT
  go_enter Tryd.func27, Tryd.ntmps27
  go_wp2_with fail
  refine (tz_any _ _ h0 (by omega) HT.out).mono ?_
  rintro e w' ⟨rfl, rfl⟩
  go_wp2
  go_ret
  exact ⟨rfl, rfl⟩
set_option maxHeartbeats 400000 in
theorem high_any (x : Nat) (w : World) (hx : x < 16777216) :
    Calls Tryd.prog 26 #[.int .i64 x] w fun e w' => e = .returned (.int .i64 ((Lib.bitLen x : Int) - 1)) ∧ w' = w := by
  have hl := bitLen_le x hx
  go_enter Tryd.func26, Tryd.ntmps26
  go_wp2_with fail
  refine (Tryd.bits_Len _ _ (by omega) (by omega)).mono ?_
  rintro e w' ⟨rfl, rfl⟩
  rw [Int.toNat_natCast]
  go_wp2
  go_ret
  exact ⟨rfl, rfl⟩
def okSpan (n : Int) : Bool := decide (0 ≤ n ∧ n < 16777216)
def valSpan (n : Int) : Int := if okSpan n = true then (if n = 0 then 0 else (Lib.bitLen n.toNat : Int) - (Lib.ctz 64 n.toNat : Int)) else 0
theorem okSpan_yes {n : Nat} (h : n < 16777216) : okSpan n = true := by unfold okSpan; simp; omega
theorem okSpan_no {n : Int} (h : n < 0 ∨ 16777216 ≤ n) : okSpan n = false := by unfold okSpan; simp; omega
theorem valSpan_no {n : Int} (h : n < 0 ∨ 16777216 ≤ n) : valSpan n = 0 := by unfold valSpan; rw [if_neg (by rw [okSpan_no h]; decide)]
theorem valSpan_zero : valSpan 0 = 0 := by unfold valSpan; rw [if_pos rfl]; split <;> rfl
theorem valSpan_yes {n : Nat} (h : n < 16777216) (h0 : n ≠ 0) : valSpan n = (Lib.bitLen n : Int) - (Lib.ctz 64 n : Int) := by
  unfold valSpan; rw [if_pos (okSpan_yes h), if_neg (by omega), Int.toNat_natCast]
theorem span_or (n : Int) : (n < 0 ∨ 16777216 ≤ n) ∨ n = 0 ∨ ∃ m : Nat, n = m ∧ m ≠ 0 ∧ m < 16777216 := by
  by_cases h : n < 0 ∨ 16777216 ≤ n
  · exact Or.inl h
  · by_cases h0 : n = 0
    · exact Or.inr (Or.inl h0)
    · exact Or.inr (Or.inr ⟨n.toNat, by omega, by omega, by omega⟩)
set_option maxHeartbeats 400000 in
theorem implSpan_any (n : Int) (w : World) (hT : TabAt 2 Lib.deBruijn64tab w) :
    Calls Tryd.prog 17 #[.int .i64 n] w fun e w' => e = .returned (.tuple #[.int .i64 (valSpan n), .bool (okSpan n)]) ∧ w' = w := by
  have HT : Hid (TabAt 2 Lib.deBruijn64tab w) := hT
  clear hT
  rcases span_or n with h | rfl | ⟨m, rfl, h0, h⟩
  · rw [valSpan_no h, okSpan_no h]
    by_cases hn : n < 0
    · have hd : decide (n < 0) = true := by simpa using hn
      go_enter Tryd.func17, Tryd.ntmps17
      go_wp2_with fail
      go_ret2
      exact ⟨rfl, rfl⟩
    · have hd : decide (n < 0) = false := by simpa using hn
      have hg : decide (16777216 ≤ n) = true := by simp; omega
      go_enter Tryd.func17, Tryd.ntmps17
      go_wp2_with fail
      go_ret2
      exact ⟨rfl, rfl⟩
  · rw [valSpan_zero, show okSpan 0 = true from okSpan_yes (n := 0) (by decide)]
    go_enter Tryd.func17, Tryd.ntmps17
    go_wp2_with fail
    go_ret2
    exact ⟨rfl, rfl⟩
  · rw [valSpan_yes h h0, okSpan_yes h]
    have hl := bitLen_le m h
    obtain ⟨hc, -, -⟩ := lowest m h0 h
    have hd : decide ((16777216 : Int) ≤ (m : Int)) = false := by simp; omega
    have he : ((m : Int) == 0) = false := by simp; omega
    go_enter Tryd.func17, Tryd.ntmps17
    go_wp2_with fail
    refine (high_any _ _ h).mono ?_
    rintro e w1 ⟨rfl, rfl⟩
    go_wp2_with fail
    refine (low_any _ _ h0 h HT.out).mono ?_
    rintro e w1 ⟨rfl, rfl⟩
    go_wp2
    go_ret2
    exact ⟨ret_two (by omega) rfl, rfl⟩
set_option maxHeartbeats 400000 in
theorem l1Bits_yes (n : Int) (w : World) (h : 0 ≤ n) (g : n < 16777216) : Calls Tryd.prog 24 #[.int .i64 n] w fun e w' => e = .returned (.bool true) ∧ w' = w := by
  go_enter Tryd.func24, Tryd.ntmps24
  go_wp2_with fail
  refine (l1In_yes _ _ _ _ (by omega) (by omega)).mono ?_
  rintro e w1 ⟨rfl, rfl⟩
  go_wp2
  go_ret
  exact ⟨rfl, rfl⟩
set_option maxHeartbeats 400000 in
theorem l1Bits_no (n : Int) (w : World) (h : n < 0 ∨ 16777216 ≤ n) : Calls Tryd.prog 24 #[.int .i64 n] w fun e w' => e = .returned (.bool false) ∧ w' = w := by
  have h' : n < 0 ∨ 16777215 < n := by omega
  clear h
  go_enter Tryd.func24, Tryd.ntmps24
  go_wp2_with fail
  refine (l1In_no _ _ _ _ h').mono ?_
  rintro e w1 ⟨rfl, rfl⟩
  go_wp2
  go_ret
  exact ⟨rfl, rfl⟩
theorem shr_nat (n k : Nat) : (n : Int) / 2 ^ k = ((n / 2 ^ k : Nat) : Int) := by rw [Int.natCast_ediv, Int.natCast_pow]; rfl
set_option maxHeartbeats 400000 in
theorem l1Long_any (n : Nat) (w : World) (h : n < 16777216) : Calls Tryd.prog 25 #[.int .i64 n] w fun e w' => e = .returned (.int .i64 (Lib.bitLen n)) ∧ w' = w := by
  have hL := bitLen_le n h
  have HI : Hid (∀ k, (k < Lib.bitLen n ↔ 0 < n / 2 ^ k)) := bitLen_iff n (by omega)
  generalize Lib.bitLen n = L at *
  go_enter Tryd.func25, Tryd.ntmps25
  go_wp2
  go_loop [3] (fun t => ∃ k : Nat, k ≤ L ∧ t = .int .i64 k) (fun t => L - (intOf t).toNat)
  case atStart => exact ⟨0, Nat.zero_le _, rfl⟩
  case round =>
    obtain ⟨k, hk, rfl⟩ := hrel
    by_cases hlt : k < L
    · have hd : decide (0 < (n : Int) / 2 ^ k) = true := by
        have := (HI.out k).1 hlt
        rw [shr_nat]; exact decide_eq_true (Int.natCast_pos.2 this)
      go_wp2
      go_round
      case rel => exact ⟨k + 1, by omega, by go_num⟩
      case measure => simp [intOf]; omega
    · have hd : decide (0 < (n : Int) / 2 ^ k) = false := by
        have : ¬ 0 < n / 2 ^ k := fun g => hlt ((HI.out k).2 g)
        rw [shr_nat]; exact decide_eq_false (fun g => this (Int.natCast_pos.1 g))
      obtain rfl : k = L := by omega
      go_wp2
      go_ret
      exact ⟨rfl, rfl⟩
theorem bit_at (n k : Nat) (h : n < 16777216) : bits .and .i64 ((n : Int) / 2 ^ k) 1 = ((n / 2 ^ k % 2 : Nat) : Int) := by
  have hle : n / 2 ^ k ≤ n := Nat.div_le_self _ _
  rw [shr_nat]
  generalize n / 2 ^ k = q at *
  rw [show (1 : Int) = ((1 : Nat) : Int) from rfl, i64_and _ _ (by omega) (by decide), nat_mask1]
set_option maxHeartbeats 1000000 in
theorem specSpan_any (n : Int) (w : World) :
    Calls Tryd.prog 16 #[.int .i64 n] w fun e w' => e = .returned (.tuple #[.int .i64 (valSpan n), .bool (okSpan n)]) ∧ w' = w := by
  rcases span_or n with h | rfl | ⟨m, rfl, h0, h⟩
  · rw [valSpan_no h, okSpan_no h]
    go_enter Tryd.func16, Tryd.ntmps16
    go_wp2_with fail
    refine (l1Bits_no _ _ h).mono ?_
    rintro e w1 ⟨rfl, rfl⟩
    go_wp2
    go_ret2
    exact ⟨rfl, rfl⟩
  · rw [valSpan_zero, show okSpan 0 = true from okSpan_yes (n := 0) (by decide)]
    go_enter Tryd.func16, Tryd.ntmps16
    go_wp2_with fail
    refine (l1Bits_yes _ _ (by omega) (by omega)).mono ?_
    rintro e w1 ⟨rfl, rfl⟩
    go_wp2_with fail
    refine (l1Long_any 0 _ (by decide)).mono ?_
    rintro e w1 ⟨rfl, rfl⟩
    rw [show Lib.bitLen 0 = 0 by decide +kernel]
    go_wp2
    go_loop [5] (fun t => t = .int .i64 0) (fun _ => 0)
    case atStart => rfl
    case round =>
      obtain rfl := hrel
      go_wp2
      go_ret2
      exact ⟨rfl, rfl⟩
  · rw [valSpan_yes h h0, okSpan_yes h]
    have hl := bitLen_le m h
    have LL := l1Long_any m w h
    obtain ⟨hc, ho, hz⟩ := lowest m h0 h
    have HO : Hid (m / 2 ^ Lib.ctz 64 m % 2 = 1) := ho
    have HZ : Hid (∀ k, k < Lib.ctz 64 m → m / 2 ^ k % 2 = 0) := hz
    clear ho hz
    generalize Lib.ctz 64 m = c at *
    generalize Lib.bitLen m = L at *
    have HL : Hid (Calls Tryd.prog 25 #[.int .i64 m] w fun e w' => e = .returned (.int .i64 L) ∧ w' = w) := LL
    clear LL
    go_enter Tryd.func16, Tryd.ntmps16
    go_wp2_with fail
    refine (l1Bits_yes _ _ (by omega) (by omega)).mono ?_
    rintro e w1 ⟨rfl, rfl⟩
    go_wp2_with fail
    refine (HL.out).mono ?_
    rintro e w1 ⟨rfl, rfl⟩
    clear HL
    go_wp2
    go_loop [5] (fun t => ∃ k : Nat, k ≤ c ∧ t = .int .i64 k) (fun t => c - (intOf t).toNat)
    case atStart => exact ⟨0, Nat.zero_le _, rfl⟩
    case round =>
      obtain ⟨k, hk, rfl⟩ := hrel
      by_cases hlt : k < c
      · have hd : (bits .and .i64 ((m : Int) / 2 ^ k) 1 == 0) = true := by rw [bit_at m k h, HZ.out k hlt]; rfl
        go_wp2
        go_round
        case rel => exact ⟨k + 1, by omega, by go_num⟩
        case measure => simp [intOf]; omega
      · obtain rfl : k = c := by omega
        have hd : (bits .and .i64 ((m : Int) / 2 ^ k) 1 == 0) = false := by rw [bit_at m k h, HO.out]; rfl
        go_wp2
        go_ret2
        exact ⟨rfl, rfl⟩
set_option maxHeartbeats 400000 in
theorem law_SpanOf (n : Int) (w : World) (hT : TabAt 2 Lib.deBruijn64tab w) :
    Calls Tryd.prog 7 #[.int .i64 n] w fun e w' => e = .returned (.bool true) ∧ w' = w := by
  have HT : Hid (TabAt 2 Lib.deBruijn64tab w) := hT
  clear hT
  go_enter Tryd.func7, Tryd.ntmps7
  go_wp2_with fail
  refine (specSpan_any _ _).mono ?_
  rintro e w1 ⟨rfl, rfl⟩
  go_wp2_with fail
  refine (implSpan_any _ _ HT.out).mono ?_
  rintro e w1 ⟨rfl, rfl⟩
  go_wp2
  go_ret
  exact ⟨rfl, rfl⟩
end Go.Proofs.YtilijmnagcgjjaqDoor
