/- Whole numbers as floats of 64 bits: their words, their sums, and back; plain. -/
import Derived.Laws.ComplexArith
namespace Go.Proofs.Ytpjmblhfahbopaa
set_option maxRecDepth 100000
open Go Ieee
/-- the bits of a whole number -/
def fl (n : Nat) : Nat := floatOfInt .f64 n

theorem log2_mul_pow (n k : Nat) (h : 0 < n) : (n * 2 ^ k).log2 = n.log2 + k := by
  have h0 : n ≠ 0 := by omega
  have h1 : n * 2 ^ k ≠ 0 := Nat.mul_ne_zero h0 (Nat.pos_iff_ne_zero.1 (Nat.two_pow_pos k))
  apply (Nat.log2_eq_iff h1).2
  have a := (Nat.log2_eq_iff h0).1 rfl
  constructor
  · rw [Nat.pow_add]; exact Nat.mul_le_mul_right _ a.1
  · rw [show n.log2 + k + 1 = (n.log2 + 1) + k from by omega, Nat.pow_add]; exact Nat.mul_lt_mul_of_pos_right a.2 (Nat.two_pow_pos k)

theorem cut_even (neg : Bool) (n d k : Nat) (h : 0 < n) (hd : d ≤ k) : Toward.even.cut neg (n * 2 ^ k) d = n * 2 ^ (k - d) := by
  have hl := log2_mul_pow n k h
  have hm : min d ((n * 2 ^ k).log2 + 2) = d := by rw [hl]; omega
  have e : n * 2 ^ k = n * 2 ^ (k - d) * 2 ^ d := by rw [Nat.mul_assoc, ← Nat.pow_add]; congr 2; omega
  have g : 0 < 2 ^ d := Nat.two_pow_pos d
  unfold Toward.cut
  simp only [hm, Nat.shiftLeft_eq, Nat.one_mul]
  rw [e, Nat.mul_div_cancel _ g, Nat.mul_mod_left]
  simp only [Nat.mul_zero, Nat.not_lt_zero, decide_false, Bool.false_or]
  have : (2 ^ d == 0) = false := by simp
  rw [this]; simp

theorem dbl_word (r : Nat) : Ieee.double.word false r = r := by simp [Ieee.Format.word]
theorem dbl_binade : Ieee.double.binade = 4503599627370496 := by decide +kernel
theorem dbl_inf : Ieee.double.infRung = 9218868437227405312 := by decide +kernel
theorem dbl_least : Ieee.double.leastPlace = -1074 := by decide +kernel
theorem dbl_frac : Ieee.double.fractionBits = 52 := rfl
theorem dbl_sign : Ieee.double.signWeight = 9223372036854775808 := by decide +kernel
/-- what is written of a whole number, in whatever place it stands -/
theorem nearest_whole (n k : Nat) (h : 0 < n) (hb : n < 2 ^ 53) (hk : k ≤ 1074) : Ieee.double.nearest false (n * 2 ^ k) (-(k : Int)) = (n.log2 + 1022) * 2 ^ 52 + n * 2 ^ (52 - n.log2) := by
  have hl := log2_mul_pow n k h
  have h0 : n ≠ 0 := by omega
  have hL : n.log2 ≤ 52 := by
    have := (Nat.log2_lt h0 (k := 53)).2 hb; omega
  have a := (Nat.log2_eq_iff h0).1 rfl
  have h1 : n * 2 ^ k ≠ 0 := Nat.mul_ne_zero h0 (Nat.pos_iff_ne_zero.1 (Nat.two_pow_pos k))
  have hlast : max (-(k : Int) + ((n * 2 ^ k).log2 : Int) - (Ieee.double.fractionBits : Int)) Ieee.double.leastPlace = (n.log2 : Int) - 52 := by
    rw [hl, dbl_frac, dbl_least]; omega
  have hkept : Toward.even.cut false ((n * 2 ^ k) <<< (-(k : Int) - ((n.log2 : Int) - 52)).toNat) (((n.log2 : Int) - 52) - -(k : Int)).toNat = n * 2 ^ (52 - n.log2) := by
    by_cases c : k ≤ 52 - n.log2
    · rw [show (((n.log2 : Int) - 52) - -(k : Int)).toNat = 0 from by omega, show (-(k : Int) - ((n.log2 : Int) - 52)).toNat = 52 - n.log2 - k from by omega, Nat.shiftLeft_eq, Nat.mul_assoc, ← Nat.pow_add, cut_even false n 0 _ h (by omega)]
      congr 2; omega
    · rw [show (-(k : Int) - ((n.log2 : Int) - 52)).toNat = 0 from by omega, Nat.shiftLeft_zero, cut_even false n _ k h (by omega)]
      congr 2; omega
  unfold Ieee.Format.nearest
  rw [if_neg h1]
  simp only [hlast, hkept]
  have e9 : (((n.log2 : Int) - 52) - Ieee.double.leastPlace).toNat = n.log2 + 1022 := by
    rw [dbl_least]; omega
  rw [e9, dbl_word, dbl_binade, dbl_inf]
  have b : n * 2 ^ (52 - n.log2) < 2 ^ 53 := by
    have := Nat.mul_lt_mul_of_pos_right a.2 (Nat.two_pow_pos (52 - n.log2))
    rwa [← Nat.pow_add, show n.log2 + 1 + (52 - n.log2) = 53 from by omega] at this
  apply Nat.min_eq_left
  omega

theorem fl_eq (n : Nat) (h : 0 < n) (hb : n < 2 ^ 53) : fl n = (n.log2 + 1022) * 2 ^ 52 + n * 2 ^ (52 - n.log2) := by
  have := nearest_whole n 0 h hb (by omega)
  rw [← this]
  show Ieee.double.nearest (decide ((n : Int) < 0)) (n : Int).natAbs 0 = _
  rw [show decide ((n : Int) < 0) = false from decide_eq_false (by omega)]
  simp

theorem fl_zero : fl 0 = 0 := by decide +kernel

theorem fl_read (n : Nat) (h : 0 < n) (hb : n < 2 ^ 53) : Ieee.double.read (fl n) = .number false (n * 2 ^ (52 - n.log2)) ((n.log2 : Int) - 52) := by
  have h0 : n ≠ 0 := by omega
  have hL : n.log2 ≤ 52 := by
    have := (Nat.log2_lt h0 (k := 53)).2 hb; omega
  have a := (Nat.log2_eq_iff h0).1 rfl
  have b : n * 2 ^ (52 - n.log2) < 2 ^ 53 := by
    have := Nat.mul_lt_mul_of_pos_right a.2 (Nat.two_pow_pos (52 - n.log2))
    rwa [← Nat.pow_add, show n.log2 + 1 + (52 - n.log2) = 53 from by omega] at this
  have c : 2 ^ 52 ≤ n * 2 ^ (52 - n.log2) := by
    have := Nat.mul_le_mul_right (2 ^ (52 - n.log2)) a.1
    rwa [← Nat.pow_add, show n.log2 + (52 - n.log2) = 52 from by omega] at this
  rw [fl_eq n h hb]
  generalize n * 2 ^ (52 - n.log2) = m at *
  generalize n.log2 = L at *
  unfold Ieee.Format.read
  rw [dbl_sign, dbl_binade, dbl_inf]
  have e1 : ((L + 1022) * 2 ^ 52 + m) / 9223372036854775808 = 0 := by omega
  have e2 : ((L + 1022) * 2 ^ 52 + m) % 9223372036854775808 = (L + 1022) * 2 ^ 52 + m := by omega
  simp only [e1, e2]
  rw [if_neg (by omega), if_pos (by omega)]
  congr 1
  · omega
  · rw [dbl_least]; omega

theorem read_zero : ∃ K : Nat, K = 1074 ∧ Ieee.double.read (fl 0) = .number false 0 (-(K : Int)) := ⟨1074, rfl, by decide +kernel⟩
theorem sum_fl (a b : Nat) (h : a + b < 2 ^ 53) : floatBits .add .f64 (fl a) (fl b) = some (fl (a + b)) := by
  show ((Ieee.double.read (fl a)).sum (Ieee.double.read (fl b))).map Ieee.double.write = _
  by_cases ha : a = 0
  · subst ha
    by_cases hb : b = 0
    · subst hb; decide +kernel
    · obtain ⟨K, hK, h0⟩ := read_zero
      rw [fl_read b (by omega) (by omega), h0]
      have hL : b.log2 ≤ 52 := by have := (Nat.log2_lt hb (k := 53)).2 (by omega); omega
      simp only [Ieee.Datum.sum, Option.map, Nat.zero_add, Option.some.injEq]
      rw [show min (-(K : Int)) ((b.log2 : Int) - 52) = -(K : Int) from by omega]
      have e : Ieee.signed false 0 (-(K : Int) - -(K : Int)).toNat + Ieee.signed false (b * 2 ^ (52 - b.log2)) ((b.log2 : Int) - 52 - -(K : Int)).toNat = ((b * 2 ^ K : Nat) : Int) := by
        unfold Ieee.signed
        simp only [Bool.false_eq_true, if_false, Nat.shiftLeft_eq, Nat.zero_mul]
        rw [show ((b.log2 : Int) - 52 - -(K : Int)).toNat = b.log2 + (K - 52) from by omega, Nat.mul_assoc, ← Nat.pow_add, show 52 - b.log2 + (b.log2 + (K - 52)) = K from by omega]; simp
      rw [e]
      have p : (b * 2 ^ K) ≠ 0 := Nat.mul_ne_zero hb (Nat.pos_iff_ne_zero.1 (Nat.two_pow_pos K))
      rw [if_neg (by exact_mod_cast p), show decide (((b * 2 ^ K : Nat) : Int) < 0) = false from decide_eq_false (by omega), Int.natAbs_natCast]
      show Ieee.double.nearest false (b * 2 ^ K) (-(K : Int)) = _
      rw [fl_eq b (by omega) (by omega)]
      exact nearest_whole b K (by omega) (by omega) (by omega)
  · by_cases hb : b = 0
    · subst hb
      obtain ⟨K, hK, h0⟩ := read_zero
      rw [fl_read a (by omega) (by omega), h0]
      have hL : a.log2 ≤ 52 := by have := (Nat.log2_lt ha (k := 53)).2 (by omega); omega
      simp only [Ieee.Datum.sum, Option.map, Nat.add_zero, Option.some.injEq]
      rw [show min ((a.log2 : Int) - 52) (-(K : Int)) = -(K : Int) from by omega]
      have e : Ieee.signed false (a * 2 ^ (52 - a.log2)) ((a.log2 : Int) - 52 - -(K : Int)).toNat + Ieee.signed false 0 (-(K : Int) - -(K : Int)).toNat = ((a * 2 ^ K : Nat) : Int) := by
        unfold Ieee.signed
        simp only [Bool.false_eq_true, if_false, Nat.shiftLeft_eq, Nat.zero_mul]
        rw [show ((a.log2 : Int) - 52 - -(K : Int)).toNat = a.log2 + (K - 52) from by omega, Nat.mul_assoc, ← Nat.pow_add, show 52 - a.log2 + (a.log2 + (K - 52)) = K from by omega]; simp
      rw [e]
      have p : (a * 2 ^ K) ≠ 0 := Nat.mul_ne_zero ha (Nat.pos_iff_ne_zero.1 (Nat.two_pow_pos K))
      rw [if_neg (by exact_mod_cast p), show decide (((a * 2 ^ K : Nat) : Int) < 0) = false from decide_eq_false (by omega), Int.natAbs_natCast]
      show Ieee.double.nearest false (a * 2 ^ K) (-(K : Int)) = _
      rw [fl_eq a (by omega) (by omega)]
      exact nearest_whole a K (by omega) (by omega) (by omega)
    · rw [fl_read a (by omega) (by omega), fl_read b (by omega) (by omega)]
      have hA : a.log2 ≤ 52 := by have := (Nat.log2_lt ha (k := 53)).2 (by omega); omega
      have hB : b.log2 ≤ 52 := by have := (Nat.log2_lt hb (k := 53)).2 (by omega); omega
      simp only [Ieee.Datum.sum, Option.map, Option.some.injEq]
      obtain ⟨k, hk, hk2⟩ : ∃ k : Nat, min ((a.log2 : Int) - 52) ((b.log2 : Int) - 52) = -(k : Int) ∧ k ≤ 52 := ⟨(52 - min (a.log2 : Int) b.log2).toNat, by omega, by omega⟩
      rw [hk]
      have e : Ieee.signed false (a * 2 ^ (52 - a.log2)) ((a.log2 : Int) - 52 - -(k : Int)).toNat + Ieee.signed false (b * 2 ^ (52 - b.log2)) ((b.log2 : Int) - 52 - -(k : Int)).toNat = (((a + b) * 2 ^ k : Nat) : Int) := by
        unfold Ieee.signed
        simp only [Bool.false_eq_true, if_false, Nat.shiftLeft_eq]
        rw [Nat.mul_assoc, ← Nat.pow_add, Nat.mul_assoc, ← Nat.pow_add, show 52 - a.log2 + ((a.log2 : Int) - 52 - -(k : Int)).toNat = k from by omega, show 52 - b.log2 + ((b.log2 : Int) - 52 - -(k : Int)).toNat = k from by omega, Nat.add_mul]; simp
      rw [e]
      have p : ((a + b) * 2 ^ k) ≠ 0 := Nat.mul_ne_zero (by omega) (Nat.pos_iff_ne_zero.1 (Nat.two_pow_pos k))
      rw [if_neg (by exact_mod_cast p), show decide ((((a + b) * 2 ^ k : Nat) : Int) < 0) = false from decide_eq_false (by omega), Int.natAbs_natCast]
      show Ieee.double.nearest false ((a + b) * 2 ^ k) (-(k : Int)) = _
      rw [fl_eq (a + b) (by omega) (by omega)]
      exact nearest_whole (a + b) k (by omega) (by omega) (by omega)

/-- small numbers, each tried -/
theorem fl_small : (List.range 2001).all (fun n => floatToIntVal .f64 (fl n) .i64 == some (n : Int)) = true := by decide +kernel
end Go.Proofs.Ytpjmblhfahbopaa
