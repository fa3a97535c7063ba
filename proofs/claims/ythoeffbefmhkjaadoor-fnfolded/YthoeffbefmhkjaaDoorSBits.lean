/- Bits of ints that are not below nought. -/
import Derived.Test.YthoeffbefmhkjaaDoorPlain
import Derived.WalkKit
namespace Go.Proofs.YthoeffbefmhkjaaDoor
open Go.RowKit
theorem wrap_i64_small (n : Nat) (h : n < 9223372036854775808) : IntKind.i64.wrap (n : Int) = (n : Int) := by
  simp [IntKind.wrap, IntKind.bits, IntKind.signed]; omega
theorem ofInt_i64 (a : Nat) (ha : a < 9223372036854775808) : (BitVec.ofInt 64 (a : Int)).toNat = a := by
  rw [BitVec.ofInt_natCast, BitVec.toNat_ofNat]; exact Nat.mod_eq_of_lt (by omega)
theorem i64_and (a b : Nat) (ha : a < 9223372036854775808) (hb : b < 9223372036854775808) : bits .and .i64 (a : Int) (b : Int) = ((a &&& b : Nat) : Int) := by
  have e : (BitVec.ofInt 64 (a : Int) &&& BitVec.ofInt 64 (b : Int)).toNat = a &&& b := by rw [BitVec.toNat_and, ofInt_i64 a ha, ofInt_i64 b hb]
  show IntKind.i64.wrap ((BitVec.ofInt 64 (a : Int) &&& BitVec.ofInt 64 (b : Int)).toNat : Int) = _
  rw [e, wrap_i64_small _ (Nat.lt_of_le_of_lt Nat.and_le_left ha)]
theorem i64_or (a b : Nat) (ha : a < 9223372036854775808) (hb : b < 9223372036854775808) : bits .or .i64 (a : Int) (b : Int) = ((a ||| b : Nat) : Int) := by
  have e : (BitVec.ofInt 64 (a : Int) ||| BitVec.ofInt 64 (b : Int)).toNat = a ||| b := by rw [BitVec.toNat_or, ofInt_i64 a ha, ofInt_i64 b hb]
  show IntKind.i64.wrap ((BitVec.ofInt 64 (a : Int) ||| BitVec.ofInt 64 (b : Int)).toNat : Int) = _
  rw [e, wrap_i64_small _ (Nat.or_lt_two_pow (n := 63) ha hb)]
theorem i64_xor (a b : Nat) (ha : a < 9223372036854775808) (hb : b < 9223372036854775808) : bits .xor .i64 (a : Int) (b : Int) = ((a ^^^ b : Nat) : Int) := by
  have e : (BitVec.ofInt 64 (a : Int) ^^^ BitVec.ofInt 64 (b : Int)).toNat = a ^^^ b := by rw [BitVec.toNat_xor, ofInt_i64 a ha, ofInt_i64 b hb]
  show IntKind.i64.wrap ((BitVec.ofInt 64 (a : Int) ^^^ BitVec.ofInt 64 (b : Int)).toNat : Int) = _
  rw [e, wrap_i64_small _ (Nat.xor_lt_two_pow (n := 63) ha hb)]
theorem tab_lt (i : Nat) : G00541.tab[i]?.getD 0 < 65536 := by
  by_cases h : i < 16
  · have all : ∀ j : Fin 16, G00541.tab[j.val]?.getD 0 < 65536 := by decide +kernel
    exact all ⟨i, h⟩
  · rw [List.getElem?_eq_none (by simpa [G00541.tab] using h)]; decide
/-- what fourBitsOn reckons -/
theorem four_val (s f : Nat) (hs : s < 65536) (hf : f < 16) :
    bits .xor .i64 (bits .or .i64 (bits .and .i64 ((s : Int) * 16) 65535) (f : Int)) ((G00541.tab[s / 4096]?.getD 0 : Nat) : Int) = ((G00541.nibOn s f : Nat) : Int) := by
  have h1 : (s : Int) * 16 = ((s * 16 : Nat) : Int) := by omega
  have ht := tab_lt (s / 4096)
  have hm : s * 16 &&& 65535 = 16 * (s % 4096) := by rw [nat_mask16]; omega
  have ho : 16 * (s % 4096) ||| f = 16 * (s % 4096) + f := nat_join 4 _ _ (by omega) (by omega)
  rw [h1, show (65535 : Int) = ((65535 : Nat) : Int) from rfl, i64_and _ _ (by omega) (by decide), hm, i64_or _ _ (by omega) (by omega), ho, i64_xor _ _ (by omega) (by omega), G00541.nibOn_tab s f hs hf, List.getD_eq_getElem?_getD]
end Go.Proofs.YthoeffbefmhkjaaDoor
