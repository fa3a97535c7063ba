/- Small texts that the others stand on, in one. -/
import Derived.WalkKit
import Derived.Test.YthoeffbefmhkjaaDoorChecked
import Derived.ProofKit
import Derived.OpenShut
import Derived.Laws.IdiomStrings
import Derived.Laws.MakeOwn
import Derived.Lib.ConvBytes
import Derived.Laws.BytesArg
import Derived.Deep.RegionHeld
import Derived.Laws.StructEq
import Derived.Deep.RegionWith
namespace G00541
/-- one bit goes on behind a sum -/
def bitOn (s b : Nat) : Nat := if 65536 ≤ 2 * s + b then (2 * s + b) ^^^ 69665 else 2 * s + b
def nibOn (s f : Nat) : Nat := bitOn (bitOn (bitOn (bitOn s (f / 8 % 2)) (f / 4 % 2)) (f / 2 % 2)) (f % 2)
def byteOn (s c : Nat) : Nat := nibOn (nibOn s (c / 16)) (c % 16)
def sumOn (s : Nat) (l : List UInt8) : Nat := l.foldl (fun s c => byteOn s c.toNat) s
def tab : List Nat := [0, 4129, 8258, 12387, 16516, 20645, 24774, 28903, 33032, 37161, 41290, 45419, 49548, 53677, 57806, 61935]

theorem dbl_xor (x y b c : Nat) (hb : b < 2) (hc : c < 2) : 2 * (x ^^^ y) + (b ^^^ c) = (2 * x + b) ^^^ (2 * y + c) := by
  have hbc : b ^^^ c < 2 := Nat.xor_lt_two_pow (n := 1) hb hc
  apply Nat.eq_of_testBit_eq
  intro i
  rw [Nat.testBit_xor]
  cases i with
  | zero => rcases (by omega : b = 0 ∨ b = 1) with rfl | rfl <;> rcases (by omega : c = 0 ∨ c = 1) with rfl | rfl <;> simp [Nat.testBit_zero] <;> omega
  | succ i =>
    rw [Nat.testBit_succ, Nat.testBit_succ, Nat.testBit_succ, show (2 * (x ^^^ y) + (b ^^^ c)) / 2 = x ^^^ y by omega, show (2 * x + b) / 2 = x by omega, show (2 * y + c) / 2 = y by omega, Nat.testBit_xor]
theorem top_iff (s b : Nat) (hs : s < 65536) (hb : b < 2) : 65536 ≤ 2 * s + b ↔ s.testBit 15 = true := by
  rw [Nat.testBit_eq_decide_div_mod_eq]
  simp
  omega
theorem bitOn_eq (s b : Nat) (hs : s < 65536) (hb : b < 2) : bitOn s b = (2 * s + b) ^^^ (if s.testBit 15 = true then 69665 else 0) := by
  unfold bitOn
  by_cases h : 65536 ≤ 2 * s + b
  · rw [if_pos h, if_pos ((top_iff s b hs hb).1 h)]
  · rw [if_neg h, if_neg (fun k => h ((top_iff s b hs hb).2 k)), Nat.xor_zero]
theorem bitOn_lt (s b : Nat) (hs : s < 65536) (hb : b < 2) : bitOn s b < 65536 := by
  rw [bitOn_eq s b hs hb]
  have h17 : ∀ t : Bool, (2 * s + b) ^^^ (if t = true then 69665 else 0) < 131072 := by
    intro t
    exact Nat.xor_lt_two_pow (n := 17) (by omega) (by split <;> decide)
  have h16 : ((2 * s + b) ^^^ (if s.testBit 15 = true then 69665 else 0)).testBit 16 = false := by
    rw [Nat.testBit_xor, Nat.testBit_succ, show (2 * s + b) / 2 = s by omega]
    cases h : s.testBit 15 <;> simp <;> decide
  have := h17 (s.testBit 15)
  rw [Nat.testBit_eq_decide_div_mod_eq] at h16
  simp at h16
  omega
theorem xor_lc (a b c : Nat) : a ^^^ (b ^^^ c) = b ^^^ (a ^^^ c) := by rw [← Nat.xor_assoc, Nat.xor_comm a b, Nat.xor_assoc]
theorem bitOn_xor (x y b c : Nat) (hx : x < 65536) (hy : y < 65536) (hb : b < 2) (hc : c < 2) : bitOn (x ^^^ y) (b ^^^ c) = bitOn x b ^^^ bitOn y c := by
  have hbc : b ^^^ c < 2 := Nat.xor_lt_two_pow (n := 1) hb hc
  have hxy : x ^^^ y < 65536 := Nat.xor_lt_two_pow (n := 16) hx hy
  rw [bitOn_eq _ _ hxy hbc, bitOn_eq x b hx hb, bitOn_eq y c hy hc, dbl_xor x y b c hb hc, Nat.testBit_xor]
  generalize 2 * x + b = p
  generalize 2 * y + c = q
  cases x.testBit 15 <;> cases y.testBit 15
  · simp
  · simp [Nat.xor_assoc]
  · simp only [Bool.true_bne, Bool.not_false, if_true, Bool.false_eq_true, if_false, Nat.xor_zero]
    rw [Nat.xor_assoc, Nat.xor_comm q, ← Nat.xor_assoc]
  · simp only [bne_self_eq_false, Bool.false_eq_true, if_false, if_true, Nat.xor_zero]
    rw [Nat.xor_assoc, xor_lc 69665 q, Nat.xor_self, Nat.xor_zero]
theorem bitOn_small (y b : Nat) (hy : y < 32768) (hb : b < 2) : bitOn y b = 2 * y + b := by unfold bitOn; rw [if_neg (by omega)]

theorem mod2_lt (n : Nat) : n % 2 < 2 := Nat.mod_lt _ (by decide)
theorem nibOn_lt (s f : Nat) (hs : s < 65536) : nibOn s f < 65536 := by
  unfold nibOn
  exact bitOn_lt _ _ (bitOn_lt _ _ (bitOn_lt _ _ (bitOn_lt _ _ hs (mod2_lt _)) (mod2_lt _)) (mod2_lt _)) (mod2_lt _)
theorem byteOn_lt (s c : Nat) (hs : s < 65536) : byteOn s c < 65536 := nibOn_lt _ _ (nibOn_lt _ _ hs)
theorem sumOn_lt (l : List UInt8) : ∀ s, s < 65536 → sumOn s l < 65536 := by
  induction l with
  | nil => intro s hs; exact hs
  | cons c l ih => intro s hs; exact ih _ (byteOn_lt _ _ hs)
theorem sumOn_append (s : Nat) (l m : List UInt8) : sumOn s (l ++ m) = sumOn (sumOn s l) m := List.foldl_append
theorem sumOn_snoc (s : Nat) (l : List UInt8) (c : UInt8) : sumOn s (l ++ [c]) = byteOn (sumOn s l) c.toNat := by rw [sumOn_append]; rfl
theorem sumOn_cons (s : Nat) (l : List UInt8) (c : UInt8) : sumOn s (c :: l) = sumOn (byteOn s c.toNat) l := rfl

theorem four_zero (hi : Nat) (h : hi < 16) : bitOn (bitOn (bitOn (bitOn (4096 * hi) 0) 0) 0) 0 = tab.getD hi 0 := by
  have all : ∀ j : Fin 16, bitOn (bitOn (bitOn (bitOn (4096 * j.val) 0) 0) 0) 0 = tab.getD j.val 0 := by decide +kernel
  exact all ⟨hi, h⟩
theorem split_xor (s : Nat) : s = (s % 4096) ^^^ (4096 * (s / 4096)) := by
  have h := Nat.two_pow_add_eq_or_of_lt (i := 12) (b := s % 4096) (Nat.mod_lt _ (by decide)) (s / 4096)
  have e : s = 4096 * (s / 4096) ||| s % 4096 := by rw [← h]; omega
  have d : (s % 4096) ^^^ (4096 * (s / 4096)) = 4096 * (s / 4096) ||| s % 4096 := by
    apply Nat.eq_of_testBit_eq; intro i
    rw [Nat.testBit_xor, Nat.testBit_or, show 4096 * (s / 4096) = 2 ^ 12 * (s / 4096) from rfl, Nat.testBit_two_pow_mul, show s % 4096 = s % 2 ^ 12 from rfl, Nat.testBit_mod_two_pow]
    by_cases hi : i < 12
    · simp [hi, show ¬ 12 ≤ i by omega]
    · simp [hi]
  rw [d]; exact e
theorem xor_zero_of (b : Nat) : b = b ^^^ 0 := (Nat.xor_zero b).symm
theorem step_split (y k b : Nat) (hy : y < 32768) (hk : k < 65536) (hb : b < 2) : bitOn (y ^^^ k) b = (2 * y + b) ^^^ bitOn k 0 := by
  conv => lhs; rw [xor_zero_of b]
  rw [bitOn_xor y k b 0 (by omega) hk hb (by decide), bitOn_small y b hy hb]
theorem nibOn_tab (s f : Nat) (hs : s < 65536) (hf : f < 16) : nibOn s f = (16 * (s % 4096) + f) ^^^ tab.getD (s / 4096) 0 := by
  have h0 : 4096 * (s / 4096) < 65536 := by omega
  have h1 := bitOn_lt _ 0 h0 (by decide)
  have h2 := bitOn_lt _ 0 h1 (by decide)
  have h3 := bitOn_lt _ 0 h2 (by decide)
  have hm : s % 4096 < 4096 := Nat.mod_lt _ (by decide)
  unfold nibOn
  conv => lhs; rw [split_xor s]
  rw [step_split _ _ _ (by omega) h0 (mod2_lt _), step_split _ _ _ (by omega) h1 (mod2_lt _), step_split _ _ _ (by omega) h2 (mod2_lt _), step_split _ _ _ (by omega) h3 (mod2_lt _), four_zero _ (by omega)]
  congr 1
  omega
theorem div_mod2_xor (f g k : Nat) : (f ^^^ g) / 2 ^ k % 2 = (f / 2 ^ k % 2) ^^^ (g / 2 ^ k % 2) := by
  have h : ∀ n : Nat, n / 2 ^ k % 2 = (n.testBit k).toNat := fun n => (Nat.toNat_testBit n k).symm
  rw [h, h, h, Nat.testBit_xor]
  cases f.testBit k <;> cases g.testBit k <;> rfl
theorem nibOn_xor (x y f g : Nat) (hx : x < 65536) (hy : y < 65536) : nibOn (x ^^^ y) (f ^^^ g) = nibOn x f ^^^ nibOn y g := by
  have e3 := div_mod2_xor f g 3
  have e2 := div_mod2_xor f g 2
  have e1 := div_mod2_xor f g 1
  have e0 := div_mod2_xor f g 0
  simp only [show (2 : Nat) ^ 3 = 8 from rfl, show (2 : Nat) ^ 2 = 4 from rfl, Nat.pow_one, Nat.pow_zero, Nat.div_one] at e3 e2 e1 e0
  unfold nibOn
  have a1 := bitOn_lt x (f / 8 % 2) hx (mod2_lt _)
  have b1 := bitOn_lt y (g / 8 % 2) hy (mod2_lt _)
  have a2 := bitOn_lt _ (f / 4 % 2) a1 (mod2_lt _)
  have b2 := bitOn_lt _ (g / 4 % 2) b1 (mod2_lt _)
  have a3 := bitOn_lt _ (f / 2 % 2) a2 (mod2_lt _)
  have b3 := bitOn_lt _ (g / 2 % 2) b2 (mod2_lt _)
  rw [e3, e2, e1, e0, bitOn_xor _ _ _ _ hx hy (mod2_lt _) (mod2_lt _), bitOn_xor _ _ _ _ a1 b1 (mod2_lt _) (mod2_lt _), bitOn_xor _ _ _ _ a2 b2 (mod2_lt _) (mod2_lt _), bitOn_xor _ _ _ _ a3 b3 (mod2_lt _) (mod2_lt _)]
theorem div16_xor (c d : Nat) : (c ^^^ d) / 16 = (c / 16) ^^^ (d / 16) := by
  have := @Nat.shiftRight_xor_distrib 4 c d
  simpa [Nat.shiftRight_eq_div_pow] using this
theorem mod16_xor (c d : Nat) : (c ^^^ d) % 16 = (c % 16) ^^^ (d % 16) := by
  have := @Nat.xor_mod_two_pow c d 4
  simpa using this
theorem byteOn_xor (x y c d : Nat) (hx : x < 65536) (hy : y < 65536) : byteOn (x ^^^ y) (c ^^^ d) = byteOn x c ^^^ byteOn y d := by
  unfold byteOn
  rw [div16_xor, mod16_xor, nibOn_xor _ _ _ _ hx hy, nibOn_xor _ _ _ _ (nibOn_lt _ _ hx) (nibOn_lt _ _ hy)]
theorem sumOn_xor : ∀ (a b : List UInt8) (x y : Nat), a.length = b.length → x < 65536 → y < 65536 → sumOn (x ^^^ y) (List.zipWith (fun c d => c ^^^ d) a b) = sumOn x a ^^^ sumOn y b
  | [], [], _, _, _, _, _ => rfl
  | [], _ :: _, _, _, h, _, _ => by cases h
  | _ :: _, [], _, _, h, _, _ => by cases h
  | c :: a, d :: b, x, y, h, hx, hy => by
    rw [List.zipWith_cons_cons, sumOn_cons, sumOn_cons, sumOn_cons, UInt8.toNat_xor, byteOn_xor _ _ _ _ hx hy]
    exact sumOn_xor a b _ _ (by simpa using h) (byteOn_lt _ _ hx) (byteOn_lt _ _ hy)
theorem zip_zeros : ∀ b : List UInt8, List.zipWith (fun c d => c ^^^ d) (List.replicate b.length 0) b = b
  | [] => rfl
  | d :: b => by
    rw [List.length_cons, List.replicate_succ, List.zipWith_cons_cons, zip_zeros b]
    simp
theorem sumOn_zeros (h : Nat) (b : List UInt8) (hh : h < 65536) : sumOn h (List.replicate b.length 0) ^^^ sumOn 0 b = sumOn h b := by
  rw [← sumOn_xor _ _ _ _ (by simp) hh (by decide), zip_zeros, Nat.xor_zero]
end G00541
namespace Go.Proofs.YthoeffbefmhkjaaDoor
open Go.RowKit
theorem wrap_i64_small (n : Nat) (h : n < 9223372036854775808) : IntKind.i64.wrap (n : Int) = (n : Int) := by
  simp [IntKind.wrap, IntKind.bits, IntKind.signed]; omega
theorem ofInt_i64 (a : Nat) (ha : a < 9223372036854775808) : (BitVec.ofInt 64 (a : Int)).toNat = a := by
  rw [BitVec.ofInt_natCast, BitVec.toNat_ofNat]; exact Nat.mod_eq_of_lt (by omega)
theorem i64_and (a b : Nat) (ha : a < 9223372036854775808) (hb : b < 9223372036854775808) : bits .and .i64 (a : Int) (b : Int) = ((a &&& b : Nat) : Int) := by
  have e : (BitVec.ofInt 64 (a : Int) &&& BitVec.ofInt 64 (b : Int)).toNat = a &&& b := by rw [BitVec.toNat_and, ofInt_i64 a ha, ofInt_i64 b hb]
  show IntKind.i64.wrap ((BitVec.ofInt 64 (a : Int) &&& BitVec.ofInt 64 (b : Int)).toNat : Int) = _
  rw [e, wrap_i64_small _ (Nat.lt_of_le_of_lt Nat.and_le_left ha)]
theorem i64_or (a b : Nat) (ha : a < 9223372036854775808) (hb : b < 9223372036854775808) : bits .or .i64 (a : Int) (b : Int) = ((a ||| b : Nat) : Int) := by
  have e : (BitVec.ofInt 64 (a : Int) ||| BitVec.ofInt 64 (b : Int)).toNat = a ||| b := by rw [BitVec.toNat_or, ofInt_i64 a ha, ofInt_i64 b hb]
  show IntKind.i64.wrap ((BitVec.ofInt 64 (a : Int) ||| BitVec.ofInt 64 (b : Int)).toNat : Int) = _
  rw [e, wrap_i64_small _ (Nat.or_lt_two_pow (n := 63) ha hb)]
theorem i64_xor (a b : Nat) (ha : a < 9223372036854775808) (hb : b < 9223372036854775808) : bits .xor .i64 (a : Int) (b : Int) = ((a ^^^ b : Nat) : Int) := by
  have e : (BitVec.ofInt 64 (a : Int) ^^^ BitVec.ofInt 64 (b : Int)).toNat = a ^^^ b := by rw [BitVec.toNat_xor, ofInt_i64 a ha, ofInt_i64 b hb]
  show IntKind.i64.wrap ((BitVec.ofInt 64 (a : Int) ^^^ BitVec.ofInt 64 (b : Int)).toNat : Int) = _
  rw [e, wrap_i64_small _ (Nat.xor_lt_two_pow (n := 63) ha hb)]
theorem tab_lt (i : Nat) : G00541.tab[i]?.getD 0 < 65536 := by
  by_cases h : i < 16
  · have all : ∀ j : Fin 16, G00541.tab[j.val]?.getD 0 < 65536 := by decide +kernel
    exact all ⟨i, h⟩
  · rw [List.getElem?_eq_none (by simpa [G00541.tab] using h)]; decide
/-- what fourBitsOn reckons -/
theorem four_val (s f : Nat) (hs : s < 65536) (hf : f < 16) :
    bits .xor .i64 (bits .or .i64 (bits .and .i64 ((s : Int) * 16) 65535) (f : Int)) ((G00541.tab[s / 4096]?.getD 0 : Nat) : Int) = ((G00541.nibOn s f : Nat) : Int) := by
  have h1 : (s : Int) * 16 = ((s * 16 : Nat) : Int) := by omega
  have ht := tab_lt (s / 4096)
  have hm : s * 16 &&& 65535 = 16 * (s % 4096) := by rw [nat_mask16]; omega
  have ho : 16 * (s % 4096) ||| f = 16 * (s % 4096) + f := nat_join 4 _ _ (by omega) (by omega)
  rw [h1, show (65535 : Int) = ((65535 : Nat) : Int) from rfl, i64_and _ _ (by omega) (by decide), hm, i64_or _ _ (by omega) (by omega), ho, i64_xor _ _ (by omega) (by omega), G00541.nibOn_tab s f hs hf, List.getD_eq_getElem?_getD]
end Go.Proofs.YthoeffbefmhkjaaDoor
namespace Go.Proofs.YthoeffbefmhkjaaDoor
set_option maxRecDepth 100000
open Go.ChangeShapes Go.WideShapes Go.ChangeAt Go.RowKit
theorem ret_int {k : IntKind} {a b : Int} (h : a = b) : Ending.returned (.int k a) = .returned (.int k b) := by rw [h]
theorem ret_two {a b : Int} {c d : Bool} (h : a = b) (g : c = d) : Ending.returned (.tuple #[.int .i64 a, .bool c]) = .returned (.tuple #[.int .i64 b, .bool d]) := by rw [h, g]
def Tab (w : World) : Prop := ∀ i : Nat, i < 16 → w.cell? ⟨0, i, none⟩ = some (.int .i64 (G00541.tab.getD i 0 : Nat))
set_option maxHeartbeats 400000 in
theorem four_nat (s f : Nat) (w : World) (hs : s < 65536) (hf : f < 16) (hc : w.cell? ⟨0, s / 4096, none⟩ = some (.int .i64 (G00541.tab.getD (s / 4096) 0 : Nat))) :
    Calls Tryd.prog 65 #[.int .i64 s, .int .i64 f] w fun e w' => e = .returned (.int .i64 (G00541.nibOn s f : Nat)) ∧ w' = w := by
  go_enter Tryd.func65, Tryd.ntmps65
  go_wp2
  go_ret
  exact ⟨ret_int (four_val s f hs hf), rfl⟩
theorem four_any (s f : Int) (w : World) (hT : Tab w) (h0 : 0 ≤ s) (hs : s < 65536) (g0 : 0 ≤ f) (hf : f < 16) :
    Calls Tryd.prog 65 #[.int .i64 s, .int .i64 f] w fun e w' => e = .returned (.int .i64 (G00541.nibOn s.toNat f.toNat : Nat)) ∧ w' = w := by
  obtain ⟨s, rfl⟩ := Int.eq_ofNat_of_zero_le h0
  obtain ⟨f, rfl⟩ := Int.eq_ofNat_of_zero_le g0
  rw [Int.toNat_natCast, Int.toNat_natCast]
  exact four_nat s f w (by omega) (by omega) (hT _ (by omega))
theorem btake_snoc (s : ByteArray) (k : Nat) (h : k < s.size) : s.data.toList.take (k + 1) = s.data.toList.take k ++ [s[k]] := by
  rw [List.take_succ_eq_append_getElem (by simpa using h)]; rfl
set_option maxHeartbeats 400000 in
theorem isSum_yes (n : Int) (w : World) (h0 : 0 ≤ n) (h1 : n < 65536) : Calls Tryd.prog 64 #[.int .i64 n] w fun e w' => e = .returned (.bool true) ∧ w' = w := by
  go_enter Tryd.func64, Tryd.ntmps64
  go_wp2
  go_ret
  exact ⟨rfl, rfl⟩
set_option maxHeartbeats 400000 in
theorem isSum_no (n : Int) (w : World) (h : n < 0 ∨ 65536 ≤ n) : Calls Tryd.prog 64 #[.int .i64 n] w fun e w' => e = .returned (.bool false) ∧ w' = w := by
  rcases h with h | h
  · have hd : decide (0 ≤ n) = false := by simp; omega
    go_enter Tryd.func64, Tryd.ntmps64
    go_wp2
    go_ret
    exact ⟨rfl, rfl⟩
  · have hd : decide (n < 65536) = false := by simp; omega
    go_enter Tryd.func64, Tryd.ntmps64
    go_wp2
    go_ret
    exact ⟨rfl, rfl⟩
set_option maxHeartbeats 400000 in
theorem implOn_good (n : Nat) (s : ByteArray) (w : World) (hT : Tab w) (hn : n < 65536) (hs : s.size ≤ 400) :
    Calls Tryd.prog 61 #[.int .i64 n, .string s] w fun e w' => e = .returned (.tuple #[.int .i64 (G00541.sumOn n s.data.toList : Nat), .bool true]) ∧ w' = w := by
  have hd : decide ((400 : Int) < (s.size : Int)) = false := by simp; omega
  go_enter Tryd.func61, Tryd.ntmps61
  go_wp2_with (go_at_call 64; refine (isSum_yes _ _ (by omega) (by omega)).mono ?_; rintro e w' ⟨rfl, rfl⟩)
  go_loop [0, 17] (fun t i => ∃ k : Nat, k ≤ s.size ∧ i = .int .i64 k ∧ t = .int .i64 (G00541.sumOn n (s.data.toList.take k) : Nat)) (fun _ i => s.size - (intOf i).toNat)
  case atStart => exact ⟨0, Nat.zero_le _, rfl, rfl⟩
  case round =>
    obtain ⟨k, hk, rfl, rfl⟩ := hrel
    have hl := G00541.sumOn_lt (s.data.toList.take k) n hn
    by_cases hlt : k < s.size
    · have HS : Hid (G00541.sumOn n (s.data.toList.take (k + 1)) = G00541.byteOn (G00541.sumOn n (s.data.toList.take k)) s[k].toNat) := by rw [btake_snoc s k hlt]; exact G00541.sumOn_snoc _ _ _
      generalize G00541.sumOn n (s.data.toList.take k) = t at *
      have hb : s[k].toNat < 256 := s[k].toNat_lt
      have hn1 := G00541.nibOn_lt t (s[k].toNat / 16) hl
      have hn2 := G00541.nibOn_lt (G00541.nibOn t (s[k].toNat / 16)) (s[k].toNat % 16) hn1
      go_wp2_with (go_at_call 65; refine (four_any _ _ _ hT (by omega) (by omega) (by omega) (by omega)).mono ?_; rintro e w' ⟨rfl, rfl⟩)
      go_round
      case rel => exact ⟨k + 1, by omega, by go_num, by rw [HS.out]; unfold G00541.byteOn; rfl⟩
      case measure => simp [intOf]; omega
    · go_wp2
      go_ret2
      exact ⟨ret_two (by rw [List.take_of_length_le (by simp; omega)]) rfl, rfl⟩
end Go.Proofs.YthoeffbefmhkjaaDoor
namespace Go.Proofs.YthoeffbefmhkjaaDoor
open Go Go.RowKit
structure ByteRow (B : Nat) (l : List UInt8) (w : World) : Prop where
  lt : B < w.heap.size
  cell : ∀ j (hj : j < l.length), w.cell? ⟨B, j, none⟩ = some (.int .u8 (l[j].toNat : Int))
  free : ∀ j, j < l.length → w.frozen? ⟨B, j, none⟩ = false
theorem ByteRow.drew {B : Nat} {l : List UInt8} {w : World} (h : ByteRow B l w) : ByteRow B l w.drew :=
  ⟨by go_simp; exact h.lt, fun j hj => by go_simp; exact h.cell j hj, fun j hj => by go_simp; exact h.free j hj⟩
theorem ByteRow.set {B : Nat} {l : List UInt8} {w : World} (h : ByteRow B l w) (k : Nat) (hk : k < l.length) (x : UInt8) : ByteRow B (l.set k x) (w.setCell ⟨B, k, none⟩ (.int .u8 (x.toNat : Int))) := by
  refine ⟨?_, ?_, ?_⟩
  · go_simp; exact h.lt
  · intro j hj
    have hj' : j < l.length := by simpa using hj
    by_cases e : k = j
    · subst e
      rw [List.getElem_set_self]
      exact World.cell?_setCell_same _ _ _ (h.cell k hk)
    · rw [List.getElem_set_ne e, ← h.cell j hj']
      exact World.cell?_setCell_other _ _ _ _ (by simp only [ne_eq, Addr.mk.injEq, true_and, and_true]; exact e)
  · intro j hj
    have hj' : j < l.length := by simpa using hj
    rw [World.frozen?_setCell]
    exact h.free j hj'
theorem ByteRow.below {B : Nat} {l : List UInt8} {w w' : World} (h : ByteRow B l w) (hb : Below w.heap.size w w') : ByteRow B l w' :=
  ⟨Nat.lt_of_lt_of_le h.lt hb.size, fun j hj => (hb.cell (p := ⟨B, j, none⟩) h.lt).trans (h.cell j hj), fun j hj => (hb.frozen (p := ⟨B, j, none⟩) h.lt).trans (h.free j hj)⟩
/-- the row behind '[]byte(s)' -/
theorem ByteRow.ofString (w : World) (s : ByteArray) : ByteRow w.heap.size s.data.toList (Lib.bytesWorld w 5 s) := by
  refine ⟨by rw [Lib.bytesWorld_size]; omega, fun j hj => ?_, fun j hj => ?_⟩
  · rw [Lib.bytesWorld_cell w 5 s j (by simpa using hj), List.getD_eq_getElem?_getD, List.getElem?_eq_getElem hj]; rfl
  · have hc : j < (Lib.bytesCells w 5 s).size := by
      simp [Lib.bytesCells]
      have : j < s.size := by simpa using hj
      omega
    unfold World.frozen?
    rw [Lib.bytesWorld_at_new]
    simp
    omega
theorem bytesWorld_below (w : World) (s : ByteArray) : Below w.heap.size w (Lib.bytesWorld w 5 s) :=
  ⟨rfl, rfl, rfl, by rw [Lib.bytesWorld_size]; omega, fun k hk => Lib.bytesWorld_at_old w 5 s k hk⟩
theorem made_get (n j : Nat) (hj : j < n) : (madeCells (Value.int .u8 0).cells n)[j]? = some (.int .u8 0) := by
  simp [madeCells, hj, Value.cells]
  rw [Nat.mod_one]
  rfl
/-- the row behind 'make([]byte, n)' -/
theorem ByteRow.made (w : World) (n : Nat) : ByteRow w.heap.size (List.replicate n 0) (w.alloc (.cells (madeCells (Value.int .u8 0).cells n) 5)) := by
  refine ⟨by go_simp, fun j hj => ?_, fun j hj => ?_⟩
  · have hj' : j < n := by simpa using hj
    rw [World.cell?_alloc_new, made_get n j hj']
    simp
  · go_simp
/-- two rows joined at a place, and the store that moves the place on -/
theorem mix_set (X Y : List UInt8) (k : Nat) (hX : k < X.length) (hY : Y.length = X.length) : (X.take k ++ Y.drop k).set k (X[k]) = X.take (k + 1) ++ Y.drop (k + 1) := by
  apply List.ext_getElem?
  intro i
  rw [List.getElem?_set]
  by_cases e : k = i
  · subst e
    have h1 : k < (X.take k ++ Y.drop k).length := by simp; omega
    rw [if_pos rfl, if_pos h1, List.getElem?_append_left (by simp; omega), List.getElem?_take, if_pos (by omega), List.getElem?_eq_getElem hX]
  · rw [if_neg e]
    by_cases hi : i < k
    · rw [List.getElem?_append_left (by simp; omega), List.getElem?_append_left (by simp; omega), List.getElem?_take, List.getElem?_take, if_pos hi, if_pos (by omega)]
    · rw [List.getElem?_append_right (by simp; omega), List.getElem?_append_right (by simp; omega), List.getElem?_drop, List.getElem?_drop]
      congr 1
      simp
      omega
theorem mix_length (X Y : List UInt8) (k : Nat) (hk : k ≤ X.length) (hY : Y.length = X.length) : (X.take k ++ Y.drop k).length = X.length := by simp; omega
theorem mix_at (X Y : List UInt8) (k : Nat) (hk : k < X.length) (hY : Y.length = X.length) (h : k < (X.take k ++ Y.drop k).length) : (X.take k ++ Y.drop k)[k] = Y[k] := by
  rw [List.getElem_append_right (by simp; omega), List.getElem_drop]
  congr 1
  simp
  omega
theorem ByteRow.step {B : Nat} {X Y : List UInt8} {k : Nat} {w : World} (h : ByteRow B (X.take k ++ Y.drop k) w) (hX : k < X.length) (hY : Y.length = X.length) {v : Int} (hv : v = (X[k].toNat : Int)) :
    ByteRow B (X.take (k + 1) ++ Y.drop (k + 1)) (w.setCell ⟨B, k, none⟩ (.int .u8 v)).drew := by
  rw [hv, ← mix_set X Y k hX hY]
  exact (h.set k (by rw [mix_length X Y k (by omega) hY]; exact hX) _).drew
theorem ByteRow.back {P : Program} {B n cap : Nat} {l : List UInt8} {w : World} (h : ByteRow B l w) (hn : n = l.length) (src dst : TypeId)
    (hs : P.underlying src = some (.slice 5)) (he : P.underlying 5 = some (.int .u8)) (hd : P.underlying dst = some .string) :
    Sem.run P (convert src dst (.slice (some ⟨B, 0, none⟩) n cap)) w = .ok (.string ⟨l.toArray⟩) w := by
  subst hn
  refine run_convert_bytes_back w src dst 5 ⟨B, 0, none⟩ cap l hs he hd (fun j hj => ?_)
  have e : (⟨B, 0, none⟩ : Addr).add j = ⟨B, j, none⟩ := by simp [Addr.add]; omega
  rw [e]
  exact h.cell j hj
theorem mix_end (X Y : List UInt8) (k : Nat) (h : X.length ≤ k) (hY : Y.length = X.length) : X.take k ++ Y.drop k = X := by
  rw [List.take_of_length_le h, List.drop_of_length_le (by omega), List.append_nil]
theorem xor_u8 (x y : UInt8) : bits .xor .u8 (x.toNat : Int) (y.toNat : Int) = ((x ^^^ y).toNat : Int) := by
  have hx := x.toNat_lt
  have hy := y.toNat_lt
  rw [u8_xor_nat _ _ (by omega) (by omega), UInt8.toNat_xor]
end Go.Proofs.YthoeffbefmhkjaaDoor
namespace Go.Proofs.YthoeffbefmhkjaaDoor
open Go Go.RowKit
/-- what was there stands as it stood, but for block B -/
structure But (B : Nat) (w w' : World) : Prop where
  os : w'.os = w.os
  tape : w'.tape = w.tape
  output : w'.output = w.output
  size : w.heap.size ≤ w'.heap.size
  block : ∀ k, k < w.heap.size → k ≠ B → w'.heap[k]? = w.heap[k]?
theorem But.refl (B : Nat) (w : World) : But B w w := ⟨rfl, rfl, rfl, Nat.le_refl _, fun _ _ _ => rfl⟩
theorem But.trans {B : Nat} {w w1 w2 : World} (h : But B w w1) (g : But B w1 w2) : But B w w2 :=
  ⟨g.os.trans h.os, g.tape.trans h.tape, g.output.trans h.output, Nat.le_trans h.size g.size, fun k hk hB => (g.block k (Nat.lt_of_lt_of_le hk h.size) hB).trans (h.block k hk hB)⟩
theorem But.ofBelow {B : Nat} {w w' : World} (h : Below w.heap.size w w') : But B w w' :=
  ⟨h.os, h.tape, h.output, h.size, fun k hk _ => h.block k hk⟩
theorem But.below {B B0 : Nat} {w w' : World} (h : But B w w') (h1 : B0 ≤ B) (h2 : B0 ≤ w.heap.size) : Below B0 w w' :=
  ⟨h.os, h.tape, h.output, h.size, fun k hk => h.block k (by omega) (by omega)⟩
theorem But.setCell {B : Nat} {w w' : World} (h : But B w w') (i : Nat) (v : Value) : But B w (w'.setCell ⟨B, i, none⟩ v) :=
  ⟨by rw [← h.os]; rfl, by rw [← h.tape]; rfl, by rw [← h.output]; rfl, by have := h.size; simpa [World.setCell] using this, fun k hk hB => by
    rw [← h.block k hk hB]
    have : B ≠ k := fun e => hB e.symm
    simp [World.setCell, Array.getElem?_modify, this]⟩
theorem But.drew {B : Nat} {w w' : World} (h : But B w w') : But B w w'.drew := ⟨h.os, h.tape, h.output, h.size, h.block⟩
theorem But.alloc {B : Nat} {w w' : World} (h : But B w w') (o : Obj) : But B w (w'.alloc o) :=
  ⟨h.os, h.tape, h.output, by have := h.size; simp; omega, fun k hk hB => (Below.heap_alloc _ _ _ (Nat.lt_of_lt_of_le hk h.size)).trans (h.block k hk hB)⟩
theorem But.setNew {B R : Nat} {w w' : World} (h : But B w w') (hR : w.heap.size ≤ R) (i : Nat) (v : Value) : But B w (w'.setCell ⟨R, i, none⟩ v) :=
  ⟨h.os, h.tape, h.output, by have := h.size; simpa [World.setCell] using this, fun k hk hB => (Below.heap_setCell _ _ _ _ (by show k ≠ R; omega)).trans (h.block k hk hB)⟩
theorem byte_of (v : Int) (h0 : 0 ≤ v) (h1 : v < 256) : ∃ x : UInt8, v = (x.toNat : Int) :=
  ⟨UInt8.ofNat v.toNat, by rw [UInt8.toNat_ofNat_of_lt' (by show v.toNat < 256; omega)]; omega⟩
theorem But.cell {B : Nat} {w w' : World} (h : But B w w') (k i : Nat) (hk : k < w.heap.size) (hB : k ≠ B) : w'.cell? ⟨k, i, none⟩ = w.cell? ⟨k, i, none⟩ := by
  have := h.block k hk hB
  unfold World.cell?
  simp only [this]
theorem But.frozen {B : Nat} {w w' : World} (h : But B w w') (k i : Nat) (hk : k < w.heap.size) (hB : k ≠ B) : w'.frozen? ⟨k, i, none⟩ = w.frozen? ⟨k, i, none⟩ := by
  have := h.block k hk hB
  unfold World.frozen?
  simp only [this]
theorem ByteRow.but {R B : Nat} {l : List UInt8} {w w' : World} (h : ByteRow R l w) (g : But B w w') (hR : R ≠ B) : ByteRow R l w' :=
  ⟨Nat.lt_of_lt_of_le h.lt g.size, fun j hj => (g.cell R j h.lt hR).trans (h.cell j hj), fun j hj => (g.frozen R j h.lt hR).trans (h.free j hj)⟩
/-- a cursor at block B: the code, the place, the seed; the place at most N -/
structure Cur (B N : Nat) (sv : Value) (w : World) : Prop where
  lt : B < w.heap.size
  code : w.cell? ⟨B, 0, none⟩ = some sv
  place : ∃ p : Int, 0 ≤ p ∧ p ≤ N ∧ w.cell? ⟨B, 1, none⟩ = some (.int .i64 p)
  seed : ∃ s : Int, 0 ≤ s ∧ s < 18446744073709551616 ∧ w.cell? ⟨B, 2, none⟩ = some (.int .u64 s)
  free1 : w.frozen? ⟨B, 1, none⟩ = false
  free2 : w.frozen? ⟨B, 2, none⟩ = false
/-- a slice of bytes in memory below block B -/
structure Code (B len cap : Nat) (a : Option Addr) (w : World) : Prop where
  small : len ≤ 1048576
  cell : 0 < len → ∃ b off, a = some ⟨b, off, none⟩ ∧ b < B ∧ ∀ i, i < len → ∃ z : Int, 0 ≤ z ∧ z < 256 ∧ w.cell? ⟨b, off + i, none⟩ = some (.int .u8 z)
theorem Code.but {B B' len cap : Nat} {a : Option Addr} {w w' : World} (h : Code B len cap a w) (g : But B' w w') (h1 : B ≤ B') (h2 : B ≤ w.heap.size) : Code B len cap a w' := by
  refine ⟨h.small, fun h0 => ?_⟩
  obtain ⟨b, off, e, hb, hc⟩ := h.cell h0
  refine ⟨b, off, e, hb, fun i hi => ?_⟩
  obtain ⟨z, z0, z1, hz⟩ := hc i hi
  exact ⟨z, z0, z1, (g.cell b (off + i) (by omega) (by omega)).trans hz⟩
theorem Cur.below {B N : Nat} {sv : Value} {w w' : World} (h : Cur B N sv w) (g : Below w.heap.size w w') : Cur B N sv w' := by
  have hc : ∀ i, w'.cell? ⟨B, i, none⟩ = w.cell? ⟨B, i, none⟩ := fun i => g.cell (p := ⟨B, i, none⟩) h.lt
  have hf : ∀ i, w'.frozen? ⟨B, i, none⟩ = w.frozen? ⟨B, i, none⟩ := fun i => g.frozen (p := ⟨B, i, none⟩) h.lt
  obtain ⟨p, p0, p1, hp⟩ := h.place
  obtain ⟨s, s0, s1, hs⟩ := h.seed
  exact ⟨Nat.lt_of_lt_of_le h.lt g.size, (hc 0).trans h.code, ⟨p, p0, p1, (hc 1).trans hp⟩, ⟨s, s0, s1, (hc 2).trans hs⟩, (hf 1).trans h.free1, (hf 2).trans h.free2⟩
theorem Cur.but {B B' N : Nat} {sv : Value} {w w' : World} (h : Cur B N sv w) (g : But B' w w') (hB : B ≠ B') : Cur B N sv w' := by
  have hc : ∀ i, w'.cell? ⟨B, i, none⟩ = w.cell? ⟨B, i, none⟩ := fun i => g.cell B i h.lt hB
  have hf : ∀ i, w'.frozen? ⟨B, i, none⟩ = w.frozen? ⟨B, i, none⟩ := fun i => g.frozen B i h.lt hB
  obtain ⟨p, p0, p1, hp⟩ := h.place
  obtain ⟨s, s0, s1, hs⟩ := h.seed
  exact ⟨Nat.lt_of_lt_of_le h.lt g.size, (hc 0).trans h.code, ⟨p, p0, p1, (hc 1).trans hp⟩, ⟨s, s0, s1, (hc 2).trans hs⟩, (hf 1).trans h.free1, (hf 2).trans h.free2⟩
theorem Cur.mono {B N N' : Nat} {sv : Value} {w : World} (h : Cur B N sv w) (hN : N ≤ N') : Cur B N' sv w := by
  obtain ⟨p, p0, p1, hp⟩ := h.place
  exact ⟨h.lt, h.code, ⟨p, p0, by omega, hp⟩, h.seed, h.free1, h.free2⟩
theorem Cur.setOther {B N R : Nat} {sv : Value} {w : World} (h : Cur B N sv w) (hR : R ≠ B) (i : Nat) (v : Value) : Cur B N sv (w.setCell ⟨R, i, none⟩ v) :=
  h.but ((But.refl R w).setCell i v) (fun e => hR e.symm)
theorem Cur.alloc {B N : Nat} {sv : Value} {w : World} (h : Cur B N sv w) (o : Obj) : Cur B N sv (w.alloc o) := h.below ((Below.refl _ _).alloc (Nat.le_refl _) o)
/-- the cursor goes a place on -/
theorem Cur.step {B N : Nat} {sv : Value} {w : World} (h : Cur B N sv w) (p s : Int) (p0 : 0 ≤ p) (p1 : p ≤ N) (s0 : 0 ≤ s) (s1 : s < 18446744073709551616) :
    Cur B (N + 1) sv ((w.setCell ⟨B, 1, none⟩ (.int .i64 (p + 1))).setCell ⟨B, 2, none⟩ (.int .u64 s)) := by
  obtain ⟨q, _, _, hq⟩ := h.place
  obtain ⟨r, _, _, hr⟩ := h.seed
  have e12 : (⟨B, 1, none⟩ : Addr) ≠ ⟨B, 2, none⟩ := by simp
  have e10 : (⟨B, 1, none⟩ : Addr) ≠ ⟨B, 0, none⟩ := by simp
  have e20 : (⟨B, 2, none⟩ : Addr) ≠ ⟨B, 0, none⟩ := by simp
  have e21 : (⟨B, 2, none⟩ : Addr) ≠ ⟨B, 1, none⟩ := by simp
  refine ⟨by simpa [World.setCell] using h.lt, ?_, ⟨p + 1, by omega, by omega, ?_⟩, ⟨s, s0, s1, ?_⟩, ?_, ?_⟩
  · rw [World.cell?_setCell_other _ _ _ _ e20, World.cell?_setCell_other _ _ _ _ e10]; exact h.code
  · rw [World.cell?_setCell_other _ _ _ _ e21]; exact World.cell?_setCell_same _ _ _ hq
  · exact World.cell?_setCell_same _ _ _ ((World.cell?_setCell_other _ _ _ _ e12).trans hr)
  · rw [World.frozen?_setCell, World.frozen?_setCell]; exact h.free1
  · rw [World.frozen?_setCell, World.frozen?_setCell]; exact h.free2
theorem Cur.drew {B N : Nat} {sv : Value} {w : World} (h : Cur B N sv w) : Cur B N sv w.drew := ⟨h.lt, h.code, h.place, h.seed, h.free1, h.free2⟩
theorem Cur.start (sv : Value) (T : TypeId) (w : World) : Cur w.heap.size 0 sv (w.alloc (.cells #[sv, .int .i64 0, .int .u64 0] T)) :=
  ⟨by simp, by rw [World.cell?_alloc_new]; rfl, ⟨0, by omega, by omega, by rw [World.cell?_alloc_new]; rfl⟩, ⟨0, by omega, by omega, by rw [World.cell?_alloc_new]; rfl⟩, by go_simp, by go_simp⟩
theorem Code.start {len cap : Nat} {a : Option Addr} {w : World} (h : Code w.heap.size len cap a w) (o : Obj) : Code w.heap.size len cap a (w.alloc o) :=
  h.but ((But.refl w.heap.size _).alloc o) (Nat.le_refl _) (Nat.le_refl _)
theorem Code.below {B len cap : Nat} {a : Option Addr} {w w' : World} (h : Code B len cap a w) (g : Below B w w') : Code B len cap a w' := by
  refine ⟨h.small, fun h0 => ?_⟩
  obtain ⟨b, off, e, hb, hc⟩ := h.cell h0
  refine ⟨b, off, e, hb, fun i hi => ?_⟩
  obtain ⟨z, z0, z1, hz⟩ := hc i hi
  exact ⟨z, z0, z1, (g.cell (p := ⟨b, off + i, none⟩) hb).trans hz⟩
theorem Code.mono {B B' len cap : Nat} {a : Option Addr} {w : World} (h : Code B len cap a w) (hB : B ≤ B') : Code B' len cap a w :=
  ⟨h.small, fun h0 => by obtain ⟨b, off, e, hb, hc⟩ := h.cell h0; exact ⟨b, off, e, by omega, hc⟩⟩
theorem But.done {w w' : World} {o : Obj} (h : But w.heap.size (w.alloc o) w') : Below w.heap.size w w' :=
  ((Below.refl _ _).alloc (Nat.le_refl _) o).trans (h.below (Nat.le_refl _) (by simp))
end Go.Proofs.YthoeffbefmhkjaaDoor
namespace Go.Proofs.YthoeffbefmhkjaaDoor
set_option maxRecDepth 100000
open Go.ChangeShapes Go.WideShapes Go.ChangeAt Go.RowKit
theorem u64_ge (n : Int) : 0 ≤ IntKind.u64.wrap n := by rw [IntKind.wrap_u64]; omega
theorem u64_lt (n : Int) : IntKind.u64.wrap n < 18446744073709551616 := by rw [IntKind.wrap_u64]; omega
theorem and255 (x : Int) (h0 : 0 ≤ x) (h1 : x < 18446744073709551616) : 0 ≤ wrap64 (bits .and .u64 x 255) ∧ wrap64 (bits .and .u64 x 255) ≤ 255 := by
  obtain ⟨n, rfl⟩ := Int.eq_ofNat_of_zero_le h0
  rw [show (255 : Int) = ((255 : Nat) : Int) from rfl, u64_and_nat _ _ (by omega) (by decide), nat_mask8]
  unfold wrap64
  omega
set_option maxHeartbeats 1000000 in
theorem next_any (B N len cap : Nat) (a : Option Addr) (w : World) (hN : N ≤ 1000000) (hC : Cur B N (.slice a len cap) w) (hK : Code B len cap a w) :
    Calls Tryd.prog 54 #[.pointer (some ⟨B, 0, none⟩)] w fun e w' => ∃ v : Int, e = .returned (.int .i64 v) ∧ 0 ≤ v ∧ v ≤ 255 ∧ Cur B (N + 1) (.slice a len cap) w' ∧ But B w w' := by
  obtain ⟨p, p0, p1, hp⟩ := hC.place
  obtain ⟨s, s0, s1, hs⟩ := hC.seed
  have hc := hC.code
  have f1 := hC.free1
  have f2 := hC.free2
  have hsm := hK.small
  have HC : Hid (Cur B N (.slice a len cap) w) := hC
  have HS : Hid (s < 18446744073709551616) := s1
  by_cases hlt : p < len
  · obtain ⟨b, off, rfl, hb, hcells⟩ := hK.cell (by omega)
    obtain ⟨z, z0, z1, hz⟩ := hcells p.toNat (by omega)
    have hbB : b ≠ B := by omega
    clear hC hcells s1 hK
    go_enter Tryd.func54, Tryd.ntmps54
    go_wp2
    go_region
    go_wp2
    go_region
    go_wp2
    go_region
    go_wp2
    go_ret
    exact ⟨z, rfl, z0, by omega, ((HC.out.step p _ p0 p1 (u64_ge _) (u64_lt _)).drew.drew).drew, (((((But.refl _ _).setCell 1 _).setCell 2 _).drew).drew).drew⟩
  · have hd : decide (p < (len : Int)) = false := by simp; omega
    have he : decide (p + 1 ≤ (len : Int)) = false := by simp; omega
    clear hC hK s1
    go_enter Tryd.func54, Tryd.ntmps54
    go_wp2
    go_region
    go_wp2
    go_region
    go_wp2
    go_ret
    refine ⟨_, rfl, ?_, ?_, ((HC.out.step p _ p0 p1 (u64_ge _) (u64_lt _)).drew).drew, ((((But.refl _ _).setCell 1 _).setCell 2 _).drew).drew⟩
    · exact (and255 _ (by have := u64_ge (IntKind.u64.wrap (IntKind.u64.wrap (s * 6364136223846793005)) + 1442695040888963407); omega) (by have := u64_lt (IntKind.u64.wrap (IntKind.u64.wrap (s * 6364136223846793005)) + 1442695040888963407); omega)).1
    · exact (and255 _ (by have := u64_ge (IntKind.u64.wrap (IntKind.u64.wrap (s * 6364136223846793005)) + 1442695040888963407); omega) (by have := u64_lt (IntKind.u64.wrap (IntKind.u64.wrap (s * 6364136223846793005)) + 1442695040888963407); omega)).2
set_option maxHeartbeats 1000000 in
theorem pick_any (n : Int) (B N len cap : Nat) (a : Option Addr) (w : World) (n1 : 1 ≤ n) (n2 : n ≤ 100000) (hN : N ≤ 999998) (hC : Cur B N (.slice a len cap) w) (hK : Code B len cap a w) :
    Calls Tryd.prog 38 #[.pointer (some ⟨B, 0, none⟩), .int .i64 n] w fun e w' => ∃ v : Int, e = .returned (.int .i64 v) ∧ 0 ≤ v ∧ v < n ∧ Cur B (N + 2) (.slice a len cap) w' ∧ But B w w' := by
  by_cases h1 : n ≤ 1
  · have hd : decide (n ≤ 1) = true := by simpa using h1
    have HC : Hid (Cur B N (.slice a len cap) w) := hC
    clear hC hK
    go_enter Tryd.func38, Tryd.ntmps38
    go_wp2_with fail
    go_ret
    exact ⟨0, rfl, by omega, by omega, HC.out.mono (by omega), But.refl _ _⟩
  · have hd : decide (n ≤ 1) = false := by simpa using h1
    have hlt := hC.lt
    by_cases h2 : 200 < n
    · have he : decide (200 < n) = true := by simpa using h2
      have HC : Hid (Cur B N (.slice a len cap) w) := hC
      have HK : Hid (Code B len cap a w) := hK
      clear hC hK h1
      go_enter Tryd.func38, Tryd.ntmps38
      go_wp2_with fail
      refine (next_any B N len cap a _ (by omega) HC.out HK.out).mono ?_
      rintro e w1 ⟨v, rfl, v0, v1, hC1, hB1⟩
      have HC1 : Hid (Cur B (N + 1) (.slice a len cap) w1) := hC1
      have HB1 : Hid (But B w w1) := hB1
      clear hC1 hB1
      go_wp2_with fail
      refine (next_any B (N + 1) len cap a _ (by omega) HC1.out (HK.out.but HB1.out (Nat.le_refl _) (by omega))).mono ?_
      rintro e w2 ⟨u, rfl, u0, u1, hC2, hB2⟩
      have HC2 : Hid (Cur B (N + 1 + 1) (.slice a len cap) w2) := hC2
      have HB2 : Hid (But B w1 w2) := hB2
      clear hC2 hB2
      go_wp2
      go_ret
      exact ⟨_, rfl, Int.emod_nonneg _ (by omega), Int.emod_lt_of_pos _ (by omega), HC2.out, HB1.out.trans HB2.out⟩
    · have he : decide (200 < n) = false := by simpa using h2
      have HC : Hid (Cur B N (.slice a len cap) w) := hC
      have HK : Hid (Code B len cap a w) := hK
      clear hC hK
      go_enter Tryd.func38, Tryd.ntmps38
      go_wp2_with fail
      refine (next_any B N len cap a _ (by omega) HC.out HK.out).mono ?_
      rintro e w1 ⟨v, rfl, v0, v1, hC1, hB1⟩
      have HC1 : Hid (Cur B (N + 1) (.slice a len cap) w1) := hC1
      have HB1 : Hid (But B w w1) := hB1
      clear hC1 hB1
      go_wp2
      go_ret
      exact ⟨_, rfl, Int.emod_nonneg _ (by omega), Int.emod_lt_of_pos _ (by omega), HC1.out.mono (by omega), HB1.out⟩
set_option maxHeartbeats 1000000 in
theorem one_any (n : Int) (B N len cap : Nat) (a : Option Addr) (w : World) (n1 : 1 ≤ n) (n2 : n ≤ 100000) (hN : N ≤ 999998) (hC : Cur B N (.slice a len cap) w) (hK : Code B len cap a w) :
    Calls Tryd.prog 52 #[.pointer (some ⟨B, 0, none⟩), .int .i64 n] w fun e w' => ∃ v : Bool, e = .returned (.bool v) ∧ Cur B (N + 2) (.slice a len cap) w' ∧ But B w w' := by
  have HC : Hid (Cur B N (.slice a len cap) w) := hC
  have HK : Hid (Code B len cap a w) := hK
  clear hC hK
  go_enter Tryd.func52, Tryd.ntmps52
  go_wp2_with fail
  refine (pick_any _ B N len cap a _ n1 n2 hN HC.out HK.out).mono ?_
  rintro e w1 ⟨v, rfl, v0, v1, hC1, hB1⟩
  have HR : Hid (Cur B (N + 2) (.slice a len cap) w1 ∧ But B w w1) := ⟨hC1, hB1⟩
  clear hC1 hB1
  go_wp2
  go_ret
  exact ⟨_, rfl, HR.out.1, HR.out.2⟩
set_option maxHeartbeats 1000000 in
theorem among_any (zs : List Int) (kz L B N len cap c : Nat) (a : Option Addr) (w : World) (hkz : zs.length = kz) (z1 : 1 ≤ zs.length) (z2 : zs.length ≤ 1000) (hL : L < w.heap.size) (hLB : L ≠ B)
    (hz : ∀ i, i < zs.length → w.cell? ⟨L, i, none⟩ = some (.int .i64 (zs.getD i 0))) (hN : N ≤ 999998) (hC : Cur B N (.slice a len cap) w) (hK : Code B len cap a w) :
    Calls Tryd.prog 32 #[.pointer (some ⟨B, 0, none⟩), .slice (some ⟨L, 0, none⟩) kz c] w fun e w' => ∃ i : Nat, i < zs.length ∧ e = .returned (.int .i64 (zs.getD i 0)) ∧ Cur B (N + 2) (.slice a len cap) w' ∧ But B w w' := by
  subst hkz
  have HC : Hid (Cur B N (.slice a len cap) w) := hC
  have HK : Hid (Code B len cap a w) := hK
  have HZ : Hid (∀ i, i < zs.length → w.cell? ⟨L, i, none⟩ = some (.int .i64 (zs.getD i 0))) := hz
  clear hC hK hz
  go_enter Tryd.func32, Tryd.ntmps32
  go_wp2_with fail
  refine (pick_any _ B N len cap a _ (by omega) (by omega) hN HC.out HK.out).mono ?_
  rintro e w1 ⟨v, rfl, v0, v1, hC1, hB1⟩
  have hcell : w1.cell? ⟨L, v.toNat, none⟩ = some (.int .i64 (zs.getD v.toNat 0)) := (hB1.cell L v.toNat hL hLB).trans (HZ.out v.toNat (by omega))
  have HR : Hid (Cur B (N + 2) (.slice a len cap) w1 ∧ But B w w1) := ⟨hC1, hB1⟩
  have hvl : v.toNat < zs.length := by omega
  clear hC1 hB1
  generalize hzv : zs.getD v.toNat 0 = z at hcell
  have HZV : Hid (zs.getD v.toNat 0 = z) := hzv
  clear hzv
  go_wp2
  go_ret
  exact ⟨v.toNat, hvl, by rw [HZV.out]; rfl, HR.out.1, HR.out.2⟩
theorem lits_at (zs : List Int) (w : World) (i : Nat) (h : i < zs.length) : (w.alloc (.cells (zs.map (Value.int .i64)).toArray 3)).cell? ⟨w.heap.size, i, none⟩ = some (.int .i64 (zs.getD i 0)) := by
  rw [World.cell?_alloc_new]
  simp [h]
end Go.Proofs.YthoeffbefmhkjaaDoor
namespace Go.Proofs.YthoeffbefmhkjaaDoor
open Go Go.RowKit
theorem heap_last (w : World) (o : Obj) : (w.alloc o).heap[w.heap.size]? = some o := by
  show (w.heap.push o)[w.heap.size]? = _
  rw [Array.getElem?_push_size]
theorem heap_size (w : World) (o : Obj) : (w.alloc o).heap.size = w.heap.size + 1 := by simp
theorem heap_last2 (w : World) (a o : Obj) : ((w.alloc a).alloc o).heap[w.heap.size + 1]? = some o := by
  rw [← heap_size w a]; exact heap_last _ _
theorem heap_mid2 (w : World) (a o : Obj) : ((w.alloc a).alloc o).heap[w.heap.size]? = some a := by
  rw [Below.heap_alloc _ _ _ (by rw [heap_size]; omega)]; exact heap_last _ _
theorem heap_last3 (w : World) (a b o : Obj) : (((w.alloc a).alloc b).alloc o).heap[w.heap.size + 1 + 1]? = some o := by
  rw [← heap_size w a, ← heap_size (w.alloc a) b]; exact heap_last _ _
theorem heap_mid3 (w : World) (a b o : Obj) : (((w.alloc a).alloc b).alloc o).heap[w.heap.size + 1]? = some b := by
  rw [Below.heap_alloc _ _ _ (by rw [heap_size, heap_size]; omega)]; exact heap_last2 _ _ _
/-- a row that a call itself has made, at block R: s cells an element -/
structure GRow (R s : Nat) (rows : List (List Value)) (w : World) : Prop where
  lt : R < w.heap.size
  wide : ∀ i (hi : i < rows.length), rows[i].length = s
  cell : ∀ i (hi : i < rows.length) j, j < s → w.cell? ⟨R, i * s + j, none⟩ = rows[i][j]?
  free : ∀ j, j < rows.length * s → w.frozen? ⟨R, j, none⟩ = false
theorem at_inj {s i j k l : Nat} (hj : j < s) (hl : l < s) (h : i * s + j = k * s + l) : i = k ∧ j = l := by
  have h1 : (i * s + j) / s = i := by rw [Nat.mul_comm, Nat.mul_add_div (by omega), Nat.div_eq_of_lt hj]; rfl
  have h2 : (k * s + l) / s = k := by rw [Nat.mul_comm, Nat.mul_add_div (by omega), Nat.div_eq_of_lt hl]; rfl
  have e : i = k := by rw [← h1, h, h2]
  subst e
  omega
theorem at_lt {s i j n : Nat} (hi : i < n) (hj : j < s) : i * s + j < n * s := by
  have : (i + 1) * s ≤ n * s := Nat.mul_le_mul_right s hi
  rw [Nat.add_mul, Nat.one_mul] at this
  omega
theorem GRow.set {R s : Nat} {rows : List (List Value)} {w : World} (h : GRow R s rows w) (k j : Nat) (hk : k < rows.length) (hj : j < s) (v : Value) :
    GRow R s (rows.set k (rows[k].set j v)) (w.setCell ⟨R, k * s + j, none⟩ v) := by
  refine ⟨by simpa [World.setCell] using h.lt, ?_, ?_, ?_⟩
  · intro i hi
    have hi' : i < rows.length := by simpa using hi
    rw [List.getElem_set]
    split
    · rw [List.length_set]; exact h.wide k hk
    · exact h.wide i hi'
  · intro i hi l hl
    have hi' : i < rows.length := by simpa using hi
    by_cases e : i = k
    · subst e
      have hkey : (rows.set i (rows[i].set j v))[i] = rows[i].set j v := List.getElem_set_self _
      rw [hkey]
      by_cases e2 : l = j
      · subst e2
        have hw := h.wide i hi'
        have hc := h.cell i hi' l hl
        rw [List.getElem?_eq_getElem (by omega)] at hc
        rw [World.cell?_setCell_same _ _ _ hc, List.getElem?_set_self (by omega)]
      · rw [List.getElem?_set_ne (fun e3 => e2 e3.symm), ← h.cell i hi' l hl]
        exact World.cell?_setCell_other _ _ _ _ (fun e3 => by
          have h3 : i * s + j = i * s + l := congrArg Addr.off e3
          omega)
    · have hkey : (rows.set k (rows[k].set j v))[i] = rows[i] := List.getElem_set_ne (fun e3 => e e3.symm) _
      rw [hkey, ← h.cell i hi' l hl]
      exact World.cell?_setCell_other _ _ _ _ (fun e3 => by
        have h3 : k * s + j = i * s + l := congrArg Addr.off e3
        exact e (at_inj hj hl h3).1.symm)
  · intro l hl
    rw [World.frozen?_setCell]
    exact h.free l (by simpa using hl)
theorem GRow.drew {R s : Nat} {rows : List (List Value)} {w : World} (h : GRow R s rows w) : GRow R s rows w.drew := ⟨h.lt, h.wide, h.cell, h.free⟩
theorem GRow.below {R s : Nat} {rows : List (List Value)} {w w' : World} (h : GRow R s rows w) (hb : Below w.heap.size w w') : GRow R s rows w' :=
  ⟨Nat.lt_of_lt_of_le h.lt hb.size, h.wide, fun i hi j hj => (hb.cell (p := ⟨R, _, none⟩) h.lt).trans (h.cell i hi j hj), fun j hj => (hb.frozen (p := ⟨R, _, none⟩) h.lt).trans (h.free j hj)⟩
/-- nothing of block R has turned -/
theorem GRow.same {R s : Nat} {rows : List (List Value)} {w w' : World} (h : GRow R s rows w) (hs : w.heap.size ≤ w'.heap.size) (hb : w'.heap[R]? = w.heap[R]?) : GRow R s rows w' := by
  have hc : ∀ o, w'.cell? ⟨R, o, none⟩ = w.cell? ⟨R, o, none⟩ := fun o => by unfold World.cell?; simp only [hb]
  have hf : ∀ o, w'.frozen? ⟨R, o, none⟩ = w.frozen? ⟨R, o, none⟩ := fun o => by unfold World.frozen?; simp only [hb]
  exact ⟨Nat.lt_of_lt_of_le h.lt hs, h.wide, fun i hi j hj => (hc _).trans (h.cell i hi j hj), fun j hj => (hf _).trans (h.free j hj)⟩
/-- the row behind 'make([]T, n)': n elements, each its type's zero value -/
theorem GRow.made (w : World) (T : TypeId) (n : Nat) (z : Array Value) : GRow w.heap.size z.size (List.replicate n z.toList) (w.alloc (.cells (madeCells z (n * z.size)) T)) := by
  refine ⟨by go_simp, ?_, ?_, ?_⟩
  · intro i hi
    rw [List.getElem_replicate]; simp
  · intro i hi j hj
    have hi' : i < n := by simpa using hi
    have hlt := at_lt hi' hj
    rw [World.cell?_alloc_new, List.getElem_replicate]
    have e : (i * z.size + j) % z.size = j := by rw [Nat.mul_comm, Nat.mul_add_mod, Nat.mod_eq_of_lt hj]
    simp [madeCells, hlt, e, hj]
  · intro j hj
    go_simp
/-- a slice of structs that came in, in memory below block B -/
structure GSl (B s : Nat) (a : Option Addr) (rows : List (List Value)) (w : World) : Prop where
  cell : 0 < rows.length → ∃ b off, a = some ⟨b, off, none⟩ ∧ b < B ∧ ∀ i (hi : i < rows.length) j, j < s → w.cell? ⟨b, off + i * s + j, none⟩ = rows[i][j]?
theorem GSl.below {B s : Nat} {a : Option Addr} {rows : List (List Value)} {w w' : World} (h : GSl B s a rows w) (g : Below B w w') : GSl B s a rows w' := by
  refine ⟨fun h0 => ?_⟩
  obtain ⟨b, off, e, hb, hc⟩ := h.cell h0
  exact ⟨b, off, e, hb, fun i hi j hj => (g.cell (p := ⟨b, _, none⟩) hb).trans (hc i hi j hj)⟩
theorem GSl.mono {B B' s : Nat} {a : Option Addr} {rows : List (List Value)} {w : World} (h : GSl B s a rows w) (hB : B ≤ B') : GSl B' s a rows w :=
  ⟨fun h0 => by obtain ⟨b, off, e, hb, hc⟩ := h.cell h0; exact ⟨b, off, e, by omega, hc⟩⟩
/-- a made row read as a slice -/
theorem GRow.sl {R s B : Nat} {rows : List (List Value)} {w : World} (h : GRow R s rows w) (hB : R < B) : GSl B s (some ⟨R, 0, none⟩) rows w :=
  ⟨fun _ => ⟨R, 0, rfl, hB, fun i hi j hj => by rw [Nat.zero_add]; exact h.cell i hi j hj⟩⟩
end Go.Proofs.YthoeffbefmhkjaaDoor
namespace G00541
open Go
theorem byteOn_zero (c : Nat) (h : c < 256) : byteOn 0 c = c := by
  have all : ∀ j : Fin 256, byteOn 0 j.val = j.val := by decide +kernel
  exact all ⟨c, h⟩
theorem nibOn_small (s f : Nat) (hs : s < 4096) (hf : f < 16) : nibOn s f = 16 * s + f := by
  rw [nibOn_tab s f (by omega) hf, show s % 4096 = s by omega, show s / 4096 = 0 by omega]
  show (16 * s + f) ^^^ 0 = _
  rw [Nat.xor_zero]
theorem byteOn_small (s c : Nat) (hs : s < 256) (hc : c < 256) : byteOn s c = 256 * s + c := by
  unfold byteOn
  rw [nibOn_small s (c / 16) (by omega) (by omega), nibOn_small _ _ (by omega) (by omega)]
  omega
theorem sum_two (a b : UInt8) : sumOn 0 [a, b] = 256 * a.toNat + b.toNat := by
  have ha := a.toNat_lt
  have hb := b.toNat_lt
  show byteOn (byteOn 0 a.toNat) b.toNat = _
  rw [byteOn_zero _ (by omega), byteOn_small _ _ (by omega) (by omega)]
theorem xor_cancel (x y : Nat) (h : x ^^^ y = 0) : x = y := by
  have e : x ^^^ y ^^^ y = 0 ^^^ y := by rw [h]
  rw [Nat.xor_assoc, Nat.xor_self, Nat.xor_zero, Nat.zero_xor] at e
  exact e
/-- two bytes behind a text leave no sum just where they are the sum of the text and two bytes 0 -/
theorem sum_end (l : List UInt8) (a b : UInt8) : sumOn 0 (l ++ [a, b]) = 0 ↔ sumOn 0 (l ++ [0, 0]) = 256 * a.toNat + b.toNat := by
  have hl := sumOn_lt l 0 (by decide)
  rw [sumOn_append, sumOn_append]
  have h := sumOn_zeros (sumOn 0 l) [a, b] hl
  rw [sum_two] at h
  have e : List.replicate [a, b].length (0 : UInt8) = [0, 0] := rfl
  rw [e] at h
  rw [← h]
  constructor
  · exact xor_cancel _ _
  · intro g; rw [g, Nat.xor_self]
/-- a text's two bytes of sum -/
def sumZZ (s : List UInt8) : Nat := sumOn 0 (s ++ [0, 0])
theorem sumZZ_lt (s : List UInt8) : sumZZ s < 65536 := sumOn_lt _ _ (by decide)
def withL (s : List UInt8) : List UInt8 := s ++ [UInt8.ofNat (sumZZ s / 256), UInt8.ofNat (sumZZ s % 256)]
theorem withL_len (s : List UInt8) : (withL s).length = s.length + 2 := by simp [withL]
theorem u8_of {n : Nat} (h : n < 256) : (UInt8.ofNat n).toNat = n := UInt8.toNat_ofNat_of_lt' (by show n < 256; exact h)
theorem u8_eq {a b : UInt8} (h : a.toNat = b.toNat) : a = b := UInt8.toNat.inj h
theorem withL_iff (l : List UInt8) (a b : UInt8) : withL l = l ++ [a, b] ↔ sumOn 0 (l ++ [a, b]) = 0 := by
  rw [sum_end]
  have hz := sumZZ_lt l
  have ha := a.toNat_lt
  have hb := b.toNat_lt
  constructor
  · intro h
    have h2 : [UInt8.ofNat (sumZZ l / 256), UInt8.ofNat (sumZZ l % 256)] = [a, b] := List.append_cancel_left h
    simp at h2
    obtain ⟨h3, h4⟩ := h2
    have e3 := u8_of (n := sumZZ l / 256) (by omega)
    have e4 := u8_of (n := sumZZ l % 256) (by omega)
    rw [h3] at e3
    rw [h4] at e4
    show sumZZ l = _
    omega
  · intro h
    have h' : sumZZ l = 256 * a.toNat + b.toNat := h
    unfold withL
    rw [u8_eq (a := UInt8.ofNat (sumZZ l / 256)) (b := a) (by rw [u8_of (by omega)]; omega), u8_eq (a := UInt8.ofNat (sumZZ l % 256)) (b := b) (by rw [u8_of (by omega)]; omega)]
/-- a record -/
structure Rc where
  kind : Int
  place : Int
  long : Int
  data : List UInt8
deriving DecidableEq
def zeroR : Rc := ⟨0, 0, 0, []⟩
def spanR (p n : Int) : Bool := decide (1 ≤ n ∧ n ≤ 4 ∧ 0 ≤ p ∧ p ≤ 16 - n)
def goodR (r : Rc) : Bool :=
  if r.kind = 1 then spanR r.place r.long && decide ((r.data.length : Int) = 2 * r.long)
  else if r.kind = 2 then spanR r.place r.long && decide (r.data = [])
  else if r.kind = 3 then decide (0 ≤ r.place ∧ r.place ≤ 200 ∧ r.long = 0 ∧ r.data = [])
  else false
theorem good_cases {r : Rc} (h : goodR r = true) : (r.kind = 1 ∨ r.kind = 2 ∨ r.kind = 3) ∧ 0 ≤ r.place ∧ r.place ≤ 200 ∧ 0 ≤ r.long ∧ r.long ≤ 4 ∧ r.data.length ≤ 8 ∧ (1 ≤ r.long → r.place ≤ 16 - r.long) ∧ (r.kind = 1 → (r.data.length : Int) = 2 * r.long) ∧ (r.kind = 3 → r.long = 0) ∧ (r.kind ≠ 3 → 1 ≤ r.long) ∧ (r.kind ≠ 1 → r.data = []) := by
  unfold goodR at h
  split at h
  · rename_i hk
    rw [Bool.and_eq_true] at h
    have h1 := of_decide_eq_true h.1
    have h2 := of_decide_eq_true h.2
    refine ⟨Or.inl hk, by omega, by omega, by omega, by omega, by omega, by omega, by omega, by omega, by omega, fun h => absurd hk h⟩
  · split at h
    · rename_i hk
      rw [Bool.and_eq_true] at h
      have h1 := of_decide_eq_true h.1
      have h2 := of_decide_eq_true h.2
      refine ⟨Or.inr (Or.inl hk), by omega, by omega, by omega, by omega, by rw [h2]; decide, by omega, by omega, by omega, by omega, fun _ => h2⟩
    · split at h
      · rename_i hk
        have h1 := of_decide_eq_true h
        refine ⟨Or.inr (Or.inr hk), h1.1, h1.2.1, by omega, by omega, by rw [h1.2.2.2]; decide, by omega, by omega, by omega, fun h => absurd hk h, fun _ => h1.2.2.2⟩
      · cases h
def headL (r : Rc) : List UInt8 := [UInt8.ofNat r.kind.toNat, UInt8.ofNat r.place.toNat, UInt8.ofNat r.long.toNat]
def bodyL (r : Rc) : List UInt8 := headL r ++ r.data
/-- a record's text -/
def textL (r : Rc) : List UInt8 := UInt8.ofNat (withL (bodyL r)).length :: withL (bodyL r)
theorem bodyL_len (r : Rc) : (bodyL r).length = 3 + r.data.length := by simp [bodyL, headL]; omega
theorem textL_len (r : Rc) : (textL r).length = 6 + r.data.length := by
  unfold textL
  rw [List.length_cons, withL_len, bodyL_len]; omega
/-- what lies in a piece t between a record's length and the next record, if t is long enough -/
def pieceR (t : List UInt8) : Rc := ⟨((t.getD 0 0).toNat : Int), ((t.getD 1 0).toNat : Int), ((t.getD 2 0).toNat : Int), (t.drop 3).take (t.length - 5)⟩
/-- the record that stands at place p of s, and the place behind -/
def readR (s : List UInt8) (p : Nat) : Option (Rc × Nat) :=
  if p < s.length then
    let n := (s.getD p 0).toNat
    let t := (s.drop (p + 1)).take n
    if 5 ≤ n ∧ n ≤ s.length - p - 1 ∧ goodR (pieceR t) = true ∧ sumOn 0 t = 0 then some (pieceR t, p + 1 + n) else none
  else none
theorem u8_back (a : UInt8) : UInt8.ofNat ((a.toNat : Int)).toNat = a := by simp
theorem piece_body (t : List UInt8) (h : 5 ≤ t.length) : bodyL (pieceR t) = t.take (t.length - 2) := by
  match t, h with
  | a :: b :: c :: t, h =>
    simp only [bodyL, headL, pieceR, List.getD_cons_zero, List.getD_cons_succ, u8_back, List.length_cons, List.drop_succ_cons, List.drop_zero] at *
    rw [show t.length + 1 + 1 + 1 - 5 = t.length - 2 by omega, show t.length + 1 + 1 + 1 - 2 = (t.length - 2) + 1 + 1 + 1 by omega]
    simp only [List.take_succ_cons]
    rfl
/-- the model's way to ask: the record's text is what stands there -/
theorem piece_text (t : List UInt8) (h : 5 ≤ t.length) : withL (bodyL (pieceR t)) = t ↔ sumOn 0 t = 0 := by
  rw [piece_body t h]
  have hs : t = t.take (t.length - 2) ++ [t[t.length - 2]'(by omega), t[t.length - 1]'(by omega)] := by
    conv => lhs; rw [← List.take_append_drop (t.length - 2) t]
    congr 1
    rw [List.drop_eq_getElem_cons (by omega), List.drop_eq_getElem_cons (by omega)]
    congr 2
    · congr 1; omega
    · rw [List.drop_of_length_le (by omega)]
  generalize t.take (t.length - 2) = l at *
  generalize t[t.length - 2]'(by omega) = a at *
  generalize t[t.length - 1]'(by omega) = b at *
  rw [hs]
  exact withL_iff l a b
theorem piece_text1 (t : List UInt8) (h : 5 ≤ t.length) (h2 : t.length < 256) (x : UInt8) (hx : x.toNat = t.length) : textL (pieceR t) = x :: t ↔ sumOn 0 t = 0 := by
  rw [← piece_text t h]
  unfold textL
  constructor
  · intro g
    exact (List.cons.inj g).2
  · intro g
    rw [g, u8_eq (a := UInt8.ofNat t.length) (b := x) (by rw [u8_of h2, hx])]
theorem readR_some {s : List UInt8} {p : Nat} {r : Rc} {e : Nat} (h : readR s p = some (r, e)) : p + 6 ≤ e ∧ e ≤ s.length ∧ goodR r = true := by
  unfold readR at h
  split at h
  · rename_i hp
    simp only at h
    split at h
    · rename_i hc
      obtain ⟨h1, h2, h3, h4⟩ := hc
      rw [Option.some.injEq, Prod.mk.injEq] at h
      obtain ⟨rfl, rfl⟩ := h
      exact ⟨by omega, by omega, h3⟩
    · cases h
  · cases h
/-- all records from place p on, and the place where none stands -/
def readsR (s : List UInt8) : Nat → Nat → List Rc × Nat
  | 0, p => ([], p)
  | f + 1, p => match readR s p with
    | none => ([], p)
    | some (r, e) => (r :: (readsR s f e).1, (readsR s f e).2)
theorem readsR_none {s : List UInt8} {f p : Nat} (h : readR s p = none) : readsR s f p = ([], p) := by
  cases f with
  | zero => rfl
  | succ f => show (match readR s p with | none => ([], p) | some (r, e) => (r :: (readsR s f e).1, (readsR s f e).2)) = _; rw [h]
theorem readsR_some {s : List UInt8} {f p e : Nat} {r : Rc} (h : readR s p = some (r, e)) : readsR s (f + 1) p = (r :: (readsR s f e).1, (readsR s f e).2) := by
  show (match readR s p with | none => ([], p) | some (r, e) => (r :: (readsR s f e).1, (readsR s f e).2)) = _; rw [h]
def allR (s : List UInt8) : List Rc × Nat := readsR s (s.length + 1) 0
/-- what a loop over the records keeps: l is read, p is the place behind -/
def Read (s : List UInt8) (l : List Rc) (p : Nat) : Prop := p ≤ s.length ∧ 6 * l.length ≤ p ∧ ∃ f, s.length < f + p ∧ allR s = (l ++ (readsR s f p).1, (readsR s f p).2)
theorem Read.start (s : List UInt8) : Read s [] 0 := ⟨Nat.zero_le _, Nat.le_refl _, s.length + 1, by omega, rfl⟩
theorem Read.step {s : List UInt8} {l : List Rc} {p e : Nat} {r : Rc} (h : Read s l p) (hr : readR s p = some (r, e)) : Read s (l ++ [r]) e := by
  obtain ⟨h1, h2, f, h3, h4⟩ := h
  have h5 := readR_some hr
  refine ⟨h5.2.1, by rw [List.length_append]; simp; omega, ?_⟩
  cases f with
  | zero => omega
  | succ f =>
    refine ⟨f, by omega, ?_⟩
    rw [h4, readsR_some hr]
    simp
theorem Read.done {s : List UInt8} {l : List Rc} {p : Nat} (h : Read s l p) (hr : readR s p = none) : allR s = (l, p) := by
  obtain ⟨h1, h2, f, h3, h4⟩ := h
  rw [h4, readsR_none hr]
  simp
theorem allR_end (s : List UInt8) : (allR s).2 ≤ s.length := by
  have key : ∀ f p, p ≤ s.length → (readsR s f p).2 ≤ s.length := by
    intro f
    induction f with
    | zero => intro p hp; exact hp
    | succ f ih =>
      intro p hp
      cases hr : readR s p with
      | none => rw [readsR_none hr]; exact hp
      | some x =>
        obtain ⟨r, e⟩ := x
        rw [readsR_some hr]
        exact ih e (readR_some hr).2.1
  exact key _ _ (Nat.zero_le _)
end G00541
namespace Go.Proofs.YthoeffbefmhkjaaDoor
open Go Go.RowKit G00541
def str (l : List UInt8) : ByteArray := ⟨l.toArray⟩
theorem str_size (l : List UInt8) : (str l).size = l.length := by simp [str, ByteArray.size]
theorem str_back (s : ByteArray) : str s.data.toList = s := by simp [str]
theorem str_list (l : List UInt8) : (str l).data.toList = l := by simp [str]
theorem bytes_size (s : ByteArray) : s.data.toList.length = s.size := Array.length_toList
def rcells (r : Rc) : List Value := [.int .i64 r.kind, .int .i64 r.place, .int .i64 r.long, .string (str r.data)]
def rval (r : Rc) : Value := .agg #[.int .i64 r.kind, .int .i64 r.place, .int .i64 r.long, .string (str r.data)]
/-- a slice of records in memory below block B -/
def Rs (B : Nat) (a : Option Addr) (l : List Rc) (w : World) : Prop := GSl B 4 a (l.map rcells) w
theorem Rs.cell {B : Nat} {a : Option Addr} {l : List Rc} {w : World} (h : Rs B a l w) (h0 : 0 < l.length) : ∃ b off, a = some ⟨b, off, none⟩ ∧ b < B ∧ ∀ i (hi : i < l.length), w.cell? ⟨b, off + i * 4, none⟩ = some (.int .i64 l[i].kind) ∧
    w.cell? ⟨b, off + i * 4 + 1, none⟩ = some (.int .i64 l[i].place) ∧ w.cell? ⟨b, off + i * 4 + 2, none⟩ = some (.int .i64 l[i].long) ∧ w.cell? ⟨b, off + i * 4 + 3, none⟩ = some (.string (str l[i].data)) := by
  obtain ⟨b, off, e, hb, hc⟩ := GSl.cell h (by simpa using h0)
  refine ⟨b, off, e, hb, fun i hi => ?_⟩
  have hi' : i < (l.map rcells).length := by simpa using hi
  have hr : (l.map rcells)[i] = rcells l[i] := List.getElem_map _
  have c0 := hc i hi' 0 (by decide)
  have c1 := hc i hi' 1 (by decide)
  have c2 := hc i hi' 2 (by decide)
  have c3 := hc i hi' 3 (by decide)
  rw [hr] at c0 c1 c2 c3
  exact ⟨c0, c1, c2, c3⟩
theorem Rs.below {B : Nat} {a : Option Addr} {l : List Rc} {w w' : World} (h : Rs B a l w) (g : Below B w w') : Rs B a l w' := GSl.below h g
theorem Rs.mono {B B' : Nat} {a : Option Addr} {l : List Rc} {w : World} (h : Rs B a l w) (hB : B ≤ B') : Rs B' a l w := GSl.mono h hB
/-- a row of records that a call itself has made -/
def RRow (R : Nat) (l : List Rc) (w : World) : Prop := GRow R 4 (l.map rcells) w
theorem RRow.lt {R : Nat} {l : List Rc} {w : World} (h : RRow R l w) : R < w.heap.size := GRow.lt h
theorem RRow.cell {R : Nat} {l : List Rc} {w : World} (h : RRow R l w) (i : Nat) (hi : i < l.length) : w.cell? ⟨R, i * 4, none⟩ = some (.int .i64 l[i].kind) ∧ w.cell? ⟨R, i * 4 + 1, none⟩ = some (.int .i64 l[i].place) ∧ w.cell? ⟨R, i * 4 + 2, none⟩ = some (.int .i64 l[i].long) ∧ w.cell? ⟨R, i * 4 + 3, none⟩ = some (.string (str l[i].data)) := by
  have hi' : i < (l.map rcells).length := by simpa using hi
  have hr : (l.map rcells)[i] = rcells l[i] := List.getElem_map _
  have c0 := GRow.cell h i hi' 0 (by decide)
  have c1 := GRow.cell h i hi' 1 (by decide)
  have c2 := GRow.cell h i hi' 2 (by decide)
  have c3 := GRow.cell h i hi' 3 (by decide)
  rw [hr] at c0 c1 c2 c3
  exact ⟨c0, c1, c2, c3⟩
theorem RRow.free {R : Nat} {l : List Rc} {w : World} (h : RRow R l w) (j : Nat) (hj : j < l.length * 4) : w.frozen? ⟨R, j, none⟩ = false := GRow.free h j (by simpa using hj)
theorem RRow.drew {R : Nat} {l : List Rc} {w : World} (h : RRow R l w) : RRow R l w.drew := GRow.drew h
theorem RRow.below {R : Nat} {l : List Rc} {w w' : World} (h : RRow R l w) (hb : Below w.heap.size w w') : RRow R l w' := GRow.below h hb
theorem RRow.same {R : Nat} {l : List Rc} {w w' : World} (h : RRow R l w) (hs : w.heap.size ≤ w'.heap.size) (hb : w'.heap[R]? = w.heap[R]?) : RRow R l w' := GRow.same h hs hb
theorem RRow.sl {R B : Nat} {l : List Rc} {w : World} (h : RRow R l w) (hB : R < B) : Rs B (some ⟨R, 0, none⟩) l w := GRow.sl h hB
theorem rmap_row (l : List Rc) (k : Nat) (hk : k < l.length) (hk' : k < (l.map rcells).length) (j : Nat) (v : Value) (z : Rc) (hz : (rcells l[k]).set j v = rcells z) :
    (l.map rcells).set k ((l.map rcells)[k].set j v) = (l.set k z).map rcells := by
  have hr : (l.map rcells)[k] = rcells l[k] := List.getElem_map _
  rw [hr, hz, List.map_set]
theorem RRow.setAt {R : Nat} {l : List Rc} {w : World} (h : RRow R l w) (k j : Nat) (hk : k < l.length) (hj : j < 4) (v : Value) (z : Rc) (hz : (rcells l[k]).set j v = rcells z) :
    RRow R (l.set k z) (w.setCell ⟨R, k * 4 + j, none⟩ v) := by
  have hk' : k < (l.map rcells).length := by simpa using hk
  have := GRow.set h k j hk' hj v
  rw [rmap_row l k hk hk' j v z hz] at this
  exact this
theorem RRow.set {R : Nat} {l : List Rc} {w : World} (h : RRow R l w) (k : Nat) (hk : k < l.length) (z : Rc) :
    RRow R (l.set k z) ((((w.setCell ⟨R, k * 4, none⟩ (.int .i64 z.kind)).setCell ⟨R, k * 4 + 1, none⟩ (.int .i64 z.place)).setCell ⟨R, k * 4 + 2, none⟩ (.int .i64 z.long)).setCell ⟨R, k * 4 + 3, none⟩ (.string (str z.data))) := by
  have h1 := h.setAt k 0 hk (by decide) (.int .i64 z.kind) ⟨z.kind, l[k].place, l[k].long, l[k].data⟩ rfl
  have h2 := h1.setAt k 1 (by simpa using hk) (by decide) (.int .i64 z.place) ⟨z.kind, z.place, l[k].long, l[k].data⟩ (by rw [List.getElem_set_self]; rfl)
  have h3 := h2.setAt k 2 (by simpa using hk) (by decide) (.int .i64 z.long) ⟨z.kind, z.place, z.long, l[k].data⟩ (by rw [List.getElem_set_self]; rfl)
  have h4 := h3.setAt k 3 (by simpa using hk) (by decide) (.string (str z.data)) z (by rw [List.getElem_set_self]; rfl)
  simpa using h4
theorem RRow.made (w : World) (n : Nat) : RRow w.heap.size (List.replicate n zeroR) (w.alloc (.cells (madeCells (Value.agg #[.int .i64 0, .int .i64 0, .int .i64 0, .string ⟨#[]⟩]).cells (n * 4)) 36)) := by
  have := GRow.made w 36 n #[.int .i64 0, .int .i64 0, .int .i64 0, .string ⟨#[]⟩]
  unfold RRow
  rw [List.map_replicate]
  exact this
theorem take_snoc {α : Type} (l : List α) (k : Nat) (h : k < l.length) : l.take (k + 1) = l.take k ++ [l[k]] := List.take_succ_eq_append_getElem h
/-- records that are owned in blocks lo .. hi - 1 (or none) -/
def OwnR (lo hi : Nat) (a : Option Addr) (l : List Rc) (w : World) : Prop := l = [] ∨ ∃ R, lo ≤ R ∧ R < hi ∧ a = some ⟨R, 0, none⟩ ∧ RRow R l w
theorem OwnR.below {lo hi : Nat} {a : Option Addr} {l : List Rc} {w w' : World} (h : OwnR lo hi a l w) (g : Below w.heap.size w w') : OwnR lo hi a l w' := by
  rcases h with h | ⟨R, h1, h3, e, hr⟩
  · exact Or.inl h
  · exact Or.inr ⟨R, h1, h3, e, hr.below g⟩
theorem OwnR.rs {lo hi : Nat} {a : Option Addr} {l : List Rc} {w : World} (h : OwnR lo hi a l w) : Rs w.heap.size a l w := by
  rcases h with rfl | ⟨R, h1, h3, rfl, hr⟩
  · exact ⟨fun h0 => absurd h0 (by simp)⟩
  · exact hr.sl hr.lt
end Go.Proofs.YthoeffbefmhkjaaDoor
namespace Go.Proofs.YthoeffbefmhkjaaDoor
set_option maxRecDepth 100000
open Go.ChangeShapes Go.WideShapes Go.ChangeAt Go.RowKit
set_option maxHeartbeats 400000 in
theorem l1In_yes (n lo hi : Int) (w : World) (h : lo ≤ n) (g : n ≤ hi) : Calls Tryd.prog 39 #[.int .i64 n, .int .i64 lo, .int .i64 hi] w fun e w' => e = .returned (.bool true) ∧ w' = w := by
  go_enter Tryd.func39, Tryd.ntmps39
  go_wp2
  go_ret
  exact ⟨rfl, rfl⟩
set_option maxHeartbeats 400000 in
theorem l1In_no (n lo hi : Int) (w : World) (h : n < lo ∨ hi < n) : Calls Tryd.prog 39 #[.int .i64 n, .int .i64 lo, .int .i64 hi] w fun e w' => e = .returned (.bool false) ∧ w' = w := by
  by_cases g : n < lo
  · have hd : decide (lo ≤ n) = false := by simp; omega
    go_enter Tryd.func39, Tryd.ntmps39
    go_wp2
    go_ret
    exact ⟨rfl, rfl⟩
  · have hd : decide (n ≤ hi) = false := by simp; omega
    go_enter Tryd.func39, Tryd.ntmps39
    go_wp2
    go_ret
    exact ⟨rfl, rfl⟩
end Go.Proofs.YthoeffbefmhkjaaDoor
namespace Go.Proofs.YthoeffbefmhkjaaDoor
set_option maxRecDepth 100000
open Go.ChangeShapes Go.WideShapes Go.ChangeAt Go.RowKit G00541
theorem ret_bool {a b : Bool} (h : a = b) : Ending.returned (.bool a) = .returned (.bool b) := by rw [h]
theorem span_yes {p n : Int} (h : 1 ≤ n ∧ n ≤ 4 ∧ 0 ≤ p ∧ p ≤ 16 - n) : spanR p n = true := decide_eq_true h
theorem span_no {p n : Int} (h : ¬ (1 ≤ n ∧ n ≤ 4 ∧ 0 ≤ p ∧ p ≤ 16 - n)) : spanR p n = false := decide_eq_false h
theorem empty_iff (D : ByteArray) : D.toList = [] ↔ D.data.toList = [] := by rw [ByteArray.toList_eq]
theorem not_empty {D : ByteArray} (h : ¬ D.data.toList = []) : D.toList.isEmpty = false := by
  cases hq : D.toList.isEmpty
  · rfl
  · exact absurd ((empty_iff D).1 (List.isEmpty_iff.1 hq)) h
set_option maxHeartbeats 400000 in
theorem where_any (k p n : Int) (D : ByteArray) (w : World) : Calls Tryd.prog 59 #[.agg #[.int .i64 k, .int .i64 p, .int .i64 n, .string D]] w fun e w' => e = .returned (.bool (spanR p n)) ∧ Below w.heap.size w w' := by
  by_cases h1 : 1 ≤ n ∧ n ≤ 4
  · obtain ⟨h1, h2⟩ := h1
    by_cases h3 : 0 ≤ p ∧ p ≤ 16 - n
    · rw [span_yes ⟨h1, h2, h3.1, h3.2⟩]
      obtain ⟨h3, h4⟩ := h3
      go_enter Tryd.func59, Tryd.ntmps59
      go_wp2_with (go_at_call 39; refine (l1In_yes _ _ _ _ (by omega) (by omega)).mono ?_; rintro e w' ⟨rfl, rfl⟩)
      go_ret
      exact ⟨rfl, (Below.refl _ _).alloc (Nat.le_refl _) _⟩
    · rw [span_no (fun h => h3 ⟨h.2.2.1, h.2.2.2⟩)]
      have h4 : p < 0 ∨ 16 - n < p := by omega
      clear h3
      go_enter Tryd.func59, Tryd.ntmps59
      go_wp2_with fail
      refine (l1In_yes _ _ _ _ (by omega) (by omega)).mono ?_
      rintro e w' ⟨rfl, rfl⟩
      go_wp2_with fail
      refine (l1In_no _ _ _ _ h4).mono ?_
      rintro e w' ⟨rfl, rfl⟩
      go_wp2
      go_ret
      exact ⟨rfl, (Below.refl _ _).alloc (Nat.le_refl _) _⟩
  · rw [span_no (fun h => h1 ⟨h.1, h.2.1⟩)]
    have h4 : n < 1 ∨ 4 < n := by omega
    clear h1
    go_enter Tryd.func59, Tryd.ntmps59
    go_wp2_with fail
    refine (l1In_no _ _ _ _ h4).mono ?_
    rintro e w' ⟨rfl, rfl⟩
    go_wp2
    go_ret
    exact ⟨rfl, (Below.refl _ _).alloc (Nat.le_refl _) _⟩
theorem good_one {p n : Int} {d : List UInt8} : goodR ⟨1, p, n, d⟩ = (spanR p n && decide ((d.length : Int) = 2 * n)) := rfl
theorem good_two {p n : Int} {d : List UInt8} : goodR ⟨2, p, n, d⟩ = (spanR p n && decide (d = [])) := rfl
theorem good_three {p n : Int} {d : List UInt8} : goodR ⟨3, p, n, d⟩ = decide (0 ≤ p ∧ p ≤ 200 ∧ n = 0 ∧ d = []) := rfl
theorem good_other {k p n : Int} {d : List UInt8} (h1 : k ≠ 1) (h2 : k ≠ 2) (h3 : k ≠ 3) : goodR ⟨k, p, n, d⟩ = false := by
  unfold goodR
  rw [if_neg h1, if_neg h2, if_neg h3]
theorem below_in {w w' : World} {o : Obj} (b : Below (w.alloc o).heap.size (w.alloc o) w') : Below w.heap.size w w' := ((Below.refl _ _).alloc (Nat.le_refl _) _).trans (b.mono (by simp))
set_option maxHeartbeats 400000 in
theorem sgood_out (k p n : Int) (D : ByteArray) (w : World) (hk : k = 1 ∨ k = 2) (hs : spanR p n = false) : Calls Tryd.prog 49 #[.agg #[.int .i64 k, .int .i64 p, .int .i64 n, .string D]] w fun e w' => e = .returned (.bool false) ∧ Below w.heap.size w w' := by
  have HW : Hid (∀ v, Calls Tryd.prog 59 #[.agg #[.int .i64 k, .int .i64 p, .int .i64 n, .string D]] v fun e w' => e = .returned (.bool false) ∧ Below v.heap.size v w') := fun v => by rw [← hs]; exact where_any k p n D v
  clear hs
  rcases hk with rfl | rfl
  all_goals
    go_enter Tryd.func49, Tryd.ntmps49
    go_wp2_with fail
    refine (HW.out _).mono ?_
    rintro e w1 ⟨rfl, b1⟩
    have HB : Hid (Below w.heap.size w w1) := below_in b1
    clear b1
    go_wp2
    go_ret
    exact ⟨rfl, HB.out⟩
set_option maxHeartbeats 400000 in
theorem sgood_one (p n : Int) (D : ByteArray) (w : World) (hs : spanR p n = true) (b : Bool) (hb : decide ((D.size : Int) = 2 * n) = b) : Calls Tryd.prog 49 #[.agg #[.int .i64 1, .int .i64 p, .int .i64 n, .string D]] w fun e w' => e = .returned (.bool b) ∧ Below w.heap.size w w' := by
  have h4 := of_decide_eq_true hs
  have HW : Hid (∀ v, Calls Tryd.prog 59 #[.agg #[.int .i64 1, .int .i64 p, .int .i64 n, .string D]] v fun e w' => e = .returned (.bool true) ∧ Below v.heap.size v w') := fun v => by rw [← hs]; exact where_any 1 p n D v
  have hq : ((D.size : Int) == 2 * n) = b := by rw [← hb]; rfl
  clear hs hb
  go_enter Tryd.func49, Tryd.ntmps49
  go_wp2_with fail
  refine (HW.out _).mono ?_
  rintro e w1 ⟨rfl, b1⟩
  have c2 : w1.cell? ⟨w.heap.size, 2, none⟩ = some (.int .i64 n) := by rw [b1.cell (p := ⟨w.heap.size, 2, none⟩) (by simp)]; go_simp
  have c3 : w1.cell? ⟨w.heap.size, 3, none⟩ = some (.string D) := by rw [b1.cell (p := ⟨w.heap.size, 3, none⟩) (by simp)]; go_simp
  have HB : Hid (Below w.heap.size w w1) := below_in b1
  clear b1
  go_wp2
  go_ret
  exact ⟨rfl, HB.out⟩
set_option maxHeartbeats 400000 in
theorem sgood_two (p n : Int) (D : ByteArray) (w : World) (hs : spanR p n = true) (b : Bool) (hb : decide (D.data.toList = []) = b) : Calls Tryd.prog 49 #[.agg #[.int .i64 2, .int .i64 p, .int .i64 n, .string D]] w fun e w' => e = .returned (.bool b) ∧ Below w.heap.size w w' := by
  have HW : Hid (∀ v, Calls Tryd.prog 59 #[.agg #[.int .i64 2, .int .i64 p, .int .i64 n, .string D]] v fun e w' => e = .returned (.bool true) ∧ Below v.heap.size v w') := fun v => by rw [← hs]; exact where_any 2 p n D v
  clear hs
  cases b
  · have hq := not_empty (of_decide_eq_false hb)
    clear hb
    go_enter Tryd.func49, Tryd.ntmps49
    go_wp2_with fail
    refine (HW.out _).mono ?_
    rintro e w1 ⟨rfl, b1⟩
    have c3 : w1.cell? ⟨w.heap.size, 3, none⟩ = some (.string D) := by rw [b1.cell (p := ⟨w.heap.size, 3, none⟩) (by simp)]; go_simp
    have HB : Hid (Below w.heap.size w w1) := below_in b1
    clear b1
    go_wp2
    go_ret
    exact ⟨rfl, HB.out⟩
  · have hq : D.toList = [] := (empty_iff D).2 (of_decide_eq_true hb)
    clear hb
    go_enter Tryd.func49, Tryd.ntmps49
    go_wp2_with fail
    refine (HW.out _).mono ?_
    rintro e w1 ⟨rfl, b1⟩
    have c3 : w1.cell? ⟨w.heap.size, 3, none⟩ = some (.string D) := by rw [b1.cell (p := ⟨w.heap.size, 3, none⟩) (by simp)]; go_simp
    have HB : Hid (Below w.heap.size w w1) := below_in b1
    clear b1
    go_wp2
    go_ret
    exact ⟨rfl, HB.out⟩
set_option maxHeartbeats 400000 in
theorem sgood_three (p n : Int) (D : ByteArray) (w : World) : Calls Tryd.prog 49 #[.agg #[.int .i64 3, .int .i64 p, .int .i64 n, .string D]] w fun e w' => e = .returned (.bool (goodR ⟨3, p, n, D.data.toList⟩)) ∧ Below w.heap.size w w' := by
  rw [good_three]
  by_cases hp : 0 ≤ p ∧ p ≤ 200
  · by_cases hn : n = 0
    · subst hn
      by_cases hd : D.data.toList = []
      · have hq : D.toList = [] := (empty_iff D).2 hd
        rw [decide_eq_true ⟨hp.1, hp.2, rfl, hd⟩]
        clear hd
        go_enter Tryd.func49, Tryd.ntmps49
        go_wp2_with (go_at_call 39; refine (l1In_yes _ _ _ _ hp.1 hp.2).mono ?_; rintro e w' ⟨rfl, rfl⟩)
        go_ret
        exact ⟨rfl, (Below.refl _ _).alloc (Nat.le_refl _) _⟩
      · have hq := not_empty hd
        rw [decide_eq_false (fun h => hd h.2.2.2)]
        clear hd
        go_enter Tryd.func49, Tryd.ntmps49
        go_wp2_with (go_at_call 39; refine (l1In_yes _ _ _ _ hp.1 hp.2).mono ?_; rintro e w' ⟨rfl, rfl⟩)
        go_ret
        exact ⟨rfl, (Below.refl _ _).alloc (Nat.le_refl _) _⟩
    · have hq : (n == 0) = false := by rw [beq_eq_false_iff_ne]; exact hn
      rw [decide_eq_false (fun h => hn h.2.2.1)]
      go_enter Tryd.func49, Tryd.ntmps49
      go_wp2_with (go_at_call 39; refine (l1In_yes _ _ _ _ hp.1 hp.2).mono ?_; rintro e w' ⟨rfl, rfl⟩)
      go_ret
      exact ⟨rfl, (Below.refl _ _).alloc (Nat.le_refl _) _⟩
  · rw [decide_eq_false (fun h => hp ⟨h.1, h.2.1⟩)]
    have h4 : p < 0 ∨ 200 < p := by omega
    clear hp
    go_enter Tryd.func49, Tryd.ntmps49
    go_wp2_with (go_at_call 39; refine (l1In_no _ _ _ _ h4).mono ?_; rintro e w' ⟨rfl, rfl⟩)
    go_ret
    exact ⟨rfl, (Below.refl _ _).alloc (Nat.le_refl _) _⟩
set_option maxHeartbeats 400000 in
theorem sgood_other (k p n : Int) (D : ByteArray) (w : World) (k1 : k ≠ 1) (k2 : k ≠ 2) (k3 : k ≠ 3) : Calls Tryd.prog 49 #[.agg #[.int .i64 k, .int .i64 p, .int .i64 n, .string D]] w fun e w' => e = .returned (.bool false) ∧ Below w.heap.size w w' := by
  have q1 : (k == 1) = false := by rw [beq_eq_false_iff_ne]; exact k1
  have q2 : (k == 2) = false := by rw [beq_eq_false_iff_ne]; exact k2
  have q3 : (k == 3) = false := by rw [beq_eq_false_iff_ne]; exact k3
  clear k1 k2 k3
  go_enter Tryd.func49, Tryd.ntmps49
  go_wp2
  go_ret
  exact ⟨rfl, (Below.refl _ _).alloc (Nat.le_refl _) _⟩
theorem sgood_any (k p n : Int) (D : ByteArray) (w : World) : Calls Tryd.prog 49 #[.agg #[.int .i64 k, .int .i64 p, .int .i64 n, .string D]] w fun e w' => e = .returned (.bool (goodR ⟨k, p, n, D.data.toList⟩)) ∧ Below w.heap.size w w' := by
  by_cases k1 : k = 1
  · subst k1
    rw [good_one, bytes_size]
    cases hs : spanR p n
    · exact sgood_out 1 p n D w (Or.inl rfl) hs
    · exact sgood_one p n D w hs _ rfl
  by_cases k2 : k = 2
  · subst k2
    rw [good_two]
    cases hs : spanR p n
    · exact sgood_out 2 p n D w (Or.inr rfl) hs
    · exact sgood_two p n D w hs _ rfl
  by_cases k3 : k = 3
  · subst k3
    exact sgood_three p n D w
  · rw [good_other k1 k2 k3]
    exact sgood_other k p n D w k1 k2 k3
end Go.Proofs.YthoeffbefmhkjaaDoor
namespace Go.Proofs.YthoeffbefmhkjaaDoor
set_option maxRecDepth 100000
open Go Go.RowKit G00541
def zrec : Value := .agg #[.int .i64 0, .int .i64 0, .int .i64 0, .string ⟨#[]⟩]
/-- block B is a record's place, all zero, and free -/
structure ZeroAt (w : World) (B : Nat) (v : World) : Prop where
  z0 : v.cell? ⟨B, 0, none⟩ = some (.int .i64 0)
  z1 : v.cell? ⟨B, 1, none⟩ = some (.int .i64 0)
  z2 : v.cell? ⟨B, 2, none⟩ = some (.int .i64 0)
  z3 : v.cell? ⟨B, 3, none⟩ = some (.string ⟨#[]⟩)
  f0 : v.frozen? ⟨B, 0, none⟩ = false
  f1 : v.frozen? ⟨B, 1, none⟩ = false
  f2 : v.frozen? ⟨B, 2, none⟩ = false
  f3 : v.frozen? ⟨B, 3, none⟩ = false
  bel : Below w.heap.size w v
  low : w.heap.size ≤ B
  lt : B < v.heap.size
theorem ZeroAt.below {w : World} {B : Nat} {v v' : World} (h : ZeroAt w B v) (g : Below v.heap.size v v') : ZeroAt w B v' := by
  have hc : ∀ i, v'.cell? ⟨B, i, none⟩ = v.cell? ⟨B, i, none⟩ := fun i => g.cell (p := ⟨B, i, none⟩) h.lt
  have hf : ∀ i, v'.frozen? ⟨B, i, none⟩ = v.frozen? ⟨B, i, none⟩ := fun i => g.frozen (p := ⟨B, i, none⟩) h.lt
  exact ⟨(hc 0).trans h.z0, (hc 1).trans h.z1, (hc 2).trans h.z2, (hc 3).trans h.z3, (hf 0).trans h.f0, (hf 1).trans h.f1, (hf 2).trans h.f2, (hf 3).trans h.f3,
    h.bel.trans (g.mono h.bel.size), h.low, Nat.lt_of_lt_of_le h.lt g.size⟩
theorem ZeroAt.drew {w : World} {B : Nat} {v : World} (h : ZeroAt w B v) : ZeroAt w B v.drew :=
  ⟨h.z0, h.z1, h.z2, h.z3, h.f0, h.f1, h.f2, h.f3, h.bel.drew, h.low, h.lt⟩
theorem ZeroAt.start (w : World) : ZeroAt w w.heap.size (w.alloc (.cells #[.int .i64 0, .int .i64 0, .int .i64 0, .string ⟨#[]⟩] 36)) :=
  ⟨by go_simp, by go_simp, by go_simp, by go_simp, by go_simp, by go_simp, by go_simp, by go_simp, (Below.refl _ _).alloc (Nat.le_refl _) _, Nat.le_refl _, by simp⟩
/-- block B holds a record -/
structure RecAt (B : Nat) (k p n : Int) (D : ByteArray) (v : World) : Prop where
  c0 : v.cell? ⟨B, 0, none⟩ = some (.int .i64 k)
  c1 : v.cell? ⟨B, 1, none⟩ = some (.int .i64 p)
  c2 : v.cell? ⟨B, 2, none⟩ = some (.int .i64 n)
  c3 : v.cell? ⟨B, 3, none⟩ = some (.string D)
  lt : B < v.heap.size
theorem RecAt.below {B : Nat} {k p n : Int} {D : ByteArray} {v v' : World} (h : RecAt B k p n D v) (g : Below v.heap.size v v') : RecAt B k p n D v' := by
  have hc : ∀ i, v'.cell? ⟨B, i, none⟩ = v.cell? ⟨B, i, none⟩ := fun i => g.cell (p := ⟨B, i, none⟩) h.lt
  exact ⟨(hc 0).trans h.c0, (hc 1).trans h.c1, (hc 2).trans h.c2, (hc 3).trans h.c3, Nat.lt_of_lt_of_le h.lt g.size⟩
theorem RecAt.drew {B : Nat} {k p n : Int} {D : ByteArray} {v : World} (h : RecAt B k p n D v) : RecAt B k p n D v.drew := ⟨h.c0, h.c1, h.c2, h.c3, h.lt⟩
theorem RecAt.start (k p n : Int) (D : ByteArray) (w : World) (T : TypeId) : RecAt w.heap.size k p n D (w.alloc (.cells #[.int .i64 k, .int .i64 p, .int .i64 n, .string D] T)) :=
  ⟨by go_simp, by go_simp, by go_simp, by go_simp, by simp⟩
theorem setFour {w v : World} (h : Below w.heap.size w v) {B : Nat} (hB : w.heap.size ≤ B) (a b c d : Value) : Below w.heap.size w ((((v.setCell ⟨B, 0, none⟩ a).setCell ⟨B, 1, none⟩ b).setCell ⟨B, 2, none⟩ c).setCell ⟨B, 3, none⟩ d) :=
  (((h.setCell hB _).setCell hB _).setCell hB _).setCell hB _
end Go.Proofs.YthoeffbefmhkjaaDoor
namespace Go.Proofs.YthoeffbefmhkjaaDoor
set_option maxRecDepth 100000
open Go.ChangeShapes Go.WideShapes Go.ChangeAt Go.RowKit G00541
/-- while a record is drawn: the cursor at B; the answer's place at X, all zero; the record at Y -/
structure Dr (w : World) (B N X Y len cap : Nat) (a : Option Addr) (k p n : Int) (D : ByteArray) (v : World) : Prop where
  cur : Cur B N (.slice a len cap) v
  code : Code B len cap a v
  z0 : v.cell? ⟨X, 0, none⟩ = some (.int .i64 0)
  z1 : v.cell? ⟨X, 1, none⟩ = some (.int .i64 0)
  z2 : v.cell? ⟨X, 2, none⟩ = some (.int .i64 0)
  z3 : v.cell? ⟨X, 3, none⟩ = some (.string ⟨#[]⟩)
  f0 : v.frozen? ⟨X, 0, none⟩ = false
  f1 : v.frozen? ⟨X, 1, none⟩ = false
  f2 : v.frozen? ⟨X, 2, none⟩ = false
  f3 : v.frozen? ⟨X, 3, none⟩ = false
  c0 : v.cell? ⟨Y, 0, none⟩ = some (.int .i64 k)
  c1 : v.cell? ⟨Y, 1, none⟩ = some (.int .i64 p)
  c2 : v.cell? ⟨Y, 2, none⟩ = some (.int .i64 n)
  c3 : v.cell? ⟨Y, 3, none⟩ = some (.string D)
  g0 : v.frozen? ⟨Y, 0, none⟩ = false
  g1 : v.frozen? ⟨Y, 1, none⟩ = false
  g2 : v.frozen? ⟨Y, 2, none⟩ = false
  g3 : v.frozen? ⟨Y, 3, none⟩ = false
  but : But B w v
  bx : w.heap.size ≤ X
  bY : w.heap.size ≤ Y
  ne : X ≠ Y
  bB : B < w.heap.size
  lx : X < v.heap.size
  ly : Y < v.heap.size
section
variable {w : World} {B N X Y len cap : Nat} {a : Option Addr} {k p n : Int} {D : ByteArray} {v : World}
theorem Dr.step {v' : World} {N' : Nat} (h : Dr w B N X Y len cap a k p n D v) (hC : Cur B N' (.slice a len cap) v') (g : But B v v') : Dr w B N' X Y len cap a k p n D v' := by
  have hX : X ≠ B := by have := h.bx; have := h.bB; omega
  have hY : Y ≠ B := by have := h.bY; have := h.bB; omega
  have x := fun i => g.cell X i h.lx hX
  have y := fun i => g.cell Y i h.ly hY
  have fx := fun i => g.frozen X i h.lx hX
  have fy := fun i => g.frozen Y i h.ly hY
  exact ⟨hC, h.code.but g (Nat.le_refl _) (by have := h.bx; have := h.bB; have := h.lx; omega), (x 0).trans h.z0, (x 1).trans h.z1, (x 2).trans h.z2, (x 3).trans h.z3, (fx 0).trans h.f0, (fx 1).trans h.f1, (fx 2).trans h.f2, (fx 3).trans h.f3,
    (y 0).trans h.c0, (y 1).trans h.c1, (y 2).trans h.c2, (y 3).trans h.c3, (fy 0).trans h.g0, (fy 1).trans h.g1, (fy 2).trans h.g2, (fy 3).trans h.g3, h.but.trans g, h.bx, h.bY, h.ne, h.bB, Nat.lt_of_lt_of_le h.lx g.size, Nat.lt_of_lt_of_le h.ly g.size⟩
theorem Dr.alloc (h : Dr w B N X Y len cap a k p n D v) (o : Obj) : Dr w B N X Y len cap a k p n D (v.alloc o) := h.step (h.cur.alloc o) ((But.refl B v).alloc o)
theorem Dr.drew (h : Dr w B N X Y len cap a k p n D v) : Dr w B N X Y len cap a k p n D v.drew := h.step h.cur.drew (But.refl B v).drew
theorem Dr.setY (h : Dr w B N X Y len cap a k p n D v) (i : Nat) (u : Value) {k' p' n' : Int} {D' : ByteArray}
    (h0 : (v.setCell ⟨Y, i, none⟩ u).cell? ⟨Y, 0, none⟩ = some (.int .i64 k')) (h1 : (v.setCell ⟨Y, i, none⟩ u).cell? ⟨Y, 1, none⟩ = some (.int .i64 p')) (h2 : (v.setCell ⟨Y, i, none⟩ u).cell? ⟨Y, 2, none⟩ = some (.int .i64 n')) (h3 : (v.setCell ⟨Y, i, none⟩ u).cell? ⟨Y, 3, none⟩ = some (.string D')) :
    Dr w B N X Y len cap a k' p' n' D' (v.setCell ⟨Y, i, none⟩ u) := by
  have g : But Y v (v.setCell ⟨Y, i, none⟩ u) := (But.refl Y v).setCell i u
  have hY : Y ≠ B := by have := h.bY; have := h.bB; omega
  have x := fun j => g.cell X j h.lx h.ne
  have fx := fun j => g.frozen X j h.lx h.ne
  have fy : ∀ j, (v.setCell ⟨Y, i, none⟩ u).frozen? ⟨Y, j, none⟩ = v.frozen? ⟨Y, j, none⟩ := fun j => World.frozen?_setCell ..
  exact ⟨h.cur.setOther hY i u, h.code.but g (by have := h.bY; have := h.bB; omega) (by have := h.bx; have := h.bB; have := h.lx; omega), (x 0).trans h.z0, (x 1).trans h.z1, (x 2).trans h.z2, (x 3).trans h.z3, (fx 0).trans h.f0, (fx 1).trans h.f1, (fx 2).trans h.f2, (fx 3).trans h.f3,
    h0, h1, h2, h3, (fy 0).trans h.g0, (fy 1).trans h.g1, (fy 2).trans h.g2, (fy 3).trans h.g3, h.but.setNew h.bY i u, h.bx, h.bY, h.ne, h.bB, Nat.lt_of_lt_of_le h.lx g.size, Nat.lt_of_lt_of_le h.ly g.size⟩
theorem ne_off {Y i j : Nat} (h : i ≠ j) : (⟨Y, i, none⟩ : Addr) ≠ ⟨Y, j, none⟩ := fun e => h (congrArg Addr.off e)
theorem Dr.setK (h : Dr w B N X Y len cap a k p n D v) (k' : Int) : Dr w B N X Y len cap a k' p n D (v.setCell ⟨Y, 0, none⟩ (.int .i64 k')) :=
  h.setY 0 _ (World.cell?_setCell_same _ _ _ h.c0) ((World.cell?_setCell_other _ _ _ _ (ne_off (by decide))).trans h.c1) ((World.cell?_setCell_other _ _ _ _ (ne_off (by decide))).trans h.c2) ((World.cell?_setCell_other _ _ _ _ (ne_off (by decide))).trans h.c3)
theorem Dr.setP (h : Dr w B N X Y len cap a k p n D v) (p' : Int) : Dr w B N X Y len cap a k p' n D (v.setCell ⟨Y, 1, none⟩ (.int .i64 p')) :=
  h.setY 1 _ ((World.cell?_setCell_other _ _ _ _ (ne_off (by decide))).trans h.c0) (World.cell?_setCell_same _ _ _ h.c1) ((World.cell?_setCell_other _ _ _ _ (ne_off (by decide))).trans h.c2) ((World.cell?_setCell_other _ _ _ _ (ne_off (by decide))).trans h.c3)
theorem Dr.setN (h : Dr w B N X Y len cap a k p n D v) (n' : Int) : Dr w B N X Y len cap a k p n' D (v.setCell ⟨Y, 2, none⟩ (.int .i64 n')) :=
  h.setY 2 _ ((World.cell?_setCell_other _ _ _ _ (ne_off (by decide))).trans h.c0) ((World.cell?_setCell_other _ _ _ _ (ne_off (by decide))).trans h.c1) (World.cell?_setCell_same _ _ _ h.c2) ((World.cell?_setCell_other _ _ _ _ (ne_off (by decide))).trans h.c3)
theorem Dr.setD (h : Dr w B N X Y len cap a k p n D v) (D' : ByteArray) : Dr w B N X Y len cap a k p n D' (v.setCell ⟨Y, 3, none⟩ (.string D')) :=
  h.setY 3 _ ((World.cell?_setCell_other _ _ _ _ (ne_off (by decide))).trans h.c0) ((World.cell?_setCell_other _ _ _ _ (ne_off (by decide))).trans h.c1) ((World.cell?_setCell_other _ _ _ _ (ne_off (by decide))).trans h.c2) (World.cell?_setCell_same _ _ _ h.c3)
theorem Dr.cast {N' : Nat} (e : N = N') (h : Dr w B N X Y len cap a k p n D v) : Dr w B N' X Y len cap a k p n D v := e ▸ h
/-- the answer is laid into its place -/
theorem Dr.fin (h : Dr w B N X Y len cap a k p n D v) {u0 u1 u2 u3 : Value} :
    Cur B N (.slice a len cap) ((((v.setCell ⟨X, 0, none⟩ u0).setCell ⟨X, 1, none⟩ u1).setCell ⟨X, 2, none⟩ u2).setCell ⟨X, 3, none⟩ u3) ∧ But B w ((((v.setCell ⟨X, 0, none⟩ u0).setCell ⟨X, 1, none⟩ u1).setCell ⟨X, 2, none⟩ u2).setCell ⟨X, 3, none⟩ u3) := by
  have hX : X ≠ B := by have := h.bx; have := h.bB; omega
  exact ⟨(((h.cur.setOther hX _ _).setOther hX _ _).setOther hX _ _).setOther hX _ _, (((h.but.setNew h.bx _ _).setNew h.bx _ _).setNew h.bx _ _).setNew h.bx _ _⟩
end
theorem bytes_two (w : World) (x y : Int) : Sem.run Tryd.prog (convert 22 9 (.slice (some ⟨w.heap.size, 0, none⟩) 2 2)) (w.alloc (.cells #[.int .u8 x, .int .u8 y] 5)) =
    .ok (.string (strOfNums [x, y])) (w.alloc (.cells #[.int .u8 x, .int .u8 y] 5)) :=
  run_convert_bytes_arg (w.alloc (.cells #[.int .u8 x, .int .u8 y] 5)) 22 5 Tryd.underlying22 Tryd.underlying5 w.heap.size 0 2 2 [x, y] rfl (fun i hi => by
    rcases (by omega : i = 0 ∨ i = 1) with rfl | rfl
    · go_simp
    · go_simp) 9 Tryd.underlying9
theorem size_two (x y : Int) : (strOfNums [x, y]).size = 2 := strOfNums_size _
theorem rv_eq (k p n : Int) (D : ByteArray) : Value.agg #[.int .i64 k, .int .i64 p, .int .i64 n, .string D] = rval ⟨k, p, n, D.data.toList⟩ := by unfold rval; rw [str_back]
theorem len_le {D : ByteArray} (h : D.size ≤ 8) : D.data.toList.length ≤ 9 := by rw [bytes_size]; omega
theorem len_le1 {D : ByteArray} (h : D.size ≤ 8) : (D ++ ⟨#[120]⟩ : ByteArray).data.toList.length ≤ 9 := by
  rw [bytes_size, ByteArray.size_append]
  show D.size + 1 ≤ 9
  omega
set_option maxHeartbeats 4000000 in
theorem record_any (B N len cap : Nat) (a : Option Addr) (w : World) (hN : N ≤ 900000) (hC : Cur B N (.slice a len cap) w) (hK : Code B len cap a w) :
    Calls Tryd.prog 51 #[.pointer (some ⟨B, 0, none⟩)] w fun e w' => ∃ r : Rc, e = .returned (rval r) ∧ r.data.length ≤ 9 ∧ Cur B (N + 40) (.slice a len cap) w' ∧ But B w w' := by
  have hlt := hC.lt
  have HC : Hid (∀ o1 o2, Cur B N (.slice a len cap) ((w.alloc o1).alloc o2)) := fun o1 o2 => (hC.alloc o1).alloc o2
  have HK : Hid (∀ o1 o2, Code B len cap a ((w.alloc o1).alloc o2)) := fun o1 o2 => hK.but (((But.refl B w).alloc o1).alloc o2) (Nat.le_refl _) (Nat.le_of_lt hC.lt)
  clear hC hK
  go_enter Tryd.func51, Tryd.ntmps51
  go_wp2_with fail
  refine (among_any [1, 1, 1, 2, 3] 5 (w.heap.size + 1) B N len cap 5 a _ rfl (by decide) (by decide) (by simp) (by omega) (fun i hi => by have := lits_at [1, 1, 1, 2, 3] (w.alloc (.cells #[.int .i64 0, .int .i64 0, .int .i64 0, .string ⟨#[]⟩] 36)) i hi; rw [heap_size] at this; exact this) (by omega) (HC.out _ _) (HK.out _ _)).mono ?_
  rintro e w1 ⟨i, hi, rfl, hC1, hB1⟩
  generalize ([1, 1, 1, 2, 3] : List Int).getD i 0 = rk at *
  have hs1 := hB1.size
  rw [heap_size, heap_size] at hs1
  have HC1 : Hid (Cur B (N + 2) (.slice a len cap) w1) := hC1
  have HB1 : Hid (But B (w.alloc (.cells #[.int .i64 0, .int .i64 0, .int .i64 0, .string ⟨#[]⟩] 36)) w1) := ((But.refl B _).alloc _).trans hB1
  have HK1 : Hid (Code B len cap a w1) := (HK.out _ _).but hB1 (Nat.le_refl _) (by rw [heap_size, heap_size]; omega)
  clear hC1 hB1 HC HK hi
  go_wp2_with fail
  refine (pick_any _ B _ len cap a _ (by omega) (by omega) (by omega) HC1.out HK1.out).mono ?_
  rintro e w2 ⟨rp, rfl, p0, p1, hC2, hB2⟩
  have hs2 := hB2.size
  have HC2 : Hid (Cur B (N + 2 + 2) (.slice a len cap) w2) := hC2
  have HB2 : Hid (But B (w.alloc (.cells #[.int .i64 0, .int .i64 0, .int .i64 0, .string ⟨#[]⟩] 36)) w2) := HB1.out.trans hB2
  have HK2 : Hid (Code B len cap a w2) := HK1.out.but hB2 (Nat.le_refl _) (by omega)
  clear hC2 hB2 HC1 HB1 HK1
  go_wp2_with fail
  refine (pick_any _ B _ len cap a _ (by omega) (by omega) (by omega) HC2.out HK2.out).mono ?_
  rintro e w3 ⟨m, rfl, m0, m1, hC3, hB3⟩
  have hs3 := hB3.size
  obtain ⟨n, rfl⟩ : ∃ n : Nat, m = (n : Int) := ⟨m.toNat, by omega⟩
  have hn4 : n ≤ 3 := by omega
  have HDA : Hid (∀ k' n' : Int, Dr w B (N + 2 + 2 + 2) w.heap.size w3.heap.size len cap a k' rp n' ⟨#[]⟩ (w3.alloc (.cells #[.int .i64 k', .int .i64 rp, .int .i64 n', .string ⟨#[]⟩] 36))) := by
    intro k' n'
    have hb := HB2.out.trans hB3
    have x := fun i => hb.cell w.heap.size i (by simp) (by omega)
    have fx := fun i => hb.frozen w.heap.size i (by simp) (by omega)
    have bb : But B w w3 := ((But.refl B w).alloc _).trans hb
    have go : ∀ j, (w3.alloc (.cells #[.int .i64 k', .int .i64 rp, .int .i64 n', .string ⟨#[]⟩] 36)).cell? ⟨w.heap.size, j, none⟩ = w3.cell? ⟨w.heap.size, j, none⟩ := fun j => World.cell?_alloc_lt _ _ _ (by show w.heap.size < w3.heap.size; omega)
    have gf : ∀ j, (w3.alloc (.cells #[.int .i64 k', .int .i64 rp, .int .i64 n', .string ⟨#[]⟩] 36)).frozen? ⟨w.heap.size, j, none⟩ = w3.frozen? ⟨w.heap.size, j, none⟩ := fun j => ((But.refl B w3).alloc _).frozen _ _ (by omega) (by omega)
    refine ⟨hC3.alloc _, (HK2.out.but hB3 (Nat.le_refl _) (by omega)).but ((But.refl B _).alloc _) (Nat.le_refl _) (by omega), ((go 0).trans (x 0)).trans (by go_simp), ((go 1).trans (x 1)).trans (by go_simp), ((go 2).trans (x 2)).trans (by go_simp), ((go 3).trans (x 3)).trans (by go_simp), ((gf 0).trans (fx 0)).trans (by go_simp), ((gf 1).trans (fx 1)).trans (by go_simp), ((gf 2).trans (fx 2)).trans (by go_simp), ((gf 3).trans (fx 3)).trans (by go_simp), by go_simp, by go_simp, by go_simp, by go_simp, by go_simp, by go_simp, by go_simp, by go_simp, bb.alloc _, Nat.le_refl _, by omega, by omega, hlt, by rw [heap_size]; omega, by rw [heap_size]; omega⟩
  have HD0 : Hid (Dr w B (N + 2 + 2 + 2) w.heap.size w3.heap.size len cap a rk rp (1 + (n : Int)) ⟨#[]⟩ (w3.alloc (.cells #[.int .i64 rk, .int .i64 rp, .int .i64 (1 + (n : Int)), .string ⟨#[]⟩] 36))) := HDA.out rk _
  have HD3 : Hid (Dr w B (N + 2 + 2 + 2) w.heap.size w3.heap.size len cap a 3 rp 0 ⟨#[]⟩ (w3.alloc (.cells #[.int .i64 3, .int .i64 rp, .int .i64 0, .string ⟨#[]⟩] 36))) := HDA.out 3 0
  clear HDA
  clear hC3 hB3 HC2 HB2 HK2
  by_cases k1 : rk = 1
  · subst k1
    go_wp2_with fail
    go_loopw [4] (fun i wr => ∃ (j : Nat) (D : ByteArray), j ≤ 1 + n ∧ i = .int .i64 j ∧ D.size = 2 * j ∧ Dr w B (N + 6 + 4 * j) w.heap.size w3.heap.size len cap a 1 rp (1 + (n : Int)) D wr) (fun i _ => 1 + n - (intOf i).toNat)
    case atStart => exact ⟨0, ⟨#[]⟩, by omega, rfl, rfl, HD0.out⟩
    case round =>
      obtain ⟨j, D, hj, rfl, hDs, hd⟩ := hrel
      have HD : Hid (Dr w B (N + 6 + 4 * j) w.heap.size w3.heap.size len cap a 1 rp (1 + (n : Int)) D wr) := hd
      obtain ⟨_, _, _, _, _, _, _, _, _, _, c0, c1, c2, c3, g0, g1, g2, g3, _, _, _, _, _, _, hly⟩ := hd
      have hDs' : D.size ≤ 8 := by omega
      have HDS : Hid (D.size = 2 * j) := hDs
      clear hDs
      by_cases hlt2 : j < 1 + n
      · have hdl : decide ((j : Int) < 1 + (n : Int)) = true := by simp; omega
        have hcv := bytes_two
        have hsz := size_two
        go_wp2_with fail
        go_region_with (first
          | (go_at_call 38
             refine (pick_any _ B _ len cap a _ (by omega) (by omega) (by omega) HD8.out.cur HD8.out.code).mono ?_
             rintro e w9 ⟨v9, rfl, va9, vb9, hC9, hB9⟩
             have HD9 : Hid (Dr w B (N + 6 + 4 * j + 2 + 2) w.heap.size w3.heap.size len cap a 1 rp (1 + (n : Int)) D w9) := HD8.out.step hC9 hB9
             have x9 := HD9.out.c3
             have y9 := HD9.out.g3
             have l9 := HD9.out.ly
             clear hC9 hB9)
          | (go_at_call 38
             refine (pick_any _ B _ len cap a _ (by omega) (by omega) (by omega) HD.out.drew.cur HD.out.drew.code).mono ?_
             rintro e w8 ⟨v8, rfl, va8, vb8, hC8, hB8⟩
             have HD8 : Hid (Dr w B (N + 6 + 4 * j + 2) w.heap.size w3.heap.size len cap a 1 rp (1 + (n : Int)) D w8) := HD.out.drew.step hC8 hB8
             have x8 := HD8.out.c3
             have y8 := HD8.out.g3
             clear hC8 hB8))
        all_goals
          go_wp2_with fail
          go_roundw
          · refine ⟨j + 1, _, by omega, by go_num, ?_, Dr.cast (N := N + 6 + 4 * j + 2 + 2) (by omega) (by first | exact (HD9.out.alloc _).setD _ | exact (HD9.out.setD _).alloc _)⟩
            rw [ByteArray.size_append, size_two, HDS.out]; omega
          · simp [intOf]; omega
      · have hdl : decide ((j : Int) < 1 + (n : Int)) = false := by simp; omega
        have hNj : N + 6 + 4 * j ≤ N + 22 := by omega
        clear c0 c1 c3 g0 g1 g2 g3
        go_wp2_with fail
        refine (pick_any _ B (N + 6 + 4 * j) len cap a _ (by omega) (by omega) (by omega) HD.out.cur HD.out.code).mono ?_
        rintro e w7 ⟨q, rfl, q0, q1, hC7, hB7⟩
        have HD7 : Hid (Dr w B ((N + 6 + 4 * j) + 2) w.heap.size w3.heap.size len cap a 1 rp (1 + (n : Int)) D w7) := HD.out.step hC7 hB7
        clear hC7 hB7 HD
        by_cases e0 : q = 0
        · subst e0
          go_wp2_with fail
          refine (among_any [-1, 15, 200, 201] 4 w7.heap.size B _ len cap 4 a _ rfl (by decide) (by decide) (by simp) (by have := HD7.out.lx; have := HD7.out.bx; have := HD7.out.bB; omega) (fun i hi => lits_at [-1, 15, 200, 201] w7 i hi) (by omega) (HD7.out.alloc _).cur (HD7.out.alloc _).code).mono ?_
          rintro e w8 ⟨i, hi, rfl, hC8, hB8⟩
          generalize ([-1, 15, 200, 201] : List Int).getD i 0 = m at *
          have HD8 : Hid (Dr w B ((N + 6 + 4 * j) + 2 + 2) w.heap.size w3.heap.size len cap a 1 rp (1 + (n : Int)) D w8) := (HD7.out.alloc _).step hC8 hB8
          clear hC8 hB8 HD7
          obtain ⟨_, _, z0, z1, z2, z3, f0, f1, f2, f3, c0, c1, c2, c3, g0, g1, g2, g3, _, hbx, hby, hne, hbB, hlx, hly⟩ := HD8.out
          have hne2 : w3.heap.size ≠ w.heap.size := fun h => hne h.symm
          go_wp2
          refine bodyPost_ret (v := .agg #[.int .i64 1, .int .i64 m, .int .i64 (1 + (n : Int)), .string D]) (by simp [results, Tryd.results51, go_sem, z0, z1, z2, z3]) rfl ⟨⟨1, m, (1 + (n : Int)), D.data.toList⟩, congrArg Ending.returned (rv_eq _ _ _ _), len_le hDs', (HD8.out.setP m).fin.1.mono (by omega), (HD8.out.setP m).fin.2⟩
        by_cases e1 : q = 1
        · subst e1
          go_wp2_with fail
          refine (pick_any _ B _ len cap a _ (by omega) (by omega) (by omega) HD7.out.cur HD7.out.code).mono ?_
          rintro e w8 ⟨m, rfl, m0, m1, hC8, hB8⟩
          have HD8 : Hid (Dr w B ((N + 6 + 4 * j) + 2 + 2) w.heap.size w3.heap.size len cap a 1 rp (1 + (n : Int)) D w8) := HD7.out.step hC8 hB8
          clear hC8 hB8 HD7
          obtain ⟨_, _, z0, z1, z2, z3, f0, f1, f2, f3, c0, c1, c2, c3, g0, g1, g2, g3, _, hbx, hby, hne, hbB, hlx, hly⟩ := HD8.out
          have hne2 : w3.heap.size ≠ w.heap.size := fun h => hne h.symm
          go_wp2
          refine bodyPost_ret (v := .agg #[.int .i64 m, .int .i64 rp, .int .i64 (1 + (n : Int)), .string D]) (by simp [results, Tryd.results51, go_sem, z0, z1, z2, z3]) rfl ⟨⟨m, rp, (1 + (n : Int)), D.data.toList⟩, congrArg Ending.returned (rv_eq _ _ _ _), len_le hDs', (HD8.out.setK m).fin.1.mono (by omega), (HD8.out.setK m).fin.2⟩
        have d0 : (q == 0) = false := by rw [beq_eq_false_iff_ne]; exact e0
        have d1 : (q == 1) = false := by rw [beq_eq_false_iff_ne]; exact e1
        obtain ⟨_, _, z0, z1, z2, z3, f0, f1, f2, f3, c0, c1, c2, c3, g0, g1, g2, g3, _, hbx, hby, hne, hbB, hlx, hly⟩ := HD7.out
        have hne2 : w3.heap.size ≠ w.heap.size := fun h => hne h.symm
        by_cases e2 : q = 2
        · subst e2
          have hxs : (⟨#[120]⟩ : ByteArray).size = 1 := rfl
          go_wp2
          refine bodyPost_ret (v := .agg #[.int .i64 1, .int .i64 rp, .int .i64 (1 + (n : Int)), .string (D ++ ⟨#[120]⟩)]) (by simp [results, Tryd.results51, go_sem, z0, z1, z2, z3]) rfl ⟨⟨1, rp, (1 + (n : Int)), (D ++ ⟨#[120]⟩ : ByteArray).data.toList⟩, congrArg Ending.returned (rv_eq _ _ _ _), len_le1 hDs', (HD7.out.setD _).fin.1.mono (by omega), (HD7.out.setD _).fin.2⟩
        · have d2 : (q == 2) = false := by rw [beq_eq_false_iff_ne]; exact e2
          go_wp2
          refine bodyPost_ret (v := .agg #[.int .i64 1, .int .i64 rp, .int .i64 (1 + (n : Int)), .string D]) (by simp [results, Tryd.results51, go_sem, z0, z1, z2, z3]) rfl ⟨⟨1, rp, (1 + (n : Int)), D.data.toList⟩, congrArg Ending.returned (rv_eq _ _ _ _), len_le hDs', HD7.out.fin.1.mono (by omega), HD7.out.fin.2⟩
  by_cases k3 : rk = 3
  · subst k3
    have HD : Hid (Dr w B (N + 2 + 2 + 2) w.heap.size w3.heap.size len cap a 3 rp 0 ⟨#[]⟩ (w3.alloc (.cells #[.int .i64 3, .int .i64 rp, .int .i64 0, .string ⟨#[]⟩] 36))) := HD3
    have hDs' : (⟨#[]⟩ : ByteArray).size ≤ 8 := by decide
    clear HD0 HD3
    go_wp2_with fail
    refine (pick_any _ B (N + 2 + 2 + 2) len cap a _ (by omega) (by omega) (by omega) HD.out.cur HD.out.code).mono ?_
    rintro e w7 ⟨q, rfl, q0, q1, hC7, hB7⟩
    have HD7 : Hid (Dr w B ((N + 2 + 2 + 2) + 2) w.heap.size w3.heap.size len cap a 3 rp 0 (⟨#[]⟩ : ByteArray) w7) := HD.out.step hC7 hB7
    clear hC7 hB7 HD
    by_cases e0 : q = 0
    · subst e0
      go_wp2_with fail
      refine (among_any [-1, 15, 200, 201] 4 w7.heap.size B _ len cap 4 a _ rfl (by decide) (by decide) (by simp) (by have := HD7.out.lx; have := HD7.out.bx; have := HD7.out.bB; omega) (fun i hi => lits_at [-1, 15, 200, 201] w7 i hi) (by omega) (HD7.out.alloc _).cur (HD7.out.alloc _).code).mono ?_
      rintro e w8 ⟨i, hi, rfl, hC8, hB8⟩
      generalize ([-1, 15, 200, 201] : List Int).getD i 0 = m at *
      have HD8 : Hid (Dr w B ((N + 2 + 2 + 2) + 2 + 2) w.heap.size w3.heap.size len cap a 3 rp 0 (⟨#[]⟩ : ByteArray) w8) := (HD7.out.alloc _).step hC8 hB8
      clear hC8 hB8 HD7
      obtain ⟨_, _, z0, z1, z2, z3, f0, f1, f2, f3, c0, c1, c2, c3, g0, g1, g2, g3, _, hbx, hby, hne, hbB, hlx, hly⟩ := HD8.out
      have hne2 : w3.heap.size ≠ w.heap.size := fun h => hne h.symm
      go_wp2
      refine bodyPost_ret (v := .agg #[.int .i64 3, .int .i64 m, .int .i64 0, .string (⟨#[]⟩ : ByteArray)]) (by simp [results, Tryd.results51, go_sem, z0, z1, z2, z3]) rfl ⟨⟨3, m, 0, (⟨#[]⟩ : ByteArray).data.toList⟩, congrArg Ending.returned (rv_eq _ _ _ _), len_le hDs', (HD8.out.setP m).fin.1.mono (by omega), (HD8.out.setP m).fin.2⟩
    by_cases e1 : q = 1
    · subst e1
      go_wp2_with fail
      refine (pick_any _ B _ len cap a _ (by omega) (by omega) (by omega) HD7.out.cur HD7.out.code).mono ?_
      rintro e w8 ⟨m, rfl, m0, m1, hC8, hB8⟩
      have HD8 : Hid (Dr w B ((N + 2 + 2 + 2) + 2 + 2) w.heap.size w3.heap.size len cap a 3 rp 0 (⟨#[]⟩ : ByteArray) w8) := HD7.out.step hC8 hB8
      clear hC8 hB8 HD7
      obtain ⟨_, _, z0, z1, z2, z3, f0, f1, f2, f3, c0, c1, c2, c3, g0, g1, g2, g3, _, hbx, hby, hne, hbB, hlx, hly⟩ := HD8.out
      have hne2 : w3.heap.size ≠ w.heap.size := fun h => hne h.symm
      go_wp2
      refine bodyPost_ret (v := .agg #[.int .i64 m, .int .i64 rp, .int .i64 0, .string (⟨#[]⟩ : ByteArray)]) (by simp [results, Tryd.results51, go_sem, z0, z1, z2, z3]) rfl ⟨⟨m, rp, 0, (⟨#[]⟩ : ByteArray).data.toList⟩, congrArg Ending.returned (rv_eq _ _ _ _), len_le hDs', (HD8.out.setK m).fin.1.mono (by omega), (HD8.out.setK m).fin.2⟩
    have d0 : (q == 0) = false := by rw [beq_eq_false_iff_ne]; exact e0
    have d1 : (q == 1) = false := by rw [beq_eq_false_iff_ne]; exact e1
    obtain ⟨_, _, z0, z1, z2, z3, f0, f1, f2, f3, c0, c1, c2, c3, g0, g1, g2, g3, _, hbx, hby, hne, hbB, hlx, hly⟩ := HD7.out
    have hne2 : w3.heap.size ≠ w.heap.size := fun h => hne h.symm
    by_cases e2 : q = 2
    · subst e2
      have hxs : (⟨#[120]⟩ : ByteArray).size = 1 := rfl
      go_wp2
      refine bodyPost_ret (v := .agg #[.int .i64 3, .int .i64 rp, .int .i64 0, .string ((⟨#[]⟩ : ByteArray) ++ ⟨#[120]⟩)]) (by simp [results, Tryd.results51, go_sem, z0, z1, z2, z3]) rfl ⟨⟨3, rp, 0, ((⟨#[]⟩ : ByteArray) ++ ⟨#[120]⟩ : ByteArray).data.toList⟩, congrArg Ending.returned (rv_eq _ _ _ _), len_le1 hDs', (HD7.out.setD _).fin.1.mono (by omega), (HD7.out.setD _).fin.2⟩
    · have d2 : (q == 2) = false := by rw [beq_eq_false_iff_ne]; exact e2
      go_wp2
      refine bodyPost_ret (v := .agg #[.int .i64 3, .int .i64 rp, .int .i64 0, .string (⟨#[]⟩ : ByteArray)]) (by simp [results, Tryd.results51, go_sem, z0, z1, z2, z3]) rfl ⟨⟨3, rp, 0, (⟨#[]⟩ : ByteArray).data.toList⟩, congrArg Ending.returned (rv_eq _ _ _ _), len_le hDs', HD7.out.fin.1.mono (by omega), HD7.out.fin.2⟩
  · have d1 : (rk == 1) = false := by rw [beq_eq_false_iff_ne]; exact k1
    have d3 : (rk == 3) = false := by rw [beq_eq_false_iff_ne]; exact k3
    have HD : Hid (Dr w B (N + 2 + 2 + 2) w.heap.size w3.heap.size len cap a rk rp (1 + (n : Int)) ⟨#[]⟩ (w3.alloc (.cells #[.int .i64 rk, .int .i64 rp, .int .i64 (1 + (n : Int)), .string ⟨#[]⟩] 36))) := HD0
    have hDs' : (⟨#[]⟩ : ByteArray).size ≤ 8 := by decide
    go_wp2_with fail
    refine (pick_any _ B (N + 2 + 2 + 2) len cap a _ (by omega) (by omega) (by omega) HD.out.cur HD.out.code).mono ?_
    rintro e w7 ⟨q, rfl, q0, q1, hC7, hB7⟩
    have HD7 : Hid (Dr w B ((N + 2 + 2 + 2) + 2) w.heap.size w3.heap.size len cap a rk rp (1 + (n : Int)) (⟨#[]⟩ : ByteArray) w7) := HD.out.step hC7 hB7
    clear hC7 hB7 HD
    by_cases e0 : q = 0
    · subst e0
      go_wp2_with fail
      refine (among_any [-1, 15, 200, 201] 4 w7.heap.size B _ len cap 4 a _ rfl (by decide) (by decide) (by simp) (by have := HD7.out.lx; have := HD7.out.bx; have := HD7.out.bB; omega) (fun i hi => lits_at [-1, 15, 200, 201] w7 i hi) (by omega) (HD7.out.alloc _).cur (HD7.out.alloc _).code).mono ?_
      rintro e w8 ⟨i, hi, rfl, hC8, hB8⟩
      generalize ([-1, 15, 200, 201] : List Int).getD i 0 = m at *
      have HD8 : Hid (Dr w B ((N + 2 + 2 + 2) + 2 + 2) w.heap.size w3.heap.size len cap a rk rp (1 + (n : Int)) (⟨#[]⟩ : ByteArray) w8) := (HD7.out.alloc _).step hC8 hB8
      clear hC8 hB8 HD7
      obtain ⟨_, _, z0, z1, z2, z3, f0, f1, f2, f3, c0, c1, c2, c3, g0, g1, g2, g3, _, hbx, hby, hne, hbB, hlx, hly⟩ := HD8.out
      have hne2 : w3.heap.size ≠ w.heap.size := fun h => hne h.symm
      go_wp2
      refine bodyPost_ret (v := .agg #[.int .i64 rk, .int .i64 m, .int .i64 (1 + (n : Int)), .string (⟨#[]⟩ : ByteArray)]) (by simp [results, Tryd.results51, go_sem, z0, z1, z2, z3]) rfl ⟨⟨rk, m, (1 + (n : Int)), (⟨#[]⟩ : ByteArray).data.toList⟩, congrArg Ending.returned (rv_eq _ _ _ _), len_le hDs', (HD8.out.setP m).fin.1.mono (by omega), (HD8.out.setP m).fin.2⟩
    by_cases e1 : q = 1
    · subst e1
      go_wp2_with fail
      refine (pick_any _ B _ len cap a _ (by omega) (by omega) (by omega) HD7.out.cur HD7.out.code).mono ?_
      rintro e w8 ⟨m, rfl, m0, m1, hC8, hB8⟩
      have HD8 : Hid (Dr w B ((N + 2 + 2 + 2) + 2 + 2) w.heap.size w3.heap.size len cap a rk rp (1 + (n : Int)) (⟨#[]⟩ : ByteArray) w8) := HD7.out.step hC8 hB8
      clear hC8 hB8 HD7
      obtain ⟨_, _, z0, z1, z2, z3, f0, f1, f2, f3, c0, c1, c2, c3, g0, g1, g2, g3, _, hbx, hby, hne, hbB, hlx, hly⟩ := HD8.out
      have hne2 : w3.heap.size ≠ w.heap.size := fun h => hne h.symm
      go_wp2
      refine bodyPost_ret (v := .agg #[.int .i64 m, .int .i64 rp, .int .i64 (1 + (n : Int)), .string (⟨#[]⟩ : ByteArray)]) (by simp [results, Tryd.results51, go_sem, z0, z1, z2, z3]) rfl ⟨⟨m, rp, (1 + (n : Int)), (⟨#[]⟩ : ByteArray).data.toList⟩, congrArg Ending.returned (rv_eq _ _ _ _), len_le hDs', (HD8.out.setK m).fin.1.mono (by omega), (HD8.out.setK m).fin.2⟩
    have d0 : (q == 0) = false := by rw [beq_eq_false_iff_ne]; exact e0
    have d1 : (q == 1) = false := by rw [beq_eq_false_iff_ne]; exact e1
    obtain ⟨_, _, z0, z1, z2, z3, f0, f1, f2, f3, c0, c1, c2, c3, g0, g1, g2, g3, _, hbx, hby, hne, hbB, hlx, hly⟩ := HD7.out
    have hne2 : w3.heap.size ≠ w.heap.size := fun h => hne h.symm
    by_cases e2 : q = 2
    · subst e2
      have hxs : (⟨#[120]⟩ : ByteArray).size = 1 := rfl
      go_wp2
      refine bodyPost_ret (v := .agg #[.int .i64 rk, .int .i64 rp, .int .i64 (1 + (n : Int)), .string ((⟨#[]⟩ : ByteArray) ++ ⟨#[120]⟩)]) (by simp [results, Tryd.results51, go_sem, z0, z1, z2, z3]) rfl ⟨⟨rk, rp, (1 + (n : Int)), ((⟨#[]⟩ : ByteArray) ++ ⟨#[120]⟩ : ByteArray).data.toList⟩, congrArg Ending.returned (rv_eq _ _ _ _), len_le1 hDs', (HD7.out.setD _).fin.1.mono (by omega), (HD7.out.setD _).fin.2⟩
    · have d2 : (q == 2) = false := by rw [beq_eq_false_iff_ne]; exact e2
      go_wp2
      refine bodyPost_ret (v := .agg #[.int .i64 rk, .int .i64 rp, .int .i64 (1 + (n : Int)), .string (⟨#[]⟩ : ByteArray)]) (by simp [results, Tryd.results51, go_sem, z0, z1, z2, z3]) rfl ⟨⟨rk, rp, (1 + (n : Int)), (⟨#[]⟩ : ByteArray).data.toList⟩, congrArg Ending.returned (rv_eq _ _ _ _), len_le hDs', HD7.out.fin.1.mono (by omega), HD7.out.fin.2⟩
end Go.Proofs.YthoeffbefmhkjaaDoor
namespace Go.Proofs.YthoeffbefmhkjaaDoor
set_option maxRecDepth 100000
open Go.ChangeShapes Go.WideShapes Go.ChangeAt Go.RowKit G00541
set_option maxHeartbeats 400000 in
theorem goodSpan_any (p n : Int) (w : World) : Calls Tryd.prog 84 #[.int .i64 p, .int .i64 n] w fun e w' => e = .returned (.bool (spanR p n)) ∧ w' = w := by
  by_cases h1 : 1 ≤ n
  · have d1 : decide (1 ≤ n) = true := decide_eq_true h1
    by_cases h2 : n ≤ 4
    · have d2 : decide (n ≤ 4) = true := decide_eq_true h2
      by_cases h3 : 0 ≤ p
      · have d3 : decide (0 ≤ p) = true := decide_eq_true h3
        by_cases h4 : p ≤ 16 - n
        · have d4 : decide (p ≤ 16 - n) = true := decide_eq_true h4
          rw [span_yes ⟨h1, h2, h3, h4⟩]
          go_enter Tryd.func84, Tryd.ntmps84
          go_wp2
          go_ret
          exact ⟨rfl, rfl⟩
        · have d4 : decide (p ≤ 16 - n) = false := decide_eq_false h4
          rw [span_no (fun h => h4 h.2.2.2)]
          go_enter Tryd.func84, Tryd.ntmps84
          go_wp2
          go_ret
          exact ⟨rfl, rfl⟩
      · have d3 : decide (0 ≤ p) = false := decide_eq_false h3
        rw [span_no (fun h => h3 h.2.2.1)]
        go_enter Tryd.func84, Tryd.ntmps84
        go_wp2
        go_ret
        exact ⟨rfl, rfl⟩
    · have d2 : decide (n ≤ 4) = false := decide_eq_false h2
      rw [span_no (fun h => h2 h.2.1)]
      go_enter Tryd.func84, Tryd.ntmps84
      go_wp2
      go_ret
      exact ⟨rfl, rfl⟩
  · have d1 : decide (1 ≤ n) = false := decide_eq_false h1
    rw [span_no (fun h => h1 h.1)]
    go_enter Tryd.func84, Tryd.ntmps84
    go_wp2
    go_ret
    exact ⟨rfl, rfl⟩
set_option maxHeartbeats 400000 in
theorem wgood_any (p n : Int) (D : ByteArray) (w : World) : Calls Tryd.prog 82 #[.agg #[.int .i64 p, .int .i64 n, .string D]] w fun e w' => e = .returned (.bool (goodR ⟨1, p, n, D.data.toList⟩)) ∧ Below w.heap.size w w' := by
  rw [good_one, bytes_size]
  have HW : Hid (∀ v, Calls Tryd.prog 84 #[.int .i64 p, .int .i64 n] v fun e w' => e = .returned (.bool (spanR p n)) ∧ w' = v) := fun v => goodSpan_any p n v
  cases hs : spanR p n
  · rw [hs] at HW
    clear hs
    go_enter Tryd.func82, Tryd.ntmps82
    go_wp2_with (go_at_call 84; refine (HW.out _).mono ?_; rintro e w' ⟨rfl, rfl⟩)
    go_ret
    exact ⟨rfl, (Below.refl _ _).alloc (Nat.le_refl _) _⟩
  · have h4 := of_decide_eq_true hs
    rw [hs] at HW
    clear hs
    have hq : ∀ b, decide ((D.size : Int) = 2 * n) = b → ((D.size : Int) == 2 * n) = b := fun b hb => by rw [← hb]; rfl
    cases hb : decide ((D.size : Int) = 2 * n)
    all_goals
      have hq' := hq _ hb
      clear hq hb
      go_enter Tryd.func82, Tryd.ntmps82
      go_wp2_with (go_at_call 84; refine (HW.out _).mono ?_; rintro e w' ⟨rfl, rfl⟩)
      go_ret
      exact ⟨rfl, (Below.refl _ _).alloc (Nat.le_refl _) _⟩
set_option maxHeartbeats 400000 in
theorem tgood_any (p n : Int) (w : World) : Calls Tryd.prog 85 #[.agg #[.int .i64 p, .int .i64 n]] w fun e w' => e = .returned (.bool (spanR p n)) ∧ Below w.heap.size w w' := by
  have HW : Hid (∀ v, Calls Tryd.prog 84 #[.int .i64 p, .int .i64 n] v fun e w' => e = .returned (.bool (spanR p n)) ∧ w' = v) := fun v => goodSpan_any p n v
  go_enter Tryd.func85, Tryd.ntmps85
  go_wp2_with (go_at_call 84; refine (HW.out _).mono ?_; rintro e w' ⟨rfl, rfl⟩)
  go_ret
  exact ⟨rfl, (Below.refl _ _).alloc (Nat.le_refl _) _⟩
def markR (p : Int) : Bool := decide (0 ≤ p ∧ p ≤ 200)
set_option maxHeartbeats 400000 in
theorem mgood_any (p : Int) (w : World) : Calls Tryd.prog 87 #[.agg #[.int .i64 p]] w fun e w' => e = .returned (.bool (markR p)) ∧ Below w.heap.size w w' := by
  by_cases h1 : 0 ≤ p
  · have d1 : decide (0 ≤ p) = true := decide_eq_true h1
    by_cases h2 : p ≤ 200
    · have d2 : decide (p ≤ 200) = true := decide_eq_true h2
      rw [show markR p = true from decide_eq_true ⟨h1, h2⟩]
      go_enter Tryd.func87, Tryd.ntmps87
      go_wp2
      go_ret
      exact ⟨rfl, (Below.refl _ _).alloc (Nat.le_refl _) _⟩
    · have d2 : decide (p ≤ 200) = false := decide_eq_false h2
      rw [show markR p = false from decide_eq_false (fun h => h2 h.2)]
      go_enter Tryd.func87, Tryd.ntmps87
      go_wp2
      go_ret
      exact ⟨rfl, (Below.refl _ _).alloc (Nat.le_refl _) _⟩
  · have d1 : decide (0 ≤ p) = false := decide_eq_false h1
    rw [show markR p = false from decide_eq_false (fun h => h1 h.1)]
    go_enter Tryd.func87, Tryd.ntmps87
    go_wp2
    go_ret
    exact ⟨rfl, (Below.refl _ _).alloc (Nat.le_refl _) _⟩
set_option maxHeartbeats 400000 in
theorem wrec_any (p n : Int) (D : ByteArray) (w : World) : Calls Tryd.prog 83 #[.agg #[.int .i64 p, .int .i64 n, .string D]] w fun e w' => e = .returned (.agg #[.int .i64 1, .int .i64 p, .int .i64 n, .string D]) ∧ Below w.heap.size w w' := by
  go_enter Tryd.func83, Tryd.ntmps83
  go_wp2
  refine bodyPost_ret (v := .agg #[.int .i64 1, .int .i64 p, .int .i64 n, .string D]) (by simp [results, Tryd.results83, go_sem]) rfl ⟨rfl, ?_⟩
  exact ((Below.refl _ _).alloc (Nat.le_refl _) _).alloc (by simp) _
set_option maxHeartbeats 400000 in
theorem trec_any (p n : Int) (w : World) : Calls Tryd.prog 86 #[.agg #[.int .i64 p, .int .i64 n]] w fun e w' => e = .returned (.agg #[.int .i64 2, .int .i64 p, .int .i64 n, .string ⟨#[]⟩]) ∧ Below w.heap.size w w' := by
  go_enter Tryd.func86, Tryd.ntmps86
  go_wp2
  refine bodyPost_ret (v := .agg #[.int .i64 2, .int .i64 p, .int .i64 n, .string ⟨#[]⟩]) (by simp [results, Tryd.results86, go_sem]) rfl ⟨rfl, ?_⟩
  exact ((Below.refl _ _).alloc (Nat.le_refl _) _).alloc (by simp) _
set_option maxHeartbeats 400000 in
theorem mrec_any (p : Int) (w : World) : Calls Tryd.prog 88 #[.agg #[.int .i64 p]] w fun e w' => e = .returned (.agg #[.int .i64 3, .int .i64 p, .int .i64 0, .string ⟨#[]⟩]) ∧ Below w.heap.size w w' := by
  go_enter Tryd.func88, Tryd.ntmps88
  go_wp2
  refine bodyPost_ret (v := .agg #[.int .i64 3, .int .i64 p, .int .i64 0, .string ⟨#[]⟩]) (by simp [results, Tryd.results88, go_sem]) rfl ⟨rfl, ?_⟩
  exact ((Below.refl _ _).alloc (Nat.le_refl _) _).alloc (by simp) _
set_option maxHeartbeats 400000 in
theorem change_other (k p n : Int) (D : ByteArray) (w : World) (k1 : k ≠ 1) (k2 : k ≠ 2) (k3 : k ≠ 3) : Calls Tryd.prog 44 #[.agg #[.int .i64 k, .int .i64 p, .int .i64 n, .string D]] w fun e w' => e = .returned (.tuple #[.nilIface, .bool false]) ∧ Below w.heap.size w w' := by
  have q1 : (k == 1) = false := by rw [beq_eq_false_iff_ne]; exact k1
  have q2 : (k == 2) = false := by rw [beq_eq_false_iff_ne]; exact k2
  have q3 : (k == 3) = false := by rw [beq_eq_false_iff_ne]; exact k3
  clear k1 k2 k3
  go_enter Tryd.func44, Tryd.ntmps44
  go_wp2
  go_ret2
  exact ⟨rfl, (Below.refl _ _).alloc (Nat.le_refl _) _⟩
end Go.Proofs.YthoeffbefmhkjaaDoor
namespace Go.Proofs.YthoeffbefmhkjaaDoor
set_option maxRecDepth 100000
open Go.ChangeShapes Go.WideShapes Go.ChangeAt Go.RowKit G00541
theorem meth_wg (p n : Int) (D : ByteArray) (w : World) : (method 214 87 (.agg #[.int .i64 p, .int .i64 n, .string D]) "loop.example/g00541/impl.good").run Tryd.prog w = .ok (82, .agg #[.int .i64 p, .int .i64 n, .string D]) w := by kernel_rfl
theorem meth_wr (p n : Int) (D : ByteArray) (w : World) : (method 214 87 (.agg #[.int .i64 p, .int .i64 n, .string D]) "loop.example/g00541/impl.record").run Tryd.prog w = .ok (83, .agg #[.int .i64 p, .int .i64 n, .string D]) w := by kernel_rfl
set_option maxHeartbeats 1000000 in
theorem change_one_no (p n : Int) (D : ByteArray) (w : World) (h : goodR ⟨1, p, n, D.data.toList⟩ = false) : Calls Tryd.prog 44 #[.agg #[.int .i64 1, .int .i64 p, .int .i64 n, .string D]] w fun e w' => e = .returned (.tuple #[.iface 87 (.agg #[.int .i64 p, .int .i64 n, .string D]), .bool false]) ∧ Below w.heap.size w w' := by
  have HG : Hid (∀ v, Calls Tryd.prog 82 #[.agg #[.int .i64 p, .int .i64 n, .string D]] v fun e w' => e = .returned (.bool false) ∧ Below v.heap.size v w') := fun v => by rw [← h]; exact wgood_any p n D v
  have hm := meth_wg p n D
  clear h
  go_enter Tryd.func44, Tryd.ntmps44
  go_wp2_with fail
  first | go_region_with (go_at_call 82; refine (HG.out _).mono ?_; rintro e w1 ⟨rfl, b1⟩) | fail
  all_goals
    have HB : Hid (Below w.heap.size w w1) := below_in (show Below (w.alloc (.cells #[.int .i64 1, .int .i64 p, .int .i64 n, .string D] 36)).heap.size (w.alloc (.cells #[.int .i64 1, .int .i64 p, .int .i64 n, .string D] 36)) w1 from ⟨b1.os, b1.tape, b1.output, b1.size, b1.block⟩)
    clear b1
    go_wp2
    go_ret2
    exact ⟨rfl, HB.out⟩
set_option maxHeartbeats 2000000 in
theorem change_one_yes (p n : Int) (D : ByteArray) (w : World) (h : goodR ⟨1, p, n, D.data.toList⟩ = true)  : Calls Tryd.prog 44 #[.agg #[.int .i64 1, .int .i64 p, .int .i64 n, .string D]] w fun e w' => e = .returned (.tuple #[.iface 87 (.agg #[.int .i64 p, .int .i64 n, .string D]), .bool true]) ∧ Below w.heap.size w w' := by
  have HG : Hid (∀ v, Calls Tryd.prog 82 #[.agg #[.int .i64 p, .int .i64 n, .string D]] v fun e w' => e = .returned (.bool true) ∧ Below v.heap.size v w') := fun v => by rw [← h]; exact wgood_any p n D v
  have hm := meth_wg p n D
  have hr := meth_wr p n D
  clear h
  go_enter Tryd.func44, Tryd.ntmps44
  go_wp2_with fail
  first | go_region_with (first | (go_at_call 82; refine (HG.out _).mono ?_; rintro e w1 ⟨rfl, b1⟩; have c0 := (b1.cell (p := ⟨w.heap.size, 0, none⟩) (by go_simp)).trans (show _ = some (.int .i64 1) by go_simp); have c1 := (b1.cell (p := ⟨w.heap.size, 1, none⟩) (by go_simp)).trans (show _ = some (.int .i64 p) by go_simp); have c2 := (b1.cell (p := ⟨w.heap.size, 2, none⟩) (by go_simp)).trans (show _ = some (.int .i64 n) by go_simp); have c3 := (b1.cell (p := ⟨w.heap.size, 3, none⟩) (by go_simp)).trans (show _ = some (.string D) by go_simp)) | (go_at_call 83; refine (wrec_any p n D _).mono ?_; rintro e w2 ⟨rfl, b2⟩; have hlt := Nat.lt_of_lt_of_le (show w.heap.size < _ by go_simp) b1.size; have e0 := (b2.cell (p := ⟨w.heap.size, 0, none⟩) hlt).trans c0; have e1 := (b2.cell (p := ⟨w.heap.size, 1, none⟩) hlt).trans c1; have e2 := (b2.cell (p := ⟨w.heap.size, 2, none⟩) hlt).trans c2; have e3 := (b2.cell (p := ⟨w.heap.size, 3, none⟩) hlt).trans c3)) | fail
  all_goals
    have HB : Hid (Below w.heap.size w w2) := below_in ((show Below (w.alloc (.cells #[.int .i64 1, .int .i64 p, .int .i64 n, .string D] 36)).heap.size (w.alloc (.cells #[.int .i64 1, .int .i64 p, .int .i64 n, .string D] 36)) w1 from ⟨b1.os, b1.tape, b1.output, b1.size, b1.block⟩).trans (b2.mono (by simpa using b1.size)))
    clear b1 b2
    go_wp2
    go_ret2
    exact ⟨rfl, HB.out⟩
theorem meth_tg (p n : Int) (w : World) : (method 214 89 (.agg #[.int .i64 p, .int .i64 n]) "loop.example/g00541/impl.good").run Tryd.prog w = .ok (85, .agg #[.int .i64 p, .int .i64 n]) w := by kernel_rfl
theorem meth_tr (p n : Int) (w : World) : (method 214 89 (.agg #[.int .i64 p, .int .i64 n]) "loop.example/g00541/impl.record").run Tryd.prog w = .ok (86, .agg #[.int .i64 p, .int .i64 n]) w := by kernel_rfl
set_option maxHeartbeats 1000000 in
theorem change_two_no (p n : Int) (D : ByteArray) (w : World) (h : spanR p n = false) : Calls Tryd.prog 44 #[.agg #[.int .i64 2, .int .i64 p, .int .i64 n, .string D]] w fun e w' => e = .returned (.tuple #[.iface 89 (.agg #[.int .i64 p, .int .i64 n]), .bool false]) ∧ Below w.heap.size w w' := by
  have HG : Hid (∀ v, Calls Tryd.prog 85 #[.agg #[.int .i64 p, .int .i64 n]] v fun e w' => e = .returned (.bool false) ∧ Below v.heap.size v w') := fun v => by rw [← h]; exact tgood_any p n v
  have hm := meth_tg p n
  clear h
  go_enter Tryd.func44, Tryd.ntmps44
  go_wp2_with fail
  first | go_region_with (go_at_call 85; refine (HG.out _).mono ?_; rintro e w1 ⟨rfl, b1⟩) | fail
  all_goals
    have HB : Hid (Below w.heap.size w w1) := below_in (show Below (w.alloc (.cells #[.int .i64 2, .int .i64 p, .int .i64 n, .string D] 36)).heap.size (w.alloc (.cells #[.int .i64 2, .int .i64 p, .int .i64 n, .string D] 36)) w1 from ⟨b1.os, b1.tape, b1.output, b1.size, b1.block⟩)
    clear b1
    go_wp2
    go_ret2
    exact ⟨rfl, HB.out⟩
set_option maxHeartbeats 2000000 in
theorem change_two_yes (p n : Int) (D : ByteArray) (w : World) (h : spanR p n = true) (b : Bool) (hb : decide (D.data.toList = []) = b) : Calls Tryd.prog 44 #[.agg #[.int .i64 2, .int .i64 p, .int .i64 n, .string D]] w fun e w' => e = .returned (.tuple #[.iface 89 (.agg #[.int .i64 p, .int .i64 n]), .bool b]) ∧ Below w.heap.size w w' := by
  have HG : Hid (∀ v, Calls Tryd.prog 85 #[.agg #[.int .i64 p, .int .i64 n]] v fun e w' => e = .returned (.bool true) ∧ Below v.heap.size v w') := fun v => by rw [← h]; exact tgood_any p n v
  have hm := meth_tg p n
  have hr := meth_tr p n
  clear h
  cases b
  · have hq := not_empty (of_decide_eq_false hb)
    clear hb
    go_enter Tryd.func44, Tryd.ntmps44
    go_wp2_with fail
    first | go_region_with (first | (go_at_call 85; refine (HG.out _).mono ?_; rintro e w1 ⟨rfl, b1⟩; have c0 := (b1.cell (p := ⟨w.heap.size, 0, none⟩) (by go_simp)).trans (show _ = some (.int .i64 2) by go_simp); have c1 := (b1.cell (p := ⟨w.heap.size, 1, none⟩) (by go_simp)).trans (show _ = some (.int .i64 p) by go_simp); have c2 := (b1.cell (p := ⟨w.heap.size, 2, none⟩) (by go_simp)).trans (show _ = some (.int .i64 n) by go_simp); have c3 := (b1.cell (p := ⟨w.heap.size, 3, none⟩) (by go_simp)).trans (show _ = some (.string D) by go_simp)) | (go_at_call 86; refine (trec_any p n _).mono ?_; rintro e w2 ⟨rfl, b2⟩; have hlt := Nat.lt_of_lt_of_le (show w.heap.size < _ by go_simp) b1.size; have e0 := (b2.cell (p := ⟨w.heap.size, 0, none⟩) hlt).trans c0; have e1 := (b2.cell (p := ⟨w.heap.size, 1, none⟩) hlt).trans c1; have e2 := (b2.cell (p := ⟨w.heap.size, 2, none⟩) hlt).trans c2; have e3 := (b2.cell (p := ⟨w.heap.size, 3, none⟩) hlt).trans c3)) | fail
    all_goals
      have HB : Hid (Below w.heap.size w w2) := below_in ((show Below (w.alloc (.cells #[.int .i64 2, .int .i64 p, .int .i64 n, .string D] 36)).heap.size (w.alloc (.cells #[.int .i64 2, .int .i64 p, .int .i64 n, .string D] 36)) w1 from ⟨b1.os, b1.tape, b1.output, b1.size, b1.block⟩).trans (b2.mono (by simpa using b1.size)))
      clear b1 b2
      go_wp2
      go_ret2
      exact ⟨rfl, HB.out⟩
  · have hq : D.toList = [] := (empty_iff D).2 (of_decide_eq_true hb)
    clear hb
    go_enter Tryd.func44, Tryd.ntmps44
    go_wp2_with fail
    first | go_region_with (first | (go_at_call 85; refine (HG.out _).mono ?_; rintro e w1 ⟨rfl, b1⟩; have c0 := (b1.cell (p := ⟨w.heap.size, 0, none⟩) (by go_simp)).trans (show _ = some (.int .i64 2) by go_simp); have c1 := (b1.cell (p := ⟨w.heap.size, 1, none⟩) (by go_simp)).trans (show _ = some (.int .i64 p) by go_simp); have c2 := (b1.cell (p := ⟨w.heap.size, 2, none⟩) (by go_simp)).trans (show _ = some (.int .i64 n) by go_simp); have c3 := (b1.cell (p := ⟨w.heap.size, 3, none⟩) (by go_simp)).trans (show _ = some (.string D) by go_simp)) | (go_at_call 86; refine (trec_any p n _).mono ?_; rintro e w2 ⟨rfl, b2⟩; have hlt := Nat.lt_of_lt_of_le (show w.heap.size < _ by go_simp) b1.size; have e0 := (b2.cell (p := ⟨w.heap.size, 0, none⟩) hlt).trans c0; have e1 := (b2.cell (p := ⟨w.heap.size, 1, none⟩) hlt).trans c1; have e2 := (b2.cell (p := ⟨w.heap.size, 2, none⟩) hlt).trans c2; have e3 := (b2.cell (p := ⟨w.heap.size, 3, none⟩) hlt).trans c3)) | fail
    all_goals
      have HB : Hid (Below w.heap.size w w2) := below_in ((show Below (w.alloc (.cells #[.int .i64 2, .int .i64 p, .int .i64 n, .string D] 36)).heap.size (w.alloc (.cells #[.int .i64 2, .int .i64 p, .int .i64 n, .string D] 36)) w1 from ⟨b1.os, b1.tape, b1.output, b1.size, b1.block⟩).trans (b2.mono (by simpa using b1.size)))
      clear b1 b2
      go_wp2
      go_ret2
      exact ⟨rfl, HB.out⟩
theorem meth_mg (p : Int) (w : World) : (method 214 91 (.agg #[.int .i64 p]) "loop.example/g00541/impl.good").run Tryd.prog w = .ok (87, .agg #[.int .i64 p]) w := by kernel_rfl
theorem meth_mr (p : Int) (w : World) : (method 214 91 (.agg #[.int .i64 p]) "loop.example/g00541/impl.record").run Tryd.prog w = .ok (88, .agg #[.int .i64 p]) w := by kernel_rfl
set_option maxHeartbeats 1000000 in
theorem change_three_no (p n : Int) (D : ByteArray) (w : World) (h : markR p = false) : Calls Tryd.prog 44 #[.agg #[.int .i64 3, .int .i64 p, .int .i64 n, .string D]] w fun e w' => e = .returned (.tuple #[.iface 91 (.agg #[.int .i64 p]), .bool false]) ∧ Below w.heap.size w w' := by
  have HG : Hid (∀ v, Calls Tryd.prog 87 #[.agg #[.int .i64 p]] v fun e w' => e = .returned (.bool false) ∧ Below v.heap.size v w') := fun v => by rw [← h]; exact mgood_any p v
  have hm := meth_mg p
  clear h
  go_enter Tryd.func44, Tryd.ntmps44
  go_wp2_with fail
  first | go_region_with (go_at_call 87; refine (HG.out _).mono ?_; rintro e w1 ⟨rfl, b1⟩) | fail
  all_goals
    have HB : Hid (Below w.heap.size w w1) := below_in (show Below (w.alloc (.cells #[.int .i64 3, .int .i64 p, .int .i64 n, .string D] 36)).heap.size (w.alloc (.cells #[.int .i64 3, .int .i64 p, .int .i64 n, .string D] 36)) w1 from ⟨b1.os, b1.tape, b1.output, b1.size, b1.block⟩)
    clear b1
    go_wp2
    go_ret2
    exact ⟨rfl, HB.out⟩
set_option maxHeartbeats 2000000 in
theorem change_three_yes (p n : Int) (D : ByteArray) (w : World) (h : markR p = true) (b : Bool) (hb : decide (n = 0 ∧ D.data.toList = []) = b) : Calls Tryd.prog 44 #[.agg #[.int .i64 3, .int .i64 p, .int .i64 n, .string D]] w fun e w' => e = .returned (.tuple #[.iface 91 (.agg #[.int .i64 p]), .bool b]) ∧ Below w.heap.size w w' := by
  have HG : Hid (∀ v, Calls Tryd.prog 87 #[.agg #[.int .i64 p]] v fun e w' => e = .returned (.bool true) ∧ Below v.heap.size v w') := fun v => by rw [← h]; exact mgood_any p v
  have hm := meth_mg p
  have hr := meth_mr p
  clear h
  by_cases hn : n = 0
  · subst hn
    cases b
    · have hq := not_empty (fun h => of_decide_eq_false hb ⟨rfl, h⟩)
      clear hb
      go_enter Tryd.func44, Tryd.ntmps44
      go_wp2_with fail
      first | go_region_with (first | (go_at_call 87; refine (HG.out _).mono ?_; rintro e w1 ⟨rfl, b1⟩; have c0 := (b1.cell (p := ⟨w.heap.size, 0, none⟩) (by go_simp)).trans (show _ = some (.int .i64 3) by go_simp); have c1 := (b1.cell (p := ⟨w.heap.size, 1, none⟩) (by go_simp)).trans (show _ = some (.int .i64 p) by go_simp); have c2 := (b1.cell (p := ⟨w.heap.size, 2, none⟩) (by go_simp)).trans (show _ = some (.int .i64 0) by go_simp); have c3 := (b1.cell (p := ⟨w.heap.size, 3, none⟩) (by go_simp)).trans (show _ = some (.string D) by go_simp)) | (go_at_call 88; refine (mrec_any p _).mono ?_; rintro e w2 ⟨rfl, b2⟩; have hlt := Nat.lt_of_lt_of_le (show w.heap.size < _ by go_simp) b1.size; have e0 := (b2.cell (p := ⟨w.heap.size, 0, none⟩) hlt).trans c0; have e1 := (b2.cell (p := ⟨w.heap.size, 1, none⟩) hlt).trans c1; have e2 := (b2.cell (p := ⟨w.heap.size, 2, none⟩) hlt).trans c2; have e3 := (b2.cell (p := ⟨w.heap.size, 3, none⟩) hlt).trans c3)) | fail
      all_goals
        have HB : Hid (Below w.heap.size w w2) := below_in ((show Below (w.alloc (.cells #[.int .i64 3, .int .i64 p, .int .i64 0, .string D] 36)).heap.size (w.alloc (.cells #[.int .i64 3, .int .i64 p, .int .i64 0, .string D] 36)) w1 from ⟨b1.os, b1.tape, b1.output, b1.size, b1.block⟩).trans (b2.mono (by simpa using b1.size)))
        clear b1 b2
        go_wp2
        go_ret2
        exact ⟨rfl, HB.out⟩
    · have hq : D.toList = [] := (empty_iff D).2 (of_decide_eq_true hb).2
      clear hb
      go_enter Tryd.func44, Tryd.ntmps44
      go_wp2_with fail
      first | go_region_with (first | (go_at_call 87; refine (HG.out _).mono ?_; rintro e w1 ⟨rfl, b1⟩; have c0 := (b1.cell (p := ⟨w.heap.size, 0, none⟩) (by go_simp)).trans (show _ = some (.int .i64 3) by go_simp); have c1 := (b1.cell (p := ⟨w.heap.size, 1, none⟩) (by go_simp)).trans (show _ = some (.int .i64 p) by go_simp); have c2 := (b1.cell (p := ⟨w.heap.size, 2, none⟩) (by go_simp)).trans (show _ = some (.int .i64 0) by go_simp); have c3 := (b1.cell (p := ⟨w.heap.size, 3, none⟩) (by go_simp)).trans (show _ = some (.string D) by go_simp)) | (go_at_call 88; refine (mrec_any p _).mono ?_; rintro e w2 ⟨rfl, b2⟩; have hlt := Nat.lt_of_lt_of_le (show w.heap.size < _ by go_simp) b1.size; have e0 := (b2.cell (p := ⟨w.heap.size, 0, none⟩) hlt).trans c0; have e1 := (b2.cell (p := ⟨w.heap.size, 1, none⟩) hlt).trans c1; have e2 := (b2.cell (p := ⟨w.heap.size, 2, none⟩) hlt).trans c2; have e3 := (b2.cell (p := ⟨w.heap.size, 3, none⟩) hlt).trans c3)) | fail
      all_goals
        have HB : Hid (Below w.heap.size w w2) := below_in ((show Below (w.alloc (.cells #[.int .i64 3, .int .i64 p, .int .i64 0, .string D] 36)).heap.size (w.alloc (.cells #[.int .i64 3, .int .i64 p, .int .i64 0, .string D] 36)) w1 from ⟨b1.os, b1.tape, b1.output, b1.size, b1.block⟩).trans (b2.mono (by simpa using b1.size)))
        clear b1 b2
        go_wp2
        go_ret2
        exact ⟨rfl, HB.out⟩
  · have hq : (0 == n) = false := by rw [beq_eq_false_iff_ne]; exact fun h => hn h.symm
    have hq2 : (n == 0) = false := by rw [beq_eq_false_iff_ne]; exact hn
    obtain rfl : b = false := by rw [← hb]; exact decide_eq_false (fun h => hn h.1)
    clear hb
    go_enter Tryd.func44, Tryd.ntmps44
    go_wp2_with fail
    first | go_region_with (first | (go_at_call 87; refine (HG.out _).mono ?_; rintro e w1 ⟨rfl, b1⟩; have c0 := (b1.cell (p := ⟨w.heap.size, 0, none⟩) (by go_simp)).trans (show _ = some (.int .i64 3) by go_simp); have c1 := (b1.cell (p := ⟨w.heap.size, 1, none⟩) (by go_simp)).trans (show _ = some (.int .i64 p) by go_simp); have c2 := (b1.cell (p := ⟨w.heap.size, 2, none⟩) (by go_simp)).trans (show _ = some (.int .i64 n) by go_simp); have c3 := (b1.cell (p := ⟨w.heap.size, 3, none⟩) (by go_simp)).trans (show _ = some (.string D) by go_simp)) | (go_at_call 88; refine (mrec_any p _).mono ?_; rintro e w2 ⟨rfl, b2⟩; have hlt := Nat.lt_of_lt_of_le (show w.heap.size < _ by go_simp) b1.size; have e0 := (b2.cell (p := ⟨w.heap.size, 0, none⟩) hlt).trans c0; have e1 := (b2.cell (p := ⟨w.heap.size, 1, none⟩) hlt).trans c1; have e2 := (b2.cell (p := ⟨w.heap.size, 2, none⟩) hlt).trans c2; have e3 := (b2.cell (p := ⟨w.heap.size, 3, none⟩) hlt).trans c3)) | fail
    all_goals
      have HB : Hid (Below w.heap.size w w2) := below_in ((show Below (w.alloc (.cells #[.int .i64 3, .int .i64 p, .int .i64 n, .string D] 36)).heap.size (w.alloc (.cells #[.int .i64 3, .int .i64 p, .int .i64 n, .string D] 36)) w1 from ⟨b1.os, b1.tape, b1.output, b1.size, b1.block⟩).trans (b2.mono (by simpa using b1.size)))
      clear b1 b2
      go_wp2
      go_ret2
      exact ⟨rfl, HB.out⟩
end Go.Proofs.YthoeffbefmhkjaaDoor
namespace Go.Proofs.YthoeffbefmhkjaaDoor
set_option maxRecDepth 100000
open Go.ChangeShapes Go.WideShapes Go.ChangeAt Go.RowKit G00541
/-- what a record does, as the program has it -/
def chgV (k p n : Int) (D : ByteArray) : Value :=
  if k = 1 then .iface 87 (.agg #[.int .i64 p, .int .i64 n, .string D])
  else if k = 2 then .iface 89 (.agg #[.int .i64 p, .int .i64 n])
  else if k = 3 then .iface 91 (.agg #[.int .i64 p])
  else .nilIface
theorem change_any (k p n : Int) (D : ByteArray) (w : World) : Calls Tryd.prog 44 #[.agg #[.int .i64 k, .int .i64 p, .int .i64 n, .string D]] w fun e w' => e = .returned (.tuple #[chgV k p n D, .bool (goodR ⟨k, p, n, D.data.toList⟩)]) ∧ Below w.heap.size w w' := by
  by_cases k1 : k = 1
  · subst k1
    have hc : chgV 1 p n D = .iface 87 (.agg #[.int .i64 p, .int .i64 n, .string D]) := rfl
    rw [hc]
    cases h : goodR ⟨1, p, n, D.data.toList⟩
    · exact change_one_no p n D w h
    · exact change_one_yes p n D w h
  by_cases k2 : k = 2
  · subst k2
    have hc : chgV 2 p n D = .iface 89 (.agg #[.int .i64 p, .int .i64 n]) := rfl
    rw [hc, good_two]
    cases h : spanR p n
    · exact change_two_no p n D w h
    · exact change_two_yes p n D w h _ rfl
  by_cases k3 : k = 3
  · subst k3
    have hc : chgV 3 p n D = .iface 91 (.agg #[.int .i64 p]) := rfl
    have hg : goodR ⟨3, p, n, D.data.toList⟩ = (markR p && decide (n = 0 ∧ D.data.toList = [])) := by
      rw [good_three]; unfold markR; rw [← Bool.decide_and, decide_eq_decide]; constructor <;> intro h <;> simp_all
    rw [hc, hg]
    cases h : markR p
    · exact change_three_no p n D w h
    · exact change_three_yes p n D w h _ rfl
  · have hc : chgV k p n D = .nilIface := by unfold chgV; rw [if_neg k1, if_neg k2, if_neg k3]
    rw [hc, good_other k1 k2 k3]
    exact change_other k p n D w k1 k2 k3
end Go.Proofs.YthoeffbefmhkjaaDoor
namespace Go.Proofs.YthoeffbefmhkjaaDoor
set_option maxRecDepth 100000
open Go.ChangeShapes Go.WideShapes Go.ChangeAt Go.RowKit G00541
set_option maxHeartbeats 400000 in
theorem igood_any (k p n : Int) (D : ByteArray) (w : World) : Calls Tryd.prog 30 #[.agg #[.int .i64 k, .int .i64 p, .int .i64 n, .string D]] w fun e w' => e = .returned (.bool (goodR ⟨k, p, n, D.data.toList⟩)) ∧ Below w.heap.size w w' := by
  have HC : Hid (∀ v, Calls Tryd.prog 44 #[.agg #[.int .i64 k, .int .i64 p, .int .i64 n, .string D]] v fun e w' => e = .returned (.tuple #[chgV k p n D, .bool (goodR ⟨k, p, n, D.data.toList⟩)]) ∧ Below v.heap.size v w') := fun v => change_any k p n D v
  generalize chgV k p n D = c at *
  generalize goodR ⟨k, p, n, D.data.toList⟩ = g at *
  go_enter Tryd.func30, Tryd.ntmps30
  go_wp2_with fail
  refine (HC.out _).mono ?_
  rintro e w1 ⟨rfl, b1⟩
  have HB : Hid (Below w.heap.size w w1) := below_in b1
  clear b1
  go_wp2
  go_ret
  exact ⟨rfl, HB.out⟩
end Go.Proofs.YthoeffbefmhkjaaDoor
namespace Go.Proofs.YthoeffbefmhkjaaDoor
set_option maxRecDepth 100000
open Go.ChangeShapes Go.WideShapes Go.ChangeAt Go.RowKit
def bitsOn (t c : Nat) : Nat → Nat
  | 0 => t
  | j + 1 => G00541.bitOn (bitsOn t c j) (c / 2 ^ (7 - j) % 2)
theorem bitsOn_lt (t c : Nat) (ht : t < 65536) : ∀ j, bitsOn t c j < 65536
  | 0 => ht
  | j + 1 => G00541.bitOn_lt _ _ (bitsOn_lt t c ht j) (G00541.mod2_lt _)
theorem bitsOn_eight (t c : Nat) : bitsOn t c 8 = G00541.byteOn t c := by
  simp only [bitsOn, G00541.byteOn, G00541.nibOn, show 7 - 0 = 7 from rfl, show 7 - 1 = 6 from rfl, show 7 - 2 = 5 from rfl, show 7 - 3 = 4 from rfl, show 7 - 4 = 3 from rfl, show 7 - 5 = 2 from rfl, show 7 - 6 = 1 from rfl, show 7 - 7 = 0 from rfl, show (2 : Nat) ^ 7 = 128 from rfl, show (2 : Nat) ^ 6 = 64 from rfl, show (2 : Nat) ^ 5 = 32 from rfl, show (2 : Nat) ^ 4 = 16 from rfl, show (2 : Nat) ^ 3 = 8 from rfl, show (2 : Nat) ^ 2 = 4 from rfl, Nat.pow_one, Nat.pow_zero, Nat.div_one]
  rw [show c / 16 / 8 % 2 = c / 128 % 2 by omega, show c / 16 / 4 % 2 = c / 64 % 2 by omega, show c / 16 / 2 % 2 = c / 32 % 2 by omega, show c % 16 / 8 % 2 = c / 8 % 2 by omega, show c % 16 / 4 % 2 = c / 4 % 2 by omega, show c % 16 / 2 % 2 = c / 2 % 2 by omega, show c % 16 % 2 = c % 2 by omega]
theorem bit_val (x c m : Nat) (hx : x < 65536) (hc : c < 256) : bits .or .i64 ((x : Int) * 2) (bits .and .i64 (wrap64 ((c : Int) / 2 ^ m)) 1) = ((2 * x + c / 2 ^ m % 2 : Nat) : Int) := by
  have hle : c / 2 ^ m ≤ c := Nat.div_le_self _ _
  have e1 : (c : Int) / 2 ^ m = ((c / 2 ^ m : Nat) : Int) := by rw [Int.natCast_ediv, Int.natCast_pow]; rfl
  rw [e1]
  generalize c / 2 ^ m = q at *
  have e2 : wrap64 (q : Int) = (q : Int) := by unfold wrap64; omega
  have hb := G00541.mod2_lt q
  rw [e2, show (1 : Int) = ((1 : Nat) : Int) from rfl, i64_and _ _ (by omega) (by decide), nat_mask1, show (x : Int) * 2 = ((x * 2 : Nat) : Int) by omega, i64_or _ _ (by omega) (by omega), nat_join 1 _ _ (by omega) hb]
  omega
theorem bit_hi (x c m : Nat) (hx : x < 65536) (hc : c < 256) (h : 65535 < bits .or .i64 ((x : Int) * 2) (bits .and .i64 (wrap64 ((c : Int) / 2 ^ m)) 1)) :
    bits .xor .i64 (bits .or .i64 ((x : Int) * 2) (bits .and .i64 (wrap64 ((c : Int) / 2 ^ m)) 1)) 69665 = ((G00541.bitOn x (c / 2 ^ m % 2) : Nat) : Int) := by
  have hb := G00541.mod2_lt (c / 2 ^ m)
  rw [bit_val x c m hx hc] at h ⊢
  rw [show (69665 : Int) = ((69665 : Nat) : Int) from rfl, i64_xor _ _ (by omega) (by decide)]
  unfold G00541.bitOn
  rw [if_pos (by omega)]
theorem bit_lo (x c m : Nat) (hx : x < 65536) (hc : c < 256) (h : bits .or .i64 ((x : Int) * 2) (bits .and .i64 (wrap64 ((c : Int) / 2 ^ m)) 1) ≤ 65535) :
    bits .or .i64 ((x : Int) * 2) (bits .and .i64 (wrap64 ((c : Int) / 2 ^ m)) 1) = ((G00541.bitOn x (c / 2 ^ m % 2) : Nat) : Int) := by
  rw [bit_val x c m hx hc] at h ⊢
  unfold G00541.bitOn
  rw [if_neg (by omega)]
theorem val_int {k : IntKind} {a b : Int} (h : a = b) : Value.int k a = .int k b := by rw [h]
set_option maxHeartbeats 1000000 in
theorem specOn_any (n : Nat) (s : ByteArray) (w : World) (hn : n < 65536) (hs : s.size ≤ maxLen) :
    Calls Tryd.prog 63 #[.int .i64 n, .string s] w fun e w' => e = .returned (.int .i64 (G00541.sumOn n s.data.toList : Nat)) ∧ w' = w := by
  unfold maxLen at hs
  go_enter Tryd.func63, Tryd.ntmps63
  go_wp2
  go_loop [0, 5] (fun t i => ∃ k : Nat, k ≤ s.size ∧ i = .int .i64 k ∧ t = .int .i64 (G00541.sumOn n (s.data.toList.take k) : Nat)) (fun _ i => s.size - (intOf i).toNat)
  case atStart => exact ⟨0, Nat.zero_le _, rfl, rfl⟩
  case round =>
    obtain ⟨k, hk, rfl, rfl⟩ := hrel
    have hl := G00541.sumOn_lt (s.data.toList.take k) n hn
    by_cases hlt : k < s.size
    · have HS : Hid (G00541.sumOn n (s.data.toList.take (k + 1)) = G00541.byteOn (G00541.sumOn n (s.data.toList.take k)) s[k].toNat) := by rw [btake_snoc s k hlt]; exact G00541.sumOn_snoc _ _ _
      generalize G00541.sumOn n (s.data.toList.take k) = t at *
      have hb : s[k].toNat < 256 := s[k].toNat_lt
      go_wp2
      go_loop [0, 6] (fun x b => ∃ j : Nat, j ≤ 8 ∧ b = .int .i64 (7 - (j : Int)) ∧ x = .int .i64 (bitsOn t s[k].toNat j : Nat)) (fun _ b => (intOf b + 1).toNat)
      case atStart => exact ⟨0, by decide, rfl, rfl⟩
      case round =>
        obtain ⟨j, hj, rfl, rfl⟩ := hrel
        have hx := bitsOn_lt t s[k].toNat hl j
        by_cases hjl : j < 8
        · generalize hbx : bitsOn t s[k].toNat j = x at *
          have HX : Hid (bitsOn t s[k].toNat j = x) := hbx
          clear hbx
          go_wp2
          · have h9 : 65535 < bits .or .i64 ((x : Int) * 2) (bits .and .i64 (wrap64 ((s[k].toNat : Int) / 2 ^ (7 - j))) 1) := by assumption
            go_round
            case rel => exact ⟨j + 1, by omega, val_int (by omega), val_int (by rw [bit_hi x _ _ hx hb h9, bitsOn, HX.out])⟩
            case measure => simp [intOf]; omega
          · have h9 : bits .or .i64 ((x : Int) * 2) (bits .and .i64 (wrap64 ((s[k].toNat : Int) / 2 ^ (7 - j))) 1) ≤ 65535 := by assumption
            go_round
            case rel => exact ⟨j + 1, by omega, val_int (by omega), val_int (by rw [bit_lo x _ _ hx hb h9, bitsOn, HX.out])⟩
            case measure => simp [intOf]; omega
        · obtain rfl : j = 8 := by omega
          go_wp2
          go_round
          case rel => exact ⟨k + 1, by omega, by go_num, val_int (by rw [HS.out, bitsOn_eight])⟩
          case measure => simp [intOf]; omega
    · go_wp2
      go_ret
      exact ⟨ret_int (by rw [List.take_of_length_le (by simp; omega)]), rfl⟩
end Go.Proofs.YthoeffbefmhkjaaDoor
namespace Go.Proofs.YthoeffbefmhkjaaDoor
set_option maxRecDepth 100000
open Go.ChangeShapes Go.WideShapes Go.ChangeAt Go.RowKit
def okSum (n : Int) (s : ByteArray) : Bool := decide (0 ≤ n ∧ n < 65536 ∧ s.size ≤ 400)
def valSum (n : Int) (s : ByteArray) : Int := if okSum n s = true then ((G00541.sumOn n.toNat s.data.toList : Nat) : Int) else 0
theorem okSum_yes {n : Nat} {s : ByteArray} (h1 : n < 65536) (h2 : s.size ≤ 400) : okSum n s = true := by unfold okSum; simp; omega
theorem valSum_yes {n : Nat} {s : ByteArray} (h1 : n < 65536) (h2 : s.size ≤ 400) : valSum n s = ((G00541.sumOn n s.data.toList : Nat) : Int) := by
  unfold valSum; rw [if_pos (okSum_yes h1 h2), Int.toNat_natCast]
theorem okSum_no {n : Int} {s : ByteArray} (h : n < 0 ∨ 65536 ≤ n ∨ 400 < s.size) : okSum n s = false := by unfold okSum; simp; omega
theorem valSum_no {n : Int} {s : ByteArray} (h : n < 0 ∨ 65536 ≤ n ∨ 400 < s.size) : valSum n s = 0 := by
  unfold valSum; rw [if_neg (by rw [okSum_no h]; decide)]
theorem good_or (n : Int) (s : ByteArray) : (∃ m : Nat, n = m ∧ m < 65536 ∧ s.size ≤ 400) ∨ (n < 0 ∨ 65536 ≤ n ∨ 400 < s.size) := by
  by_cases h : 0 ≤ n ∧ n < 65536 ∧ s.size ≤ 400
  · exact Or.inl ⟨n.toNat, by omega, by omega, h.2.2⟩
  · exact Or.inr (by omega)
set_option maxHeartbeats 400000 in
theorem implOn_bad (n : Int) (s : ByteArray) (w : World) (hs : s.size ≤ 9223372036854775807) (h : n < 0 ∨ 65536 ≤ n ∨ 400 < s.size) :
    Calls Tryd.prog 61 #[.int .i64 n, .string s] w fun e w' => e = .returned (.tuple #[.int .i64 0, .bool false]) ∧ w' = w := by
  by_cases hn : n < 0 ∨ 65536 ≤ n
  · go_enter Tryd.func61, Tryd.ntmps61
    go_wp2_with (go_at_call 64; refine (isSum_no _ _ hn).mono ?_; rintro e w' ⟨rfl, rfl⟩)
    go_ret2
    exact ⟨rfl, rfl⟩
  · have hd : decide ((400 : Int) < (s.size : Int)) = true := by simp; omega
    go_enter Tryd.func61, Tryd.ntmps61
    go_wp2_with (go_at_call 64; refine (isSum_yes _ _ (by omega) (by omega)).mono ?_; rintro e w' ⟨rfl, rfl⟩)
    go_ret2
    exact ⟨rfl, rfl⟩
theorem implOn_any (n : Int) (s : ByteArray) (w : World) (hT : Tab w) (hs : s.size ≤ 9223372036854775807) :
    Calls Tryd.prog 61 #[.int .i64 n, .string s] w fun e w' => e = .returned (.tuple #[.int .i64 (valSum n s), .bool (okSum n s)]) ∧ w' = w := by
  rcases good_or n s with ⟨m, rfl, h1, h2⟩ | h
  · rw [okSum_yes h1 h2, valSum_yes h1 h2]; exact implOn_good m s w hT h1 h2
  · rw [okSum_no h, valSum_no h]; exact implOn_bad n s w hs h
set_option maxHeartbeats 400000 in
theorem implOf_any (s : ByteArray) (w : World) (hT : Tab w) (hs : s.size ≤ 9223372036854775807) :
    Calls Tryd.prog 55 #[.string s] w fun e w' => e = .returned (.tuple #[.int .i64 (valSum 0 s), .bool (okSum 0 s)]) ∧ w' = w := by
  go_enter Tryd.func55, Tryd.ntmps55
  go_wp2_with (go_at_call 61; refine (implOn_any _ _ _ hT hs).mono ?_; rintro e w' ⟨rfl, rfl⟩)
  go_ret2
  exact ⟨rfl, rfl⟩
end Go.Proofs.YthoeffbefmhkjaaDoor
