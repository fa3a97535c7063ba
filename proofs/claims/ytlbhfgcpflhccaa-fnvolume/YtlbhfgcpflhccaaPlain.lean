/- Sums of bytes, bit by bit and by fours of bits: plain numbers. -/
namespace G00541
/-- one bit goes on behind a sum -/
def bitOn (s b : Nat) : Nat := if 65536 ≤ 2 * s + b then (2 * s + b) ^^^ 69665 else 2 * s + b
def nibOn (s f : Nat) : Nat := bitOn (bitOn (bitOn (bitOn s (f / 8 % 2)) (f / 4 % 2)) (f / 2 % 2)) (f % 2)
def byteOn (s c : Nat) : Nat := nibOn (nibOn s (c / 16)) (c % 16)
def sumOn (s : Nat) (l : List UInt8) : Nat := l.foldl (fun s c => byteOn s c.toNat) s
def tab : List Nat := [0, 4129, 8258, 12387, 16516, 20645, 24774, 28903, 33032, 37161, 41290, 45419, 49548, 53677, 57806, 61935]

theorem dbl_xor (x y b c : Nat) (hb : b < 2) (hc : c < 2) : 2 * (x ^^^ y) + (b ^^^ c) = (2 * x + b) ^^^ (2 * y + c) := by
  have hbc : b ^^^ c < 2 := Nat.xor_lt_two_pow (n := 1) hb hc
  apply Nat.eq_of_testBit_eq
  intro i
  rw [Nat.testBit_xor]
  cases i with
  | zero => rcases (by omega : b = 0 ∨ b = 1) with rfl | rfl <;> rcases (by omega : c = 0 ∨ c = 1) with rfl | rfl <;> simp [Nat.testBit_zero] <;> omega
  | succ i =>
    rw [Nat.testBit_succ, Nat.testBit_succ, Nat.testBit_succ, show (2 * (x ^^^ y) + (b ^^^ c)) / 2 = x ^^^ y by omega, show (2 * x + b) / 2 = x by omega, show (2 * y + c) / 2 = y by omega, Nat.testBit_xor]
theorem top_iff (s b : Nat) (hs : s < 65536) (hb : b < 2) : 65536 ≤ 2 * s + b ↔ s.testBit 15 = true := by
  rw [Nat.testBit_eq_decide_div_mod_eq]
  simp
  omega
theorem bitOn_eq (s b : Nat) (hs : s < 65536) (hb : b < 2) : bitOn s b = (2 * s + b) ^^^ (if s.testBit 15 = true then 69665 else 0) := by
  unfold bitOn
  by_cases h : 65536 ≤ 2 * s + b
  · rw [if_pos h, if_pos ((top_iff s b hs hb).1 h)]
  · rw [if_neg h, if_neg (fun k => h ((top_iff s b hs hb).2 k)), Nat.xor_zero]
theorem bitOn_lt (s b : Nat) (hs : s < 65536) (hb : b < 2) : bitOn s b < 65536 := by
  rw [bitOn_eq s b hs hb]
  have h17 : ∀ t : Bool, (2 * s + b) ^^^ (if t = true then 69665 else 0) < 131072 := by
    intro t
    exact Nat.xor_lt_two_pow (n := 17) (by omega) (by split <;> decide)
  have h16 : ((2 * s + b) ^^^ (if s.testBit 15 = true then 69665 else 0)).testBit 16 = false := by
    rw [Nat.testBit_xor, Nat.testBit_succ, show (2 * s + b) / 2 = s by omega]
    cases h : s.testBit 15 <;> simp <;> decide
  have := h17 (s.testBit 15)
  rw [Nat.testBit_eq_decide_div_mod_eq] at h16
  simp at h16
  omega
theorem xor_lc (a b c : Nat) : a ^^^ (b ^^^ c) = b ^^^ (a ^^^ c) := by rw [← Nat.xor_assoc, Nat.xor_comm a b, Nat.xor_assoc]
theorem bitOn_xor (x y b c : Nat) (hx : x < 65536) (hy : y < 65536) (hb : b < 2) (hc : c < 2) : bitOn (x ^^^ y) (b ^^^ c) = bitOn x b ^^^ bitOn y c := by
  have hbc : b ^^^ c < 2 := Nat.xor_lt_two_pow (n := 1) hb hc
  have hxy : x ^^^ y < 65536 := Nat.xor_lt_two_pow (n := 16) hx hy
  rw [bitOn_eq _ _ hxy hbc, bitOn_eq x b hx hb, bitOn_eq y c hy hc, dbl_xor x y b c hb hc, Nat.testBit_xor]
  generalize 2 * x + b = p
  generalize 2 * y + c = q
  cases x.testBit 15 <;> cases y.testBit 15
  · simp
  · simp [Nat.xor_assoc]
  · simp only [Bool.true_bne, Bool.not_false, if_true, Bool.false_eq_true, if_false, Nat.xor_zero]
    rw [Nat.xor_assoc, Nat.xor_comm q, ← Nat.xor_assoc]
  · simp only [bne_self_eq_false, Bool.false_eq_true, if_false, if_true, Nat.xor_zero]
    rw [Nat.xor_assoc, xor_lc 69665 q, Nat.xor_self, Nat.xor_zero]
theorem bitOn_small (y b : Nat) (hy : y < 32768) (hb : b < 2) : bitOn y b = 2 * y + b := by unfold bitOn; rw [if_neg (by omega)]

theorem mod2_lt (n : Nat) : n % 2 < 2 := Nat.mod_lt _ (by decide)
theorem nibOn_lt (s f : Nat) (hs : s < 65536) : nibOn s f < 65536 := by
  unfold nibOn
  exact bitOn_lt _ _ (bitOn_lt _ _ (bitOn_lt _ _ (bitOn_lt _ _ hs (mod2_lt _)) (mod2_lt _)) (mod2_lt _)) (mod2_lt _)
theorem byteOn_lt (s c : Nat) (hs : s < 65536) : byteOn s c < 65536 := nibOn_lt _ _ (nibOn_lt _ _ hs)
theorem sumOn_lt (l : List UInt8) : ∀ s, s < 65536 → sumOn s l < 65536 := by
  induction l with
  | nil => intro s hs; exact hs
  | cons c l ih => intro s hs; exact ih _ (byteOn_lt _ _ hs)
theorem sumOn_append (s : Nat) (l m : List UInt8) : sumOn s (l ++ m) = sumOn (sumOn s l) m := List.foldl_append
theorem sumOn_snoc (s : Nat) (l : List UInt8) (c : UInt8) : sumOn s (l ++ [c]) = byteOn (sumOn s l) c.toNat := by rw [sumOn_append]; rfl
theorem sumOn_cons (s : Nat) (l : List UInt8) (c : UInt8) : sumOn s (c :: l) = sumOn (byteOn s c.toNat) l := rfl

theorem four_zero (hi : Nat) (h : hi < 16) : bitOn (bitOn (bitOn (bitOn (4096 * hi) 0) 0) 0) 0 = tab.getD hi 0 := by
  have all : ∀ j : Fin 16, bitOn (bitOn (bitOn (bitOn (4096 * j.val) 0) 0) 0) 0 = tab.getD j.val 0 := by decide +kernel
  exact all ⟨hi, h⟩
theorem split_xor (s : Nat) : s = (s % 4096) ^^^ (4096 * (s / 4096)) := by
  have h := Nat.two_pow_add_eq_or_of_lt (i := 12) (b := s % 4096) (Nat.mod_lt _ (by decide)) (s / 4096)
  have e : s = 4096 * (s / 4096) ||| s % 4096 := by rw [← h]; omega
  have d : (s % 4096) ^^^ (4096 * (s / 4096)) = 4096 * (s / 4096) ||| s % 4096 := by
    apply Nat.eq_of_testBit_eq; intro i
    rw [Nat.testBit_xor, Nat.testBit_or, show 4096 * (s / 4096) = 2 ^ 12 * (s / 4096) from rfl, Nat.testBit_two_pow_mul, show s % 4096 = s % 2 ^ 12 from rfl, Nat.testBit_mod_two_pow]
    by_cases hi : i < 12
    · simp [hi, show ¬ 12 ≤ i by omega]
    · simp [hi]
  rw [d]; exact e
theorem xor_zero_of (b : Nat) : b = b ^^^ 0 := (Nat.xor_zero b).symm
theorem step_split (y k b : Nat) (hy : y < 32768) (hk : k < 65536) (hb : b < 2) : bitOn (y ^^^ k) b = (2 * y + b) ^^^ bitOn k 0 := by
  conv => lhs; rw [xor_zero_of b]
  rw [bitOn_xor y k b 0 (by omega) hk hb (by decide), bitOn_small y b hy hb]
theorem nibOn_tab (s f : Nat) (hs : s < 65536) (hf : f < 16) : nibOn s f = (16 * (s % 4096) + f) ^^^ tab.getD (s / 4096) 0 := by
  have h0 : 4096 * (s / 4096) < 65536 := by omega
  have h1 := bitOn_lt _ 0 h0 (by decide)
  have h2 := bitOn_lt _ 0 h1 (by decide)
  have h3 := bitOn_lt _ 0 h2 (by decide)
  have hm : s % 4096 < 4096 := Nat.mod_lt _ (by decide)
  unfold nibOn
  conv => lhs; rw [split_xor s]
  rw [step_split _ _ _ (by omega) h0 (mod2_lt _), step_split _ _ _ (by omega) h1 (mod2_lt _), step_split _ _ _ (by omega) h2 (mod2_lt _), step_split _ _ _ (by omega) h3 (mod2_lt _), four_zero _ (by omega)]
  congr 1
  omega
theorem div_mod2_xor (f g k : Nat) : (f ^^^ g) / 2 ^ k % 2 = (f / 2 ^ k % 2) ^^^ (g / 2 ^ k % 2) := by
  have h : ∀ n : Nat, n / 2 ^ k % 2 = (n.testBit k).toNat := fun n => (Nat.toNat_testBit n k).symm
  rw [h, h, h, Nat.testBit_xor]
  cases f.testBit k <;> cases g.testBit k <;> rfl
theorem nibOn_xor (x y f g : Nat) (hx : x < 65536) (hy : y < 65536) : nibOn (x ^^^ y) (f ^^^ g) = nibOn x f ^^^ nibOn y g := by
  have e3 := div_mod2_xor f g 3
  have e2 := div_mod2_xor f g 2
  have e1 := div_mod2_xor f g 1
  have e0 := div_mod2_xor f g 0
  simp only [show (2 : Nat) ^ 3 = 8 from rfl, show (2 : Nat) ^ 2 = 4 from rfl, Nat.pow_one, Nat.pow_zero, Nat.div_one] at e3 e2 e1 e0
  unfold nibOn
  have a1 := bitOn_lt x (f / 8 % 2) hx (mod2_lt _)
  have b1 := bitOn_lt y (g / 8 % 2) hy (mod2_lt _)
  have a2 := bitOn_lt _ (f / 4 % 2) a1 (mod2_lt _)
  have b2 := bitOn_lt _ (g / 4 % 2) b1 (mod2_lt _)
  have a3 := bitOn_lt _ (f / 2 % 2) a2 (mod2_lt _)
  have b3 := bitOn_lt _ (g / 2 % 2) b2 (mod2_lt _)
  rw [e3, e2, e1, e0, bitOn_xor _ _ _ _ hx hy (mod2_lt _) (mod2_lt _), bitOn_xor _ _ _ _ a1 b1 (mod2_lt _) (mod2_lt _), bitOn_xor _ _ _ _ a2 b2 (mod2_lt _) (mod2_lt _), bitOn_xor _ _ _ _ a3 b3 (mod2_lt _) (mod2_lt _)]
theorem div16_xor (c d : Nat) : (c ^^^ d) / 16 = (c / 16) ^^^ (d / 16) := by
  have := @Nat.shiftRight_xor_distrib 4 c d
  simpa [Nat.shiftRight_eq_div_pow] using this
theorem mod16_xor (c d : Nat) : (c ^^^ d) % 16 = (c % 16) ^^^ (d % 16) := by
  have := @Nat.xor_mod_two_pow c d 4
  simpa using this
theorem byteOn_xor (x y c d : Nat) (hx : x < 65536) (hy : y < 65536) : byteOn (x ^^^ y) (c ^^^ d) = byteOn x c ^^^ byteOn y d := by
  unfold byteOn
  rw [div16_xor, mod16_xor, nibOn_xor _ _ _ _ hx hy, nibOn_xor _ _ _ _ (nibOn_lt _ _ hx) (nibOn_lt _ _ hy)]
theorem sumOn_xor : ∀ (a b : List UInt8) (x y : Nat), a.length = b.length → x < 65536 → y < 65536 → sumOn (x ^^^ y) (List.zipWith (fun c d => c ^^^ d) a b) = sumOn x a ^^^ sumOn y b
  | [], [], _, _, _, _, _ => rfl
  | [], _ :: _, _, _, h, _, _ => by cases h
  | _ :: _, [], _, _, h, _, _ => by cases h
  | c :: a, d :: b, x, y, h, hx, hy => by
    rw [List.zipWith_cons_cons, sumOn_cons, sumOn_cons, sumOn_cons, UInt8.toNat_xor, byteOn_xor _ _ _ _ hx hy]
    exact sumOn_xor a b _ _ (by simpa using h) (byteOn_lt _ _ hx) (byteOn_lt _ _ hy)
theorem zip_zeros : ∀ b : List UInt8, List.zipWith (fun c d => c ^^^ d) (List.replicate b.length 0) b = b
  | [] => rfl
  | d :: b => by
    rw [List.length_cons, List.replicate_succ, List.zipWith_cons_cons, zip_zeros b]
    simp
theorem sumOn_zeros (h : Nat) (b : List UInt8) (hh : h < 65536) : sumOn h (List.replicate b.length 0) ^^^ sumOn 0 b = sumOn h b := by
  rw [← sumOn_xor _ _ _ _ (by simp) hh (by decide), zip_zeros, Nat.xor_zero]
end G00541
