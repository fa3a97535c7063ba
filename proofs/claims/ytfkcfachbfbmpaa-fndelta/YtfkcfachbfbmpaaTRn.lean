/- RollOf and RollOn, of both sides. -/
import Derived.Test.YtfkcfachbfbmpaaTRi
namespace Go.Proofs.Ytfkcfachbfbmpaa
set_option maxRecDepth 100000
open Go Go.ChangeShapes Go.WideShapes Go.ChangeAt Go.RowKit
def lessN (n m : Nat) : Nat := (n + 251 - m % 251) % 251
theorem lessN_lt (n m : Nat) : lessN n m < 251 := Nat.mod_lt _ (by decide)
theorem less_tmod (n m : Nat) : ∃ q : Int, Int.tmod ((n : Int) - (m : Int)) 251 = q ∧ -251 < q ∧ q < 251 ∧ (q + 251) % 251 = (lessN n m : Nat) := by
  refine ⟨_, rfl, ?_⟩
  unfold lessN
  by_cases h : m ≤ n
  · rw [Int.tmod_eq_emod_of_nonneg (by omega)]
    omega
  · have e : ((n : Int) - (m : Int)) = -((m : Int) - (n : Int)) := by omega
    rw [e, Int.neg_tmod, Int.tmod_eq_emod_of_nonneg (by omega)]
    omega
set_option maxHeartbeats 400000 in
theorem lessBy_any (n m : Nat) (w : World) (hn : n ≤ 1048576) (hm : m ≤ 1048576) : Calls Try.prog 61 #[.int .i64 n, .int .i64 m] w fun e w' => e = .returned (.int .i64 (lessN n m : Nat)) ∧ w' = w := by
  obtain ⟨q, hq, q1, q2, q3⟩ := less_tmod n m
  generalize lessN n m = r at *
  go_enter Try.func61, Try.ntmps61
  go_wp2
  go_ret
  exact ⟨ret_in (by omega), rfl⟩
set_option maxHeartbeats 1000000 in
theorem letOut_any (R a b x n : Nat) (w : World) (hx : x < 256) (hn : n ≤ 120) (ha : a < 251) (hb : b < 251) (h : RB R a b w) :
    Calls Try.prog 58 #[.pointer (some ⟨R, 0, none⟩), .int .u8 x, .int .i64 n] w fun e w' => e = .returned (.tuple #[]) ∧ RB R (lessN a x) (lessN b (n * x)) w' ∧ But R w w' := by
  have HR := hid h
  have a0 := h.c0
  have b0 := h.c1
  have f0 := h.f 0
  have f1 := h.f 1
  have hp : n * x ≤ 120 * 256 := Nat.mul_le_mul hn (by omega)
  have e : ((n : Int) * (x : Int)) = ((n * x : Nat) : Int) := by rw [Int.natCast_mul]
  generalize n * x = p at *
  have HL1 := hid (fun v => lessBy_any a x v (by omega) (by omega))
  have HL2 := hid (fun v => lessBy_any b p v (by omega) (by omega))
  generalize lessN a x = la at *
  generalize lessN b p = lb at *
  clear h
  go_enter Try.func58, Try.ntmps58
  go_wp2_with fail
  refine (HL1.out _).mono ?_
  rintro e w1 ⟨rfl, hw1⟩
  rw [hw1]
  clear hw1
  go_wp2_with fail
  refine (HL2.out _).mono ?_
  rintro e w1 ⟨rfl, hw1⟩
  rw [hw1]
  clear hw1
  go_wp2_with fail
  go_end0
  exact ⟨rfl, (HR.out.s0 _).s1 _, ((But.refl _ _).setCell _ _).setCell _ _⟩
theorem onA_less (a x y : Nat) (hx : x < 256) (ha : a < 251) : (lessN a x + y) % 251 = onA a x y := by unfold lessN onA; omega
theorem onB_less (a b x y n : Nat) (hx : x < 256) (ha : a < 251) (hb : b < 251) : (lessN b (n * x) + (lessN a x + y) % 251) % 251 = onB a b x y n := by
  rw [onA_less a x y hx ha]
  unfold lessN onB
  generalize n * x = p
  omega
set_option maxHeartbeats 1000000 in
theorem on_any (R a b x y n : Nat) (w : World) (hx : x < 256) (hy : y < 256) (hn : n ≤ 120) (ha : a < 251) (hb : b < 251) (h : RB R a b w) :
    Calls Try.prog 47 #[.pointer (some ⟨R, 0, none⟩), .int .u8 x, .int .u8 y, .int .i64 n] w fun e w' => e = .returned (.int .i64 (256 * onB a b x y n + onA a x y : Nat)) ∧ RB R (onA a x y) (onB a b x y n) w' ∧ But R w w' := by
  have HL := hid (letOut_any R a b x n w hx hn ha hb h)
  have HT : Hid (∀ v, RB R (lessN a x) (lessN b (n * x)) v → Calls Try.prog 57 #[.pointer (some ⟨R, 0, none⟩), .int .u8 y] v fun e w' => e = .returned (.tuple #[]) ∧ RB R (onA a x y) (onB a b x y n) w' ∧ But R v w') := fun v hv => by
    have := takeIn_any R _ _ y v hy (lessN_lt _ _) (lessN_lt _ _) hv
    rw [onB_less a b x y n hx ha hb, onA_less a x y hx ha] at this
    exact this
  have HS := hid (fun v => rsum_any R (onA a x y) (onB a b x y n) v (onA_lt _ _ _) (onB_lt _ _ _ _ _))
  generalize onA a x y = oa at *
  generalize onB a b x y n = ob at *
  clear h
  go_enter Try.func47, Try.ntmps47
  go_wp2_with fail
  refine HL.out.mono ?_
  rintro e w1 ⟨rfl, r1, b1⟩
  have HR1 := hid r1
  have HB1 := hid b1
  clear r1 b1
  go_wp2_with fail
  refine (HT.out _ HR1.out).mono ?_
  rintro e w2 ⟨rfl, r2, b2⟩
  have HR2 := hid r2
  have HB2 := hid (HB1.out.trans b2)
  clear r2 b2
  go_wp2_with fail
  refine (HS.out _ HR2.out).mono ?_
  rintro e w3 ⟨rfl, b3, r3⟩
  have HR3 := hid r3
  have HB3 := hid (HB2.out.trans (But.ofBelow b3))
  clear r3 b3
  go_wp2_with fail
  go_ret
  exact ⟨rfl, HR3.out, HB3.out⟩
/-- what RollOf answers -/
def rollV (s : ByteArray) : Nat := cond (decide (s.size ≤ 120)) (rollT s) 0
set_option maxHeartbeats 400000 in
theorem sRollOf_any (s : ByteArray) (w : World) : Calls Try.prog 22 #[.string s] w fun e w' => e = .returned (.tuple #[.int .i64 (rollV s : Nat), .bool (decide (s.size ≤ 120))]) ∧ w' = w := by
  have HL := hid (long_any s w)
  by_cases h : s.size ≤ 120
  · have HV : Hid (rollV s = rollT s) := by show rollV s = _; unfold rollV; rw [decide_eq_true h]; rfl
    have HS := hid (sroll_any s w h)
    rw [HV.out, decide_eq_true h]
    rw [decide_eq_true h] at HL
    generalize rollT s = r at *
    go_enter Try.func22, Try.ntmps22
    go_wp2_with fail
    refine HL.out.mono ?_
    rintro e w1 ⟨rfl, hw1⟩
    rw [hw1]
    clear hw1
    go_wp2_with fail
    refine HS.out.mono ?_
    rintro e w1 ⟨rfl, hw1⟩
    rw [hw1]
    clear hw1
    go_wp2_with fail
    go_ret2
    exact ⟨rfl, rfl⟩
  · have HV : Hid (rollV s = 0) := by show rollV s = _; unfold rollV; rw [decide_eq_false h]; rfl
    rw [HV.out, decide_eq_false h]
    rw [decide_eq_false h] at HL
    go_enter Try.func22, Try.ntmps22
    go_wp2_with fail
    refine HL.out.mono ?_
    rintro e w1 ⟨rfl, hw1⟩
    rw [hw1]
    clear hw1
    go_wp2_with fail
    go_ret2
    exact ⟨rfl, rfl⟩
set_option maxHeartbeats 1000000 in
theorem iRollOf_any (s : ByteArray) (w : World) : Calls Try.prog 21 #[.string s] w fun e w' => e = .returned (.tuple #[.int .i64 (rollV s : Nat), .bool (decide (s.size ≤ 120))]) ∧ Below w.heap.size w w' := by
  have HL := hid (isText_any s w)
  by_cases h : s.size ≤ 120
  · have HV : Hid (rollV s = 256 * (sumB (byN s) % 251) + sumA (byN s) % 251) := by show rollV s = _; unfold rollV; rw [decide_eq_true h]; rfl
    have HS := hid (rollOf_any s w (by omega))
    have HM := hid (fun R v => rsum_any R (sumA (byN s) % 251) (sumB (byN s) % 251) v (Nat.mod_lt _ (by decide)) (Nat.mod_lt _ (by decide)))
    rw [HV.out, decide_eq_true h]
    rw [decide_eq_true h] at HL
    generalize sumA (byN s) % 251 = ra at *
    generalize sumB (byN s) % 251 = rb at *
    clear HV
    go_enter Try.func21, Try.ntmps21
    go_wp2_with fail
    refine HL.out.mono ?_
    rintro e w1 ⟨rfl, hw1⟩
    rw [hw1]
    clear hw1
    go_wp2_with fail
    refine HS.out.mono ?_
    rintro e w1 ⟨rfl, b1⟩
    have g1 := boxB w1 (.cells #[.int .i64 ra, .int .i64 rb] 69)
    have k1 := heap_last w1 (.cells #[.int .i64 ra, .int .i64 rb] 69)
    generalize hW1 : w1.alloc (.cells #[.int .i64 ra, .int .i64 rb] 69) = w2 at *
    have HB2 := hid (b1.trans (g1.mono b1.size))
    have HK := hid (HM.out _ _ k1)
    clear b1 g1 k1
    go_wp2_with fail
    refine HK.out.mono ?_
    rintro e w3 ⟨rfl, b3, _⟩
    have HB3 := hid (HB2.out.trans (b3.mono HB2.out.size))
    clear b3
    go_wp2_with fail
    go_ret2
    exact ⟨rfl, HB3.out⟩
  · have HV : Hid (rollV s = 0) := by show rollV s = _; unfold rollV; rw [decide_eq_false h]; rfl
    rw [HV.out, decide_eq_false h]
    rw [decide_eq_false h] at HL
    go_enter Try.func21, Try.ntmps21
    go_wp2_with fail
    refine HL.out.mono ?_
    rintro e w1 ⟨rfl, hw1⟩
    rw [hw1]
    clear hw1
    go_wp2_with fail
    go_ret2
    exact ⟨rfl, Below.refl _ _⟩
end Go.Proofs.Ytfkcfachbfbmpaa
