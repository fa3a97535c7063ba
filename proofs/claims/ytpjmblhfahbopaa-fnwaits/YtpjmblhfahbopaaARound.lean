/- math.Round at whole numbers, and what counts a way's steps. -/
import Derived.Test.YtpjmblhfahbopaaFlM
import Derived.Test.YtpjmblhfahbopaaAOpen
import Derived.Laws.BitsAllLaws
import Derived.Laws.ComplexArith
import Derived.Laws.Externs
namespace Go.Proofs.Ytpjmblhfahbopaa
set_option maxRecDepth 100000
open Go Go.ChangeShapes Go.WideShapes Go.ChangeAt Go.RowKit
theorem bits_run (b : Nat) (w : World) : (callFunc 63 #[.float .f64 b]).run Try.prog w = .ok (.value (.int .u64 (b : Int))) w := by
  rw [run_callFunc_extern Try.func63 (by kernel_rfl) (by kernel_rfl) (by kernel_rfl) (e := Extern.MathFloatBits.float64bits) (by kernel_rfl)]
  rfl
theorem from_run (b : Nat) (w : World) : (callFunc 64 #[.int .u64 (b : Int)]).run Try.prog w = .ok (.value (.float .f64 b)) w := by
  rw [run_callFunc_extern Try.func64 (by kernel_rfl) (by kernel_rfl) (by kernel_rfl) (e := Extern.MathFloatBits.float64frombits) (by kernel_rfl)]
  rfl
/-- the exponent of a word -/
def expo (b : Nat) : Int := bits BinOp.and IntKind.u64 ((b : Int) / 4503599627370496) 2047
/-- a word whose fraction below its point is nought: rounded it is itself -/
def wholeB (b : Nat) : Bool := decide (1023 ≤ expo b) && decide (expo b < 1075) &&
  decide (bits BinOp.andNot IntKind.u64 (IntKind.u64.wrap ((b : Int) + 2251799813685248 / 2 ^ (expo b - 1023).toNat)) (4503599627370495 / 2 ^ (expo b - 1023).toNat) = (b : Int))
theorem whole_all : (List.range 2000).all (fun n => wholeB (fl (n + 1))) = true := by decide +kernel
theorem whole_at (n : Nat) (h1 : 1 ≤ n) (h2 : n ≤ 2000) : wholeB (fl n) = true := by
  have := (List.all_eq_true.1 whole_all) (n - 1) (List.mem_range.2 (by omega))
  rwa [Nat.sub_add_cancel h1] at this
theorem toInt_at (n : Nat) (h2 : n ≤ 2000) : floatToIntVal .f64 (fl n) .i64 = some (n : Int) := by
  have := (List.all_eq_true.1 fl_small) n (List.mem_range.2 (by omega))
  exact eq_of_beq this
set_option maxHeartbeats 2000000 in
theorem round_fl (n : Nat) (hn : n ≤ 2000) (w : World) : Calls Try.prog 52 #[.float .f64 (fl n)] w fun e w' => e = .returned (.float .f64 (fl n)) ∧ w' = w := by
  by_cases h0 : n = 0
  · subst h0
    have h1 : ∀ w, (callFunc 63 #[.float .f64 0]).run Try.prog w = .ok (.value (.int .u64 0)) w := bits_run 0
    have h2 : ∀ w, (callFunc 64 #[.int .u64 0]).run Try.prog w = .ok (.value (.float .f64 0)) w := from_run 0
    have e1 : bits BinOp.and IntKind.u64 0 2047 = 0 := by decide +kernel
    have e2 : bits BinOp.and IntKind.u64 0 9223372036854775808 = 0 := by decide +kernel
    rw [fl_zero]
    go_enter Try.func52, Try.ntmps52
    go_wp2
    go_ret
    exact ⟨rfl, rfl⟩
  · have h1 := bits_run (fl n)
    have h2 := from_run (fl n)
    have hw := whole_at n (by omega) hn
    generalize fl n = b at *
    unfold wholeB at hw
    simp only [Bool.and_eq_true, decide_eq_true_eq] at hw
    obtain ⟨⟨a1, a2⟩, a3⟩ := hw
    have e1 : bits BinOp.and IntKind.u64 ((b : Int) / 4503599627370496) 2047 = expo b := rfl
    generalize expo b = e at *
    have d1 : decide (e < 1023) = false := decide_eq_false (by omega)
    have d2 : decide (e < 1075) = true := decide_eq_true a2
    go_enter Try.func52, Try.ntmps52
    go_wp2
    go_ret
    exact ⟨rfl, rfl⟩
/-- steps between two tracks -/
def upN (a b : Int) : Nat := (b - a).toNat
theorem flI (z : Int) (h : 0 ≤ z) : floatOfInt .f64 z = fl z.toNat := by unfold fl; rw [Int.toNat_of_nonneg h]
theorem cplx (a b c d : Nat) (h : a = c) (g : b = d) : Ending.returned (.complex .f64 (fl a) (fl b)) = .returned (.complex .f64 (fl c) (fl d)) := by rw [h, g]
set_option maxHeartbeats 2000000 in
theorem between_any (a b : Int) (w : World) (ha : 0 ≤ a ∧ a ≤ 200) (hb : 0 ≤ b ∧ b ≤ 200) : Calls Try.prog 53 #[.int .i64 a, .int .i64 b] w fun e w' => e = .returned (.complex .f64 (fl (upN a b)) (fl (upN b a))) ∧ w' = w := by
  go_enter Try.func53, Try.ntmps53
  go_wp2
  all_goals
    go_ret
    refine ⟨?_, rfl⟩
    rw [flI _ (by omega), flI _ (by omega)]
    apply cplx <;> (unfold upN; omega)
theorem toI_run (n : Nat) (h : n ≤ 2000) (w : World) : (convert 61 3 (.float .f64 (fl n))).run Try.prog w = .ok (.int .i64 (n : Int)) w :=
  run_convert_float_int w _ _ _ _ _ _ (by rw [Try.underlying61]; rfl) Try.underlying3 (toInt_at n h)
set_option maxHeartbeats 2000000 in
theorem steps_any (m n : Nat) (w : World) (hm : m ≤ 2000) (hn : n ≤ 2000) : Calls Try.prog 31 #[.complex .f64 (fl m) (fl n)] w fun e w' => e = .returned (.int .i64 ((m + n : Nat) : Int)) ∧ w' = w := by
  have h1 := toI_run m hm
  have h2 := toI_run n hn
  have R1 := hid (round_fl m hm)
  have R2 := hid (round_fl n hn)
  generalize fl m = bm at *
  generalize fl n = bn at *
  go_enter Try.func31, Try.ntmps31
  go_wp2_with fail
  refine (R1.out _).mono ?_
  rintro e w1 ⟨rfl, hw⟩
  rw [hw]
  clear hw
  go_wp2_with fail
  refine (R2.out _).mono ?_
  rintro e w1 ⟨rfl, hw⟩
  rw [hw]
  clear hw
  go_wp2
  go_ret
  exact ⟨by go_num, rfl⟩
end Go.Proofs.Ytpjmblhfahbopaa
