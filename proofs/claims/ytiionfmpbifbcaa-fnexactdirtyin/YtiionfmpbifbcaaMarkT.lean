/- Walk of the laws' markText. -/
import Derived.Test.YtiionfmpbifbcaaChecked
import Derived.WalkKit
import Derived.ProofKit
import Derived.Laws.BytesArg
namespace Go.Proofs.Ytiionfmpbifbcaa
set_option maxRecDepth 100000
open Go.ChangeShapes Go.WideShapes Go.ChangeAt Go.RowKit
def digs : Nat → Nat → List UInt8
  | 0, _ => []
  | f + 1, n => if n = 0 then [] else digs f (n / 10) ++ [48 + UInt8.ofNat (n % 10)]
theorem digs_fuel : ∀ f g n, n < f → n < g → digs f n = digs g n
  | 0, _, _, h, _ => absurd h (Nat.not_lt_zero _)
  | _, 0, _, _, h => absurd h (Nat.not_lt_zero _)
  | f + 1, g + 1, n, h1, h2 => by
    unfold digs
    split
    · rfl
    · rw [digs_fuel f g (n / 10) (by omega) (by omega)]
def dec (n : Nat) : List UInt8 := digs (n + 1) n
theorem dec_step (n : Nat) (h : 0 < n) : dec n = dec (n / 10) ++ [48 + UInt8.ofNat (n % 10)] := by
  unfold dec
  conv => lhs; unfold digs
  rw [if_neg (by omega), digs_fuel n (n / 10 + 1) (n / 10) (by omega) (by omega)]
theorem dec_len : ∀ f n, n < 10 ^ f → (dec n).length ≤ f
  | 0, n, h => by
    have : n = 0 := by simpa using h
    subst this; decide
  | f + 1, n, h => by
    by_cases h0 : n = 0
    · subst h0; show 0 ≤ _; omega
    · rw [dec_step n (by omega), List.length_append]
      have := dec_len f (n / 10) (by rw [Nat.pow_succ] at h; omega)
      simp; omega
theorem app_one (x : UInt8) (l : List UInt8) : (⟨#[x]⟩ : ByteArray) ++ ⟨l.toArray⟩ = ⟨(x :: l).toArray⟩ := by
  apply ByteArray.ext
  simp [ByteArray.data_append]
theorem ret_s {a b : ByteArray} (h : a = b) : Ending.returned (.string a) = .returned (.string b) := by rw [h]
def markT (n : Nat) : ByteArray := ⟨(109 :: dec n).toArray⟩
theorem one_byte (w : World) (x : Int) : Sem.run Try.prog (convert 105 9 (.slice (some ⟨w.heap.size, 0, none⟩) 1 1)) (w.alloc (.cells #[.int .u8 x] 5)) =
    .ok (.string ⟨#[UInt8.ofNat x.toNat]⟩) (w.alloc (.cells #[.int .u8 x] 5)) := by
  have h := run_convert_bytes_arg (w.alloc (.cells #[.int .u8 x] 5)) 105 5 Try.underlying105 Try.underlying5 w.heap.size 0 1 1 [x] rfl (fun i hi => by
    obtain rfl : i = 0 := by omega
    go_simp) 9 Try.underlying9
  exact h
set_option maxHeartbeats 1000000 in
theorem markText_any (n : Nat) (w : World) (h0 : 1 ≤ n) (h1 : n ≤ 100000000) :
    Calls Try.prog 53 #[.int .i64 n] w fun e w' => e = .returned (.string (markT n)) ∧ Below w.heap.size w w' := by
  have hd : decide ((n : Int) ≤ 0) = false := by simp; omega
  have hcv := one_byte
  go_enter Try.func53, Try.ntmps53
  go_wp2
  go_loopw [0, 3] (fun t o wr => ∃ (m : Nat) (l : List UInt8), m ≤ n ∧ t = .int .i64 m ∧ o = .string ⟨l.toArray⟩ ∧ dec m ++ l = dec n ∧ Below w.heap.size w wr) (fun t _ _ => (intOf t).toNat)
  case atStart => exact ⟨n, [], Nat.le_refl _, rfl, rfl, by simp, Below.refl _ _⟩
  case round =>
    obtain ⟨m, l, hm, rfl, rfl, hl, hbel⟩ := hrel
    have HL : Hid (dec m ++ l = dec n) := hl
    have HBEL : Hid (Below w.heap.size w wr) := hbel
    have hlen : l.length ≤ 9 := by
      have h9 := dec_len 9 n (by omega)
      rw [← hl, List.length_append] at h9
      omega
    have hsz : (⟨l.toArray⟩ : ByteArray).size = l.length := by simp [ByteArray.size]
    clear hl hbel
    by_cases hp : 0 < m
    · have hdm : decide (0 < (m : Int)) = true := by simp; omega
      have hs1 : ∀ x : UInt8, (⟨#[x]⟩ : ByteArray).size = 1 := fun _ => rfl
      go_wp2
      go_roundw
      case rel => exact ⟨m / 10, (48 + UInt8.ofNat (m % 10)) :: l, by omega, by go_num, by rw [app_one], by rw [← HL.out, dec_step m hp]; simp, HBEL.out.alloc HBEL.out.size _⟩
      case measure => simp [intOf]; omega
    · obtain rfl : m = 0 := by omega
      have hfin : (⟨#[109]⟩ : ByteArray) ++ ⟨l.toArray⟩ = markT n := by
        rw [app_one, markT, ← HL.out]; rfl
      have HF : Hid ((⟨#[109]⟩ : ByteArray) ++ ⟨l.toArray⟩ = markT n) := hfin
      clear hfin
      go_wp2
      go_ret
      exact ⟨ret_s HF.out, HBEL.out⟩
end Go.Proofs.Ytiionfmpbifbcaa
