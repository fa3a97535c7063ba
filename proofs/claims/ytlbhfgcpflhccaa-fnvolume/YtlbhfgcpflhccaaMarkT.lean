/- Walk of the laws' markText. -/
import Derived.Test.YtlbhfgcpflhccaaChecked
import Derived.WalkKit
import Derived.ProofKit
import Derived.Laws.BytesArg
namespace Go.Proofs.Ytlbhfgcpflhccaa
set_option maxRecDepth 100000
open Go.ChangeShapes Go.WideShapes Go.ChangeAt Go.RowKit
def digs : Nat → Nat → List UInt8
  | 0, _ => []
  | f + 1, n => if n = 0 then [] else digs f (n / 10) ++ [48 + UInt8.ofNat (n % 10)]
theorem digs_fuel : ∀ f g n, n < f → n < g → digs f n = digs g n
  | 0, _, _, h, _ => absurd h (Nat.not_lt_zero _)
  | _, 0, _, _, h => absurd h (Nat.not_lt_zero _)
  | f + 1, g + 1, n, h1, h2 => by
    unfold digs
    split
    · rfl
    · rw [digs_fuel f g (n / 10) (by omega) (by omega)]
def dec (n : Nat) : List UInt8 := digs (n + 1) n
theorem dec_step (n : Nat) (h : 0 < n) : dec n = dec (n / 10) ++ [48 + UInt8.ofNat (n % 10)] := by
  unfold dec
  conv => lhs; unfold digs
  rw [if_neg (by omega), digs_fuel n (n / 10 + 1) (n / 10) (by omega) (by omega)]
theorem dec_len : ∀ f n, n < 10 ^ f → (dec n).length ≤ f
  | 0, n, h => by
    have : n = 0 := by simpa using h
    subst this; decide
  | f + 1, n, h => by
    by_cases h0 : n = 0
    · subst h0; show 0 ≤ _; omega
    · rw [dec_step n (by omega), List.length_append]
      have := dec_len f (n / 10) (by rw [Nat.pow_succ] at h; omega)
      simp; omega
theorem app_one (x : UInt8) (l : List UInt8) : (⟨#[x]⟩ : ByteArray) ++ ⟨l.toArray⟩ = ⟨(x :: l).toArray⟩ := by
  apply ByteArray.ext
  simp [ByteArray.data_append]
theorem ret_s {a b : ByteArray} (h : a = b) : Ending.returned (.string a) = .returned (.string b) := by rw [h]
def markT (n : Nat) : ByteArray := ⟨(109 :: dec n).toArray⟩
theorem one_byte (w : World) (x : Int) : Sem.run Try.prog (convert 22 9 (.slice (some ⟨w.heap.size, 0, none⟩) 1 1)) (w.alloc (.cells #[.int .u8 x] 5)) =
    .ok (.string ⟨#[UInt8.ofNat x.toNat]⟩) (w.alloc (.cells #[.int .u8 x] 5)) := by
  have h := run_convert_bytes_arg (w.alloc (.cells #[.int .u8 x] 5)) 22 5 Try.underlying22 Try.underlying5 w.heap.size 0 1 1 [x] rfl (fun i hi => by
    obtain rfl : i = 0 := by omega
    go_simp) 9 Try.underlying9
  exact h
end Go.Proofs.Ytlbhfgcpflhccaa
