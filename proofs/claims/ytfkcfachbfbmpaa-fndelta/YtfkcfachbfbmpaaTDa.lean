/- alikeLength of the program. -/
import Derived.Test.YtfkcfachbfbmpaaTDk
namespace Go.Proofs.Ytfkcfachbfbmpaa
set_option maxRecDepth 100000
open Go Go.ChangeShapes Go.WideShapes Go.ChangeAt Go.RowKit
theorem drewN_zero (w : World) : w.drewN 0 = w := rfl
set_option maxHeartbeats 2000000 in
theorem alike_any (a b : ByteArray) (w : World) (ha : a.size ≤ 1048576) :
    Calls Try.prog 35 #[.string a, .string b] w fun e w' => e = .returned (.int .i64 (alkL a.data.toList b.data.toList : Nat)) ∧ ∃ m, w' = w.drewN m := by
  have hm : ∃ m : Nat, min (a.size : Int) (b.size : Int) = (m : Int) ∧ m ≤ a.size ∧ m ≤ b.size ∧ (m = a.size ∨ m = b.size) := by
    by_cases h : a.size ≤ b.size
    · exact ⟨a.size, Int.min_eq_left (by omega), Nat.le_refl _, h, Or.inl rfl⟩
    · exact ⟨b.size, Int.min_eq_right (by omega), by omega, Nat.le_refl _, Or.inr rfl⟩
  obtain ⟨m, hm, m1, m2, m3⟩ := hm
  have HM := hid m3
  have HV : Hid (∀ n, n ≤ m → (∀ j (p : j < a.size) (q : j < b.size), j < n → a[j] = b[j]) → (n = m ∨ ∃ (p : n < a.size) (q : n < b.size), a[n] ≠ b[n]) → alkL a.data.toList b.data.toList = n) := fun n h1 h2 h3 => by
    have := alk_is (old := a) (s := b) (p := 0) (q := 0) (n := n) (by omega) (by omega) (fun j p q hj => by simpa using h2 j (by omega) (by omega) hj) (by
      rcases h3 with h | ⟨p, q, h⟩
      · rcases HM.out with e | e
        · exact Or.inl (by omega)
        · exact Or.inr (Or.inl (by omega))
      · exact Or.inr (Or.inr ⟨by omega, by omega, by simpa using h⟩))
    simpa [alk] using this
  generalize alkL a.data.toList b.data.toList = R at *
  clear m3
  go_enter Try.func35, Try.ntmps35
  go_wp2_with fail
  go_loopw [5] (fun i wr => ∃ k n : Nat, k ≤ m ∧ i = .int .i64 k ∧ (∀ j (p : j < a.size) (q : j < b.size), j < k → a[j] = b[j]) ∧ wr = w.drewN n) (fun i _ => m - (intOf i).toNat)
  case atStart => exact ⟨0, 0, Nat.zero_le _, rfl, (fun _ _ _ h => absurd h (Nat.not_lt_zero _)), rfl⟩
  case round =>
    obtain ⟨k, n, hk, rfl, hall, hwr⟩ := hrel
    have HALL := hid hall
    clear hall
    by_cases hlt : k < m
    · have hka : k < a.size := by omega
      have hkb : k < b.size := by omega
      have d1 : decide ((k : Int) < (m : Int)) = true := decide_eq_true (by omega)
      by_cases heq : a[k] = b[k]
      · have d2 : ((a[k].toNat : Int) == (b[k].toNat : Int)) = true := by rw [heq]; exact beq_self_eq_true _
        have HN : Hid (∀ j (p : j < a.size) (q : j < b.size), j < k + 1 → a[j] = b[j]) := fun j p q hj => by
          by_cases e : j = k
          · subst e; exact heq
          · exact HALL.out j p q (by omega)
        clear heq
        subst hwr
        go_wp2_with fail
        go_quiet (fail)
        go_wp2_with fail
        go_roundw
        case rel => exact ⟨k + 1, _, by omega, by go_num, HN.out, rfl⟩
        case measure => simp [intOf]; omega
      · have d2 : ((a[k].toNat : Int) == (b[k].toNat : Int)) = false := beq_false_of_ne (fun e => heq (UInt8.toNat_inj.1 (by omega)))
        have HR := hid (HV.out k (by omega) HALL.out (Or.inr ⟨hka, hkb, heq⟩))
        clear heq
        subst hwr
        go_wp2_with fail
        go_quiet (fail)
        go_wp2_with fail
        go_ret
        exact ⟨ret_in (by rw [HR.out]), _, World.drewN_drewN _ _ _⟩
    · obtain rfl : k = m := by omega
      have d1 : decide ((k : Int) < (k : Int)) = false := decide_eq_false (by omega)
      have HR := hid (HV.out k (by omega) HALL.out (Or.inl rfl))
      subst hwr
      go_wp2_with fail
      go_quiet (fail)
      go_wp2_with fail
      go_ret
      exact ⟨ret_in (by rw [HR.out]), _, World.drewN_drewN _ _ _⟩
end Go.Proofs.Ytfkcfachbfbmpaa
