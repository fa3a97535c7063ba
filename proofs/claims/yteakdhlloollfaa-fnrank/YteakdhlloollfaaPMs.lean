/- Masks: both sides' look at them; both sides' PacketOf. -/
import Derived.Test.YteakdhlloollfaaPXor
import Derived.Test.YteakdhlloollfaaPSz
namespace Go.Proofs.Yteakdhlloollfaa
set_option maxRecDepth 100000
open Go Go.ChangeShapes Go.WideShapes Go.ChangeAt Go.RowKit
/-- masks of many sources -/
def maskOk (many : Int) (l : List Int) : Bool := manyB many && (decide (l.length ≤ 20) && allIn l 0 (2 ^ many.toNat - 1))
theorem wrap_pow (n : Nat) (h : n ≤ 10) : wrap64 ((2 : Int) ^ n) = 2 ^ n := by
  have all : ∀ j : Fin 11, wrap64 ((2 : Int) ^ j.val) = 2 ^ j.val := by decide +kernel
  exact all ⟨n, by omega⟩
theorem wrap_pow1 (n : Nat) (h : n ≤ 10) : wrap64 ((2 : Int) ^ n - 1) = 2 ^ n - 1 := by
  have all : ∀ j : Fin 11, wrap64 ((2 : Int) ^ j.val - 1) = 2 ^ j.val - 1 := by decide +kernel
  exact all ⟨n, by omega⟩
theorem pow_le (n : Nat) (h : n ≤ 10) : (1 : Int) ≤ 2 ^ n ∧ (2 : Int) ^ n ≤ 1024 := by
  have all : ∀ j : Fin 11, (1 : Int) ≤ 2 ^ j.val ∧ (2 : Int) ^ j.val ≤ 1024 := by decide +kernel
  exact all ⟨n, by omega⟩
theorem many_nat {n : Int} (h : manyB n = true) : ∃ k : Nat, n = (k : Int) ∧ 1 ≤ k ∧ k ≤ 10 := by
  unfold manyB at h
  have := of_decide_eq_true h
  exact ⟨n.toNat, by omega, by omega, by omega⟩
theorem maskOk_nat (n : Nat) (l : List Int) (h1 : 1 ≤ n) (h2 : n ≤ 10) : maskOk (n : Int) l = (decide (l.length ≤ 20) && allIn l 0 (2 ^ n - 1)) := by
  unfold maskOk manyB
  rw [decide_eq_true (by omega), Int.toNat_natCast]
  rfl
theorem maskOk_no (n : Int) (l : List Int) (h : manyB n = false) : maskOk n l = false := by unfold maskOk; rw [h]; rfl
set_option maxHeartbeats 1000000 in
theorem goodMasks_yes (n : Nat) (a : Option Addr) (cap : Nat) (l : List Int) (w : World) (h1 : 1 ≤ n) (h2 : n ≤ 10) (hn : l.length ≤ 20) (hZ : Is w.heap.size a l w) :
    Calls Try.prog 14 #[.int .i64 n, .slice a l.length cap] w fun e w' => e = .returned (.bool (allIn l 0 (2 ^ n - 1))) ∧ w' = w := by
  have HZ : Hid (Is w.heap.size a l w) := hZ
  have HM : Hid (manyB (n : Int) = true) := by show manyB _ = _; unfold manyB; exact decide_eq_true (by omega)
  have hd20 : decide ((20 : Int) < (l.length : Int)) = false := decide_eq_false (by omega)
  have HW := hid (wrap_pow n h2)
  clear hZ
  go_enter Try.func14, Try.ntmps14
  go_wp2_with fail
  refine (isMany_any _ _).mono ?_
  rintro e w2 ⟨rfl, hw2⟩
  rw [hw2, HM.out]
  clear hw2
  go_wp2_with fail
  go_loopw [17] (fun i wr => ∃ k : Nat, k ≤ l.length ∧ i = .int .i64 k ∧ (∀ j (hj : j < l.length), j < k → 0 ≤ l[j] ∧ l[j] ≤ 2 ^ n - 1) ∧ wr = w) (fun i _ => l.length - (intOf i).toNat)
  case atStart => exact ⟨0, Nat.zero_le _, rfl, (fun _ _ h => absurd h (Nat.not_lt_zero _)), rfl⟩
  case round =>
    obtain ⟨k, hk, rfl, hall, hwr⟩ := hrel
    subst hwr
    have HALL := hid hall
    clear hall
    by_cases hlt : k < l.length
    · obtain ⟨b, off, rfl, hb, hc⟩ := HZ.out.cell (by omega)
      have x0 := hc k hlt
      clear hc
      by_cases hin : 0 ≤ l[k] ∧ l[k] ≤ 2 ^ n - 1
      · have d1 : decide (l[k] < 0) = false := decide_eq_false (by omega)
        have d2 : decide (wrap64 (2 ^ n) ≤ l[k]) = false := by rw [HW.out]; exact decide_eq_false (by omega)
        have HL : Hid (∀ j (hj : j < l.length), j < k + 1 → 0 ≤ l[j] ∧ l[j] ≤ 2 ^ n - 1) := fun j hj hjk => by
          by_cases e : j = k
          · subst e; exact hin
          · exact HALL.out j hj (by omega)
        clear hin
        generalize l[k] = x at *
        go_wp2_with fail
        go_roundw
        case rel => exact ⟨k + 1, by omega, by go_num, HL.out, by trivial⟩
        case measure => simp [intOf]; omega
      · have HV : Hid (allIn l 0 (2 ^ n - 1) = false) := allIn_bad l 0 _ k hlt hin
        by_cases g : l[k] < 0
        · have d1 : decide (l[k] < 0) = true := decide_eq_true g
          clear hin g
          generalize l[k] = x at *
          go_wp2_with fail
          go_ret
          exact ⟨ret_b2 HV.out.symm, rfl⟩
        · have d1 : decide (l[k] < 0) = false := decide_eq_false g
          have d2 : decide (wrap64 (2 ^ n) ≤ l[k]) = true := by rw [HW.out]; exact decide_eq_true (by omega)
          clear hin g
          generalize l[k] = x at *
          go_wp2_with fail
          go_ret
          exact ⟨ret_b2 HV.out.symm, rfl⟩
    · have HV : Hid (allIn l 0 (2 ^ n - 1) = true) := allIn_all l 0 _ (fun j hj => HALL.out j hj (by omega))
      go_wp2
      go_ret
      exact ⟨ret_b2 HV.out.symm, rfl⟩
set_option maxHeartbeats 1000000 in
theorem goodMasks_any (n : Int) (a : Option Addr) (cap : Nat) (l : List Int) (w : World) (hn : l.length ≤ 1048576) (hZ : Is w.heap.size a l w) :
    Calls Try.prog 14 #[.int .i64 n, .slice a l.length cap] w fun e w' => e = .returned (.bool (maskOk n l)) ∧ w' = w := by
  cases hm : manyB n
  · rw [maskOk_no n l hm]
    clear hZ
    have HM := hid hm
    clear hm
    go_enter Try.func14, Try.ntmps14
    go_wp2_with fail
    refine (isMany_any _ _).mono ?_
    rintro e w2 ⟨rfl, hw2⟩
    rw [hw2, HM.out]
    clear hw2
    go_wp2_with fail
    go_ret
    exact ⟨rfl, rfl⟩
  · obtain ⟨k, rfl, h1, h2⟩ := many_nat hm
    rw [maskOk_nat k l h1 h2]
    by_cases h20 : l.length ≤ 20
    · rw [decide_eq_true h20]
      exact goodMasks_yes k a cap l w h1 h2 h20 hZ
    · rw [decide_eq_false h20]
      have hd20 : decide ((20 : Int) < (l.length : Int)) = true := decide_eq_true (by omega)
      have HM := hid hm
      clear hm hZ
      go_enter Try.func14, Try.ntmps14
      go_wp2_with fail
      refine (isMany_any _ _).mono ?_
      rintro e w2 ⟨rfl, hw2⟩
      rw [hw2, HM.out]
      clear hw2
      go_wp2_with fail
      go_ret
      exact ⟨rfl, rfl⟩
set_option maxHeartbeats 1000000 in
theorem l10Masks_any (n : Int) (a : Option Addr) (cap : Nat) (l : List Int) (w : World) (hn : l.length ≤ 1048576) (hZ : Is w.heap.size a l w) :
    Calls Try.prog 18 #[.int .i64 n, .slice a l.length cap] w fun e w' => e = .returned (.bool (maskOk n l)) ∧ w' = w := by
  by_cases hm : 1 ≤ n ∧ n ≤ 10
  · obtain ⟨k, rfl, h1, h2⟩ : ∃ k : Nat, n = (k : Int) ∧ 1 ≤ k ∧ k ≤ 10 := ⟨n.toNat, by omega, by omega, by omega⟩
    rw [maskOk_nat k l h1 h2]
    by_cases h20 : l.length ≤ 20
    · rw [decide_eq_true h20]
      have d1 : decide ((l.length : Int) ≤ 20) = true := decide_eq_true (by omega)
      have HA := hid (l1All_any a cap l 0 (wrap64 (2 ^ k - 1)) w hn hZ)
      have HP1 := hid (wrap_pow1 k h2)
      have hp := wrap_pow k h2
      clear hZ hm
      go_enter Try.func18, Try.ntmps18
      go_wp2_with fail
      refine (l1In_yes _ _ _ _ (by omega) (by omega)).mono ?_
      rintro e w2 ⟨rfl, hw2⟩
      rw [hw2]
      clear hw2
      go_wp2_with fail
      refine HA.out.mono ?_
      rintro e w2 ⟨rfl, hw2⟩
      rw [hw2]
      clear hw2
      go_wp2_with fail
      go_ret
      exact ⟨ret_b2 (by rw [HP1.out]; rfl), rfl⟩
    · rw [decide_eq_false h20]
      have d1 : decide ((l.length : Int) ≤ 20) = false := decide_eq_false (by omega)
      clear hZ hm
      go_enter Try.func18, Try.ntmps18
      go_wp2_with fail
      refine (l1In_yes _ _ _ _ (by omega) (by omega)).mono ?_
      rintro e w2 ⟨rfl, hw2⟩
      rw [hw2]
      clear hw2
      go_wp2_with fail
      go_ret
      exact ⟨rfl, rfl⟩
  · rw [maskOk_no n l (by unfold manyB; exact decide_eq_false hm)]
    have h2 : n < 1 ∨ 10 < n := by omega
    have H2 := hid h2
    clear hZ hm h2
    go_enter Try.func18, Try.ntmps18
    go_wp2_with fail
    refine (l1In_no _ _ _ _ H2.out).mono ?_
    rintro e w2 ⟨rfl, hw2⟩
    rw [hw2]
    clear hw2
    go_wp2_with fail
    go_ret
    exact ⟨rfl, rfl⟩
/-- whether there is a packet of a mask -/
def packOk (l : List ByteArray) (m : Int) : Bool := goodSr l && decide (0 ≤ m ∧ m ≤ 2 ^ l.length - 1)
def packT (l : List ByteArray) (m : Int) : ByteArray := cond (packOk l m) (sumT (zeroT (l.headD ⟨#[]⟩).size) l m.toNat l.length) ⟨#[]⟩
def packM (l : List ByteArray) (m : Int) : Int := cond (packOk l m) m 0
theorem goodSr_at {l : List ByteArray} (h : goodSr l = true) : 0 < l.length ∧ l.length ≤ 10 ∧ ∀ k (hk : k < l.length) (h0 : 0 < l.length), l[k].size = l[0].size ∧ l[k].size ≤ 20 := by
  unfold goodSr at h
  rw [Bool.and_eq_true] at h
  have := of_decide_eq_true h.1
  refine ⟨by omega, by omega, fun k hk h0 => ?_⟩
  rw [← headD_zero l h0]
  exact likeL_at l h.2 k hk
theorem one_mask (n : Nat) (m : Int) (h1 : 1 ≤ n) (h2 : n ≤ 10) : maskOk (n : Int) [m] = decide (0 ≤ m ∧ m ≤ 2 ^ n - 1) := by
  rw [maskOk_nat n _ h1 h2]
  simp [allIn]
end Go.Proofs.Yteakdhlloollfaa
