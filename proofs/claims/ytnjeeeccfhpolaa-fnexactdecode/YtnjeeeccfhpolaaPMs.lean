/- Masks: both sides' look at them; both sides' PacketOf. -/
import Derived.Test.YtnjeeeccfhpolaaPXor
import Derived.Test.YtnjeeeccfhpolaaPSz
namespace Go.Proofs.Ytnjeeeccfhpolaa
set_option maxRecDepth 100000
open Go Go.ChangeShapes Go.WideShapes Go.ChangeAt Go.RowKit
/-- masks of many sources -/
def maskOk (many : Int) (l : List Int) : Bool := manyB many && (decide (l.length ≤ 20) && allIn l 0 (2 ^ many.toNat - 1))
theorem wrap_pow (n : Nat) (h : n ≤ 10) : wrap64 ((2 : Int) ^ n) = 2 ^ n := by
  have all : ∀ j : Fin 11, wrap64 ((2 : Int) ^ j.val) = 2 ^ j.val := by decide +kernel
  exact all ⟨n, by omega⟩
theorem wrap_pow1 (n : Nat) (h : n ≤ 10) : wrap64 ((2 : Int) ^ n - 1) = 2 ^ n - 1 := by
  have all : ∀ j : Fin 11, wrap64 ((2 : Int) ^ j.val - 1) = 2 ^ j.val - 1 := by decide +kernel
  exact all ⟨n, by omega⟩
theorem pow_le (n : Nat) (h : n ≤ 10) : (1 : Int) ≤ 2 ^ n ∧ (2 : Int) ^ n ≤ 1024 := by
  have all : ∀ j : Fin 11, (1 : Int) ≤ 2 ^ j.val ∧ (2 : Int) ^ j.val ≤ 1024 := by decide +kernel
  exact all ⟨n, by omega⟩
theorem many_nat {n : Int} (h : manyB n = true) : ∃ k : Nat, n = (k : Int) ∧ 1 ≤ k ∧ k ≤ 10 := by
  unfold manyB at h
  have := of_decide_eq_true h
  exact ⟨n.toNat, by omega, by omega, by omega⟩
theorem maskOk_nat (n : Nat) (l : List Int) (h1 : 1 ≤ n) (h2 : n ≤ 10) : maskOk (n : Int) l = (decide (l.length ≤ 20) && allIn l 0 (2 ^ n - 1)) := by
  unfold maskOk manyB
  rw [decide_eq_true (by omega), Int.toNat_natCast]
  rfl
theorem maskOk_no (n : Int) (l : List Int) (h : manyB n = false) : maskOk n l = false := by unfold maskOk; rw [h]; rfl
set_option maxHeartbeats 1000000 in
theorem goodMasks_yes (n : Nat) (a : Option Addr) (cap : Nat) (l : List Int) (w : World) (h1 : 1 ≤ n) (h2 : n ≤ 10) (hn : l.length ≤ 20) (hZ : Is w.heap.size a l w) :
    Calls Try.prog 39 #[.int .i64 n, .slice a l.length cap] w fun e w' => e = .returned (.bool (allIn l 0 (2 ^ n - 1))) ∧ w' = w := by
  have HZ : Hid (Is w.heap.size a l w) := hZ
  have HM : Hid (manyB (n : Int) = true) := by show manyB _ = _; unfold manyB; exact decide_eq_true (by omega)
  have hd20 : decide ((20 : Int) < (l.length : Int)) = false := decide_eq_false (by omega)
  have HW := hid (wrap_pow n h2)
  clear hZ
  go_enter Try.func39, Try.ntmps39
  go_wp2_with fail
  refine (isMany_any _ _).mono ?_
  rintro e w2 ⟨rfl, hw2⟩
  rw [hw2, HM.out]
  clear hw2
  go_wp2_with fail
  go_loopw [17] (fun i wr => ∃ k : Nat, k ≤ l.length ∧ i = .int .i64 k ∧ (∀ j (hj : j < l.length), j < k → 0 ≤ l[j] ∧ l[j] ≤ 2 ^ n - 1) ∧ wr = w) (fun i _ => l.length - (intOf i).toNat)
  case atStart => exact ⟨0, Nat.zero_le _, rfl, (fun _ _ h => absurd h (Nat.not_lt_zero _)), rfl⟩
  case round =>
    obtain ⟨k, hk, rfl, hall, hwr⟩ := hrel
    subst hwr
    have HALL := hid hall
    clear hall
    by_cases hlt : k < l.length
    · obtain ⟨b, off, rfl, hb, hc⟩ := HZ.out.cell (by omega)
      have x0 := hc k hlt
      clear hc
      by_cases hin : 0 ≤ l[k] ∧ l[k] ≤ 2 ^ n - 1
      · have d1 : decide (l[k] < 0) = false := decide_eq_false (by omega)
        have d2 : decide (wrap64 (2 ^ n) ≤ l[k]) = false := by rw [HW.out]; exact decide_eq_false (by omega)
        have HL : Hid (∀ j (hj : j < l.length), j < k + 1 → 0 ≤ l[j] ∧ l[j] ≤ 2 ^ n - 1) := fun j hj hjk => by
          by_cases e : j = k
          · subst e; exact hin
          · exact HALL.out j hj (by omega)
        clear hin
        generalize l[k] = x at *
        go_wp2_with fail
        go_roundw
        case rel => exact ⟨k + 1, by omega, by go_num, HL.out, by trivial⟩
        case measure => simp [intOf]; omega
      · have HV : Hid (allIn l 0 (2 ^ n - 1) = false) := allIn_bad l 0 _ k hlt hin
        by_cases g : l[k] < 0
        · have d1 : decide (l[k] < 0) = true := decide_eq_true g
          clear hin g
          generalize l[k] = x at *
          go_wp2_with fail
          go_ret
          exact ⟨ret_b2 HV.out.symm, rfl⟩
        · have d1 : decide (l[k] < 0) = false := decide_eq_false g
          have d2 : decide (wrap64 (2 ^ n) ≤ l[k]) = true := by rw [HW.out]; exact decide_eq_true (by omega)
          clear hin g
          generalize l[k] = x at *
          go_wp2_with fail
          go_ret
          exact ⟨ret_b2 HV.out.symm, rfl⟩
    · have HV : Hid (allIn l 0 (2 ^ n - 1) = true) := allIn_all l 0 _ (fun j hj => HALL.out j hj (by omega))
      go_wp2
      go_ret
      exact ⟨ret_b2 HV.out.symm, rfl⟩
set_option maxHeartbeats 1000000 in
theorem goodMasks_any (n : Int) (a : Option Addr) (cap : Nat) (l : List Int) (w : World) (hn : l.length ≤ 1048576) (hZ : Is w.heap.size a l w) :
    Calls Try.prog 39 #[.int .i64 n, .slice a l.length cap] w fun e w' => e = .returned (.bool (maskOk n l)) ∧ w' = w := by
  cases hm : manyB n
  · rw [maskOk_no n l hm]
    clear hZ
    have HM := hid hm
    clear hm
    go_enter Try.func39, Try.ntmps39
    go_wp2_with fail
    refine (isMany_any _ _).mono ?_
    rintro e w2 ⟨rfl, hw2⟩
    rw [hw2, HM.out]
    clear hw2
    go_wp2_with fail
    go_ret
    exact ⟨rfl, rfl⟩
  · obtain ⟨k, rfl, h1, h2⟩ := many_nat hm
    rw [maskOk_nat k l h1 h2]
    by_cases h20 : l.length ≤ 20
    · rw [decide_eq_true h20]
      exact goodMasks_yes k a cap l w h1 h2 h20 hZ
    · rw [decide_eq_false h20]
      have hd20 : decide ((20 : Int) < (l.length : Int)) = true := decide_eq_true (by omega)
      have HM := hid hm
      clear hm hZ
      go_enter Try.func39, Try.ntmps39
      go_wp2_with fail
      refine (isMany_any _ _).mono ?_
      rintro e w2 ⟨rfl, hw2⟩
      rw [hw2, HM.out]
      clear hw2
      go_wp2_with fail
      go_ret
      exact ⟨rfl, rfl⟩
set_option maxHeartbeats 1000000 in
theorem l10Masks_any (n : Int) (a : Option Addr) (cap : Nat) (l : List Int) (w : World) (hn : l.length ≤ 1048576) (hZ : Is w.heap.size a l w) :
    Calls Try.prog 43 #[.int .i64 n, .slice a l.length cap] w fun e w' => e = .returned (.bool (maskOk n l)) ∧ w' = w := by
  by_cases hm : 1 ≤ n ∧ n ≤ 10
  · obtain ⟨k, rfl, h1, h2⟩ : ∃ k : Nat, n = (k : Int) ∧ 1 ≤ k ∧ k ≤ 10 := ⟨n.toNat, by omega, by omega, by omega⟩
    rw [maskOk_nat k l h1 h2]
    by_cases h20 : l.length ≤ 20
    · rw [decide_eq_true h20]
      have d1 : decide ((l.length : Int) ≤ 20) = true := decide_eq_true (by omega)
      have HA := hid (l1All_any a cap l 0 (wrap64 (2 ^ k - 1)) w hn hZ)
      have HP1 := hid (wrap_pow1 k h2)
      have hp := wrap_pow k h2
      clear hZ hm
      go_enter Try.func43, Try.ntmps43
      go_wp2_with fail
      refine (l1In_yes _ _ _ _ (by omega) (by omega)).mono ?_
      rintro e w2 ⟨rfl, hw2⟩
      rw [hw2]
      clear hw2
      go_wp2_with fail
      refine HA.out.mono ?_
      rintro e w2 ⟨rfl, hw2⟩
      rw [hw2]
      clear hw2
      go_wp2_with fail
      go_ret
      exact ⟨ret_b2 (by rw [HP1.out]; rfl), rfl⟩
    · rw [decide_eq_false h20]
      have d1 : decide ((l.length : Int) ≤ 20) = false := decide_eq_false (by omega)
      clear hZ hm
      go_enter Try.func43, Try.ntmps43
      go_wp2_with fail
      refine (l1In_yes _ _ _ _ (by omega) (by omega)).mono ?_
      rintro e w2 ⟨rfl, hw2⟩
      rw [hw2]
      clear hw2
      go_wp2_with fail
      go_ret
      exact ⟨rfl, rfl⟩
  · rw [maskOk_no n l (by unfold manyB; exact decide_eq_false hm)]
    have h2 : n < 1 ∨ 10 < n := by omega
    have H2 := hid h2
    clear hZ hm h2
    go_enter Try.func43, Try.ntmps43
    go_wp2_with fail
    refine (l1In_no _ _ _ _ H2.out).mono ?_
    rintro e w2 ⟨rfl, hw2⟩
    rw [hw2]
    clear hw2
    go_wp2_with fail
    go_ret
    exact ⟨rfl, rfl⟩
/-- whether there is a packet of a mask -/
def packOk (l : List ByteArray) (m : Int) : Bool := goodSr l && decide (0 ≤ m ∧ m ≤ 2 ^ l.length - 1)
def packT (l : List ByteArray) (m : Int) : ByteArray := cond (packOk l m) (sumT (zeroT (l.headD ⟨#[]⟩).size) l m.toNat l.length) ⟨#[]⟩
def packM (l : List ByteArray) (m : Int) : Int := cond (packOk l m) m 0
theorem goodSr_at {l : List ByteArray} (h : goodSr l = true) : 0 < l.length ∧ l.length ≤ 10 ∧ ∀ k (hk : k < l.length) (h0 : 0 < l.length), l[k].size = l[0].size ∧ l[k].size ≤ 20 := by
  unfold goodSr at h
  rw [Bool.and_eq_true] at h
  have := of_decide_eq_true h.1
  refine ⟨by omega, by omega, fun k hk h0 => ?_⟩
  rw [← headD_zero l h0]
  exact likeL_at l h.2 k hk
theorem one_mask (n : Nat) (m : Int) (h1 : 1 ≤ n) (h2 : n ≤ 10) : maskOk (n : Int) [m] = decide (0 ≤ m ∧ m ≤ 2 ^ n - 1) := by
  rw [maskOk_nat n _ h1 h2]
  simp [allIn]
set_option maxHeartbeats 2000000 in
theorem spack_any (a : Option Addr) (cap : Nat) (l : List ByteArray) (m : Int) (w : World) (hn : l.length ≤ 1048576) (hs : ∀ s ∈ l, s.size ≤ 9223372036854775807) (hZ : Ss w.heap.size a l w) :
    Calls Try.prog 14 #[.slice a l.length cap, .int .i64 m] w fun e w' => e = .returned (.tuple #[.agg #[.int .i64 (packM l m), .string (packT l m)], .bool (packOk l m)]) ∧ Below w.heap.size w w' := by
  have hb0 := boxB w (.cells #[.int .i64 0, .string ⟨#[]⟩] 28)
  have hk0 := heap_last w (.cells #[.int .i64 0, .string ⟨#[]⟩] 28)
  have HZ : Hid (∀ v, Below w.heap.size w v → Ss v.heap.size a l v) := fun v g => (hZ.below g).mono g.size
  have HG := hid (salike_any a cap l _ hn hs (HZ.out _ hb0))
  have HB0 := hid hb0
  have HK0 := hid hk0
  clear hZ hb0 hk0
  cases hg : goodSr l
  · have HV : Hid (packOk l m = false) := by show packOk l m = false; unfold packOk; rw [hg]; rfl
    have HGo := hid hg
    clear hg
    unfold packT packM
    rw [HV.out]
    go_enter Try.func14, Try.ntmps14
    go_wp2_with fail
    refine HG.out.mono ?_
    rintro e w2 ⟨rfl, hw2⟩
    rw [hw2, HGo.out]
    clear hw2
    go_wp2_with fail
    refine bodyPost_ret (v := .tuple #[.agg #[.int .i64 0, .string ⟨#[]⟩], .bool false]) (by simp [results, Try.results14, go_sem]) rfl ⟨rfl, ?_⟩
    exact HB0.out
  · obtain ⟨h0, h10, hsz⟩ := goodSr_at hg
    have HP1 := hid (wrap_pow1 l.length h10)
    have hp := wrap_pow l.length h10
    have hpl := (pow_le l.length h10).2
    have HGo := hid hg
    by_cases hin : 0 ≤ m ∧ m ≤ 2 ^ l.length - 1
    · have HV : Hid (packOk l m = true) := by show packOk l m = true; unfold packOk; rw [hg, decide_eq_true hin]; rfl
      obtain ⟨k, rfl⟩ : ∃ k : Nat, m = (k : Int) := ⟨m.toNat, by omega⟩
      have HS : Hid (∀ v, Below w.heap.size w v → Calls Try.prog 38 #[.slice a l.length cap, .int .i64 k] v fun e w' => e = .returned (.string (packT l k)) ∧ Below v.heap.size v w') := fun v g => by
        have := l10Sum_any a cap l k v (by omega) h10 h0 (fun j hj => hsz j hj h0) (HZ.out v g)
        unfold packT
        rw [HV.out, headD_zero l h0, Int.toNat_natCast]
        exact this
      have HM : Hid (packM l k = k) := by show packM l k = k; unfold packM; rw [HV.out]; rfl
      rw [HM.out, HV.out]
      clear hsz hg HM
      generalize packT l k = T at *
      have I1 := hid hin.1
      have I2 : Hid ((k : Int) ≤ wrap64 (2 ^ l.length - 1)) := by show (k : Int) ≤ _; rw [HP1.out]; exact hin.2
      clear hin hpl HP1
      go_enter Try.func14, Try.ntmps14
      go_wp2_with fail
      refine HG.out.mono ?_
      rintro e w2 ⟨rfl, hw2⟩
      rw [hw2, HGo.out]
      clear hw2
      go_wp2_with fail
      refine (l1In_yes _ _ _ _ I1.out I2.out).mono ?_
      rintro e w2 ⟨rfl, hw2⟩
      rw [hw2]
      clear hw2
      go_wp2_with fail
      generalize w.alloc (.cells #[.int .i64 0, .string ⟨#[]⟩] 28) = W at *
      refine (HS.out _ HB0.out).mono ?_
      rintro e w3 ⟨rfl, b3⟩
      have HB3 := hid (HB0.out.trans (b3.mono HB0.out.size))
      have K3 := (b3.block _ (kbox HK0.out)).trans HK0.out
      have z0 : w3.cell? ⟨w.heap.size, 0, none⟩ = some (.int .i64 0) := box_cell K3 0
      have z1 : w3.cell? ⟨w.heap.size, 1, none⟩ = some (.string ⟨#[]⟩) := box_cell K3 1
      have f0 : w3.frozen? ⟨w.heap.size, 0, none⟩ = false := box_free K3 0
      have f1 : w3.frozen? ⟨w.heap.size, 1, none⟩ = false := box_free K3 1
      clear K3 b3
      go_wp2_with fail
      refine bodyPost_ret (v := .tuple #[.agg #[.int .i64 k, .string T], .bool true]) (by simp [results, Try.results14, go_sem, z0, z1]) rfl ⟨rfl, ?_⟩
      exact setB (setB HB3.out _ _ (Nat.le_refl _) _) _ _ (Nat.le_refl _) _
    · have HV : Hid (packOk l m = false) := by show packOk l m = false; unfold packOk; rw [hg, decide_eq_false hin]; rfl
      unfold packT packM
      rw [HV.out]
      have h2 : m < 0 ∨ 2 ^ l.length - 1 < m := by omega
      have H2 : Hid (m < 0 ∨ wrap64 (2 ^ l.length - 1) < m) := by show _ ∨ _; rw [HP1.out]; exact h2
      clear hg hin h2 hsz hpl HP1
      go_enter Try.func14, Try.ntmps14
      go_wp2_with fail
      refine HG.out.mono ?_
      rintro e w2 ⟨rfl, hw2⟩
      rw [hw2, HGo.out]
      clear hw2
      go_wp2_with fail
      refine (l1In_no _ _ _ _ H2.out).mono ?_
      rintro e w2 ⟨rfl, hw2⟩
      rw [hw2]
      clear hw2
      go_wp2_with fail
      refine bodyPost_ret (v := .tuple #[.agg #[.int .i64 0, .string ⟨#[]⟩], .bool false]) (by simp [results, Try.results14, go_sem]) rfl ⟨rfl, ?_⟩
      exact HB0.out
end Go.Proofs.Ytnjeeeccfhpolaa
