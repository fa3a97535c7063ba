/- What is drawn: a text made of an old one; deltas. -/
import Derived.Test.YtfkcfachbfbmpaaTDw
import Derived.Test.YtfkcfachbfbmpaaTDd
import Derived.Test.YtfkcfachbfbmpaaTAp
import Derived.Deep.RegionHeldLaw
namespace Go.Proofs.Ytfkcfachbfbmpaa
set_option maxRecDepth 100000
open Go Go.ChangeShapes Go.WideShapes Go.ChangeAt Go.RowKit
theorem drewN_but (B : Nat) (w : World) (n : Nat) : But B w (w.drewN n) := But.ofBelow (belowN w n)
set_option maxHeartbeats 4000000 in
theorem changed_any (s : ByteArray) (B N len cap : Nat) (a : Option Addr) (w : World) (hs : s.size ≤ 140) (hN : N ≤ 900000) (hC : Cur B N (.slice a len cap) w) (hK : Code B len cap a w) :
    Calls Try.prog 31 #[.pointer (some ⟨B, 0, none⟩), .string s] w fun e w' => ∃ t : ByteArray, e = .returned (.string t) ∧ t.size ≤ s.size + 12 ∧ Cur B (N + 30) (.slice a len cap) w' ∧ But B w w' := by
  have hlt := hC.lt
  have HC := hid hC
  have HK := hid hK
  clear hC hK
  go_enter Try.func31, Try.ntmps31
  go_wp2_with fail
  refine (pick_any _ B N len cap a _ (by omega) (by omega) (by omega) HC.out HK.out).mono ?_
  rintro e w0 ⟨n, rfl, n0, n1, hC0, hB0⟩
  obtain ⟨J, rfl⟩ : ∃ J : Nat, n = (J : Int) := ⟨n.toNat, by omega⟩
  have HC0 := hid hC0
  have HB0 := hid hB0
  clear hC0 hB0 HC
  go_wp2_with fail
  go_loopw [5, 6] (fun t n wr => ∃ (j : Nat) (X : ByteArray), t = .string X ∧ n = .int .i64 (j : Int) ∧ j ≤ 3 ∧ X.size + 4 * j ≤ s.size + 12 ∧ Cur B (N + 26 - 8 * j) (.slice a len cap) wr ∧ But B w wr) (fun _ n _ => (intOf n).toNat)
  case atStart => exact ⟨J, _, rfl, rfl, by omega, by omega, HC0.out.mono (by omega), HB0.out⟩
  case round =>
    clear HC0 HB0
    obtain ⟨j, X, rfl, rfl, hj3, hX, hcur, hbut⟩ := hrel
    have HCUR := hid hcur
    have HBUT := hid hbut
    have HCODE : Hid (Code B len cap a wr) := HK.out.but hbut (Nat.le_refl _) (by omega)
    have hszr := hbut.size
    clear hcur hbut
    by_cases hj1 : 0 < j
    · have hd : decide ((0 : Int) < (j : Int)) = true := decide_eq_true (by omega)
      have hXs : X.size ≤ 152 := by omega
      go_wp2_with fail
      refine (pick_any _ B _ len cap a _ (by omega) (by omega) (by omega) HCUR.out HCODE.out).mono ?_
      rintro e w1 ⟨i0, rfl, i1, i2, hC1, hB1⟩
      obtain ⟨i, rfl⟩ : ∃ i : Nat, i0 = (i : Int) := ⟨i0.toNat, by omega⟩
      have hiX : i ≤ X.size := by omega
      have HC1 := hid hC1
      have HB1 : Hid (But B w w1) := HBUT.out.trans hB1
      have HK1 : Hid (Code B len cap a w1) := HCODE.out.but hB1 (Nat.le_refl _) (by omega)
      have hs1 := hB1.size
      clear hC1 hB1 HCUR HBUT HCODE i1 i2
      go_wp2_with fail
      refine (pick_any _ B _ len cap a _ (by omega) (by omega) (by omega) HC1.out HK1.out).mono ?_
      rintro e w2 ⟨v, rfl, v0, v1, hC2, hB2⟩
      have HC2 := hid hC2
      have HB2 : Hid (But B w w2) := HB1.out.trans hB2
      have HK2 : Hid (Code B len cap a w2) := HK1.out.but hB2 (Nat.le_refl _) (by omega)
      have hs2 := hB2.size
      clear hC2 hB2 HC1 HB1 HK1
      have hct := cut_to X i (i : Int) rfl hiX
      have hcf := cut_from X i (i : Int) rfl hiX
      have hz1 : (X.extract 0 i).size = i := by rw [ext_size _ _ _ (by omega) hiX]; omega
      have hz2 : (X.extract i X.size).size = X.size - i := by rw [ext_size _ _ _ hiX (Nat.le_refl _)]
      have hv : v = 0 ∨ v = 1 ∨ v = 2 := by omega
      clear v0 v1
      rcases hv with rfl | rfl | rfl
      · have HOF := hid (of_any news 3 w2.drew.heap.size B (N + 26 - 8 * j + 2 + 2) len cap 3 a _ rfl (by decide) (by decide) (by simp) (by have : w2.drew.heap.size = w2.heap.size := rfl; omega) (strs_lits news w2.drew) (by omega) (HC2.out.drew.alloc _) (HK2.out.but ((But.refl B w2).drew.alloc _) (Nat.le_refl _) (by omega)))
        generalize X.extract 0 i = XA at *
        generalize X.extract i X.size = XB at *
        go_wp2_with fail
        go_region_with (go_at_call 51; refine HOF.out.mono ?_; rintro e w3 ⟨q, hq, rfl, hC3, hB3⟩; have hsm := news_small q hq; generalize news.getD q ByteArray.empty = D at *)
        all_goals
          have HC3 := hid hC3
          have HB3 : Hid (But B w w3) := (HB2.out.drew.alloc _).trans hB3
          clear hC3 hB3 HC2 HB2 HK2 HOF
          go_wp2_with fail
          go_roundw
          · exact ⟨j - 1, XA ++ D ++ XB, rfl, by rw [show ((j - 1 : Nat) : Int) = (j : Int) - 1 from by omega], by omega, by rw [ByteArray.size_append, ByteArray.size_append]; omega, HC3.out.mono (by omega), HB3.out⟩
          · simp [intOf]; omega
      · go_wp2_with fail
        refine (pick_any _ B _ len cap a _ (by omega) (by omega) (by omega) HC2.out HK2.out).mono ?_
        rintro e w3 ⟨y, rfl, y0, y1, hC3, hB3⟩
        have HC3 := hid hC3
        have HB3 : Hid (But B w w3) := HB2.out.trans hB3
        clear hC3 hB3 HC2 HB2 HK2
        go_wp2_with fail
        refine (least_any _ _ _).mono ?_
        rintro e w4 ⟨z, rfl, z1, z2, z3, hw4⟩
        rw [hw4]
        clear hw4
        obtain ⟨k, rfl⟩ : ∃ k : Nat, z = (k : Int) := ⟨z.toNat, by omega⟩
        have hkX : k ≤ X.size := by omega
        have hik : i ≤ k := by omega
        have hcf2 := cut_from X k (k : Int) rfl hkX
        have hz3 : (X.extract k X.size).size = X.size - k := by rw [ext_size _ _ _ hkX (Nat.le_refl _)]
        clear z1 z2 z3 hcf hz2
        generalize X.extract 0 i = XA at *
        generalize X.extract k X.size = XB at *
        go_wp2_with fail
        go_quiet (fail)
        have HC4 := hid (HC3.out.but (drewN_but (B + 1) w3 nq) (by omega))
        have HB4 := hid (HB3.out.trans (drewN_but B w3 nq))
        generalize w3.drewN nq = w5 at *
        go_wp2_with fail
        go_roundw
        case rel => exact ⟨j - 1, XA ++ XB, rfl, by rw [show ((j - 1 : Nat) : Int) = (j : Int) - 1 from by omega], by omega, by rw [ByteArray.size_append]; omega, HC4.out.mono (by omega), HB4.out⟩
        case measure => simp [intOf]; omega
      · generalize X.extract 0 i = XA at *
        generalize X.extract i X.size = XB at *
        go_wp2_with fail
        go_quiet (fail)
        have HC4 := hid (HC2.out.but (drewN_but (B + 1) w2 nq) (by omega))
        have HB4 := hid (HB2.out.trans (drewN_but B w2 nq))
        generalize w2.drewN nq = w5 at *
        go_wp2_with fail
        go_roundw
        case rel => exact ⟨j - 1, XB ++ XA, rfl, by rw [show ((j - 1 : Nat) : Int) = (j : Int) - 1 from by omega], by omega, by rw [ByteArray.size_append]; omega, HC4.out.mono (by omega), HB4.out⟩
        case measure => simp [intOf]; omega
    · obtain rfl : j = 0 := by omega
      have hd : decide ((0 : Int) < ((0 : Nat) : Int)) = false := by decide
      go_wp2_with fail
      go_ret
      exact ⟨X, rfl, by omega, HCUR.out.mono (by omega), HBUT.out⟩
end Go.Proofs.Ytfkcfachbfbmpaa
