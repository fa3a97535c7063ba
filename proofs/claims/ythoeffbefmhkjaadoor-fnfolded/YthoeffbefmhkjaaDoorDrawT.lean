/- Walks of the cursor's segments, and of what is drawn. -/
import Derived.Test.YthoeffbefmhkjaaDoorDrawS
import Derived.Test.YthoeffbefmhkjaaDoorSegI
import Derived.BigRegion
namespace Go.Proofs.YthoeffbefmhkjaaDoor
set_option maxRecDepth 100000
open Go.ChangeShapes Go.WideShapes Go.ChangeAt Go.RowKit G00541
def withB : ByteArray := ⟨#[0, 5, 1, 97, 98]⟩
theorem one_bt (w : World) (x : Int) : Sem.run Tryd.prog (convert 22 9 (.slice (some ⟨w.heap.size, 0, none⟩) 1 1)) (w.alloc (.cells #[.int .u8 x] 5)) =
    .ok (.string (strOfNums [x])) (w.alloc (.cells #[.int .u8 x] 5)) :=
  run_convert_bytes_arg (w.alloc (.cells #[.int .u8 x] 5)) 22 5 Tryd.underlying22 Tryd.underlying5 w.heap.size 0 1 1 [x] rfl (fun i hi => by
    obtain rfl : i = 0 := by omega
    go_simp) 9 Tryd.underlying9
set_option maxHeartbeats 2000000 in
theorem spoilt_any (T W : ByteArray) (B N len cap : Nat) (a : Option Addr) (w : World) (hT : T.size ≤ 300) (hW : W.size = 5) (hN : N ≤ 900000) (hC : Cur B N (.slice a len cap) w) (hK : Code B len cap a w) :
    Calls Tryd.prog 53 #[.pointer (some ⟨B, 0, none⟩), .string T, .string W] w fun e w' => ∃ X : ByteArray, e = .returned (.string X) ∧ X.size ≤ 302 ∧ Cur B (N + 20) (.slice a len cap) w' ∧ But B w w' := by
  have hlt := hC.lt
  have HC : Hid (Cur B N (.slice a len cap) w) := hC
  have HK : Hid (Code B len cap a w) := hK
  clear hC hK
  go_enter Tryd.func53, Tryd.ntmps53
  go_wp2_with fail
  refine (pick_any _ B N len cap a _ (by omega) (by omega) (by omega) HC.out HK.out).mono ?_
  rintro e w1 ⟨n, rfl, n0, n1, hC1, hB1⟩
  have HC1 : Hid (Cur B (N + 2) (.slice a len cap) w1) := hC1
  have HB1 : Hid (But B w w1) := hB1
  clear hC1 hB1 HC
  go_wp2
  go_loopw [1, 7] (fun o i wr => ∃ (X : ByteArray) (m : Int), o = .string X ∧ i = .int .i64 m ∧ 0 ≤ m ∧ m ≤ 2 ∧ (X.size : Int) + m ≤ 302 ∧ Cur B (N + 2 + (2 - m).toNat * 6) (.slice a len cap) wr ∧ But B w wr) (fun _ i _ => (intOf i).toNat)
  case atStart => exact ⟨T, n, rfl, rfl, n0, by omega, by omega, HC1.out.mono (by omega), HB1.out⟩
  case round =>
    obtain ⟨X, m, rfl, rfl, m0, m2, hXm, hcur, hbut⟩ := hrel
    have HCUR : Hid (Cur B (N + 2 + (2 - m).toNat * 6) (.slice a len cap) wr) := hcur
    have HBUT : Hid (But B w wr) := hbut
    have HCODE : Hid (Code B len cap a wr) := HK.out.but hbut (Nat.le_refl _) (by omega)
    have hszr := hbut.size
    have hXs : X.size ≤ 302 := by omega
    clear hcur hbut
    by_cases hp : 0 < m
    case neg =>
      have hd : decide (0 < m) = false := by simpa using hp
      go_wp2
      go_ret
      exact ⟨X, rfl, hXs, HCUR.out.mono (by omega), HBUT.out⟩
    have hd : decide (0 < m) = true := by simpa using hp
    by_cases hx : 0 < X.size
    case neg =>
      have hd2 : decide ((0 : Int) < (X.size : Int)) = false := decide_eq_false (by omega)
      go_wp2
      go_ret
      exact ⟨X, rfl, hXs, HCUR.out.mono (by omega), HBUT.out⟩
    have hd2 : decide ((0 : Int) < (X.size : Int)) = true := decide_eq_true (by omega)
    go_wp2_with fail
    refine (pick_any _ B _ len cap a _ (by omega) (by omega) (by omega) HCUR.out HCODE.out).mono ?_
    rintro e w2 ⟨i, rfl, i0, i1, hC2, hB2⟩
    have hs2 := hB2.size
    have HC2 : Hid (Cur B (N + 2 + (2 - m).toNat * 6 + 2) (.slice a len cap) w2) := hC2
    have HB2 : Hid (But B w w2) := HBUT.out.trans hB2
    have HK2 : Hid (Code B len cap a w2) := HCODE.out.but hB2 (Nat.le_refl _) (by omega)
    clear hC2 hB2 HCUR HBUT HCODE
    obtain ⟨i, rfl⟩ : ∃ k : Nat, i = (k : Int) := ⟨i.toNat, by omega⟩
    have hi2 : i < X.size := by omega
    go_wp2_with fail
    refine (pick_any _ B _ len cap a _ (by omega) (by omega) (by omega) HC2.out HK2.out).mono ?_
    rintro e w3 ⟨j, rfl, j0, j1, hC3, hB3⟩
    have hs3 := hB3.size
    have HC3 : Hid (∀ o, Cur B (N + 2 + (2 - m).toNat * 6 + 2 + 2) (.slice a len cap) (w3.alloc o)) := fun o => hC3.alloc o
    have HB3 : Hid (∀ o, But B w (w3.alloc o)) := fun o => (HB2.out.trans hB3).alloc o
    have HK3 : Hid (∀ o, Code B len cap a (w3.alloc o)) := fun o => (HK2.out.but hB3 (Nat.le_refl _) (by omega)).but ((But.refl B w3).alloc o) (Nat.le_refl _) (by omega)
    clear hC3 hB3 HC2 HB2 HK2
    obtain ⟨j, rfl⟩ : ∃ k : Nat, j = (k : Int) := ⟨j.toNat, by omega⟩
    have hj2 : j < W.size := by omega
    have hcv := one_bt
    have hWj : W[j].toNat < 256 := W[j].toNat_lt
    have hsz : ∀ x : Int, (strOfNums [x]).size = 1 := fun x => strOfNums_size _
    go_wp2_with fail
    refine (pick_any _ B _ len cap a _ (by omega) (by omega) (by omega) (HC3.out _) (HK3.out _)).mono ?_
    rintro e w4 ⟨q, rfl, q0, q1, hC4, hB4⟩
    have hs4 := hB4.size
    rw [heap_size] at hs4
    have HC4 : Hid (Cur B (N + 2 + (2 - m).toNat * 6 + 2 + 2 + 2) (.slice a len cap) w4) := hC4
    have HB4 : Hid (But B w w4) := (HB3.out _).trans hB4
    clear hC4 hB4 HC3 HB3 HK3
    generalize hWW : strOfNums [(W[j].toNat : Int)] = U at *
    have hU : U.size = 1 := by rw [← hWW]; exact hsz _
    clear hWW hsz hcv
    have hcA := fun v => cut_to X i (i : Int) rfl (by omega) v
    have hcB := fun v => cut_from X i (i : Int) rfl (by omega) v
    have hcC := fun v => cut_from X (i + 1) ((i : Int) + 1) (by omega) (by omega) v
    have sA := ext_size X 0 i (by omega) (by omega)
    have sB := ext_size X i X.size (by omega) (Nat.le_refl _)
    have sC := ext_size X (i + 1) X.size (by omega) (Nat.le_refl _)
    generalize X.extract 0 i = XA at *
    generalize X.extract i X.size = XB at *
    generalize X.extract (i + 1) X.size = XC at *
    have sA' : XA.size ≤ 302 := by omega
    have sB' : XB.size ≤ 302 := by omega
    have sC' : XC.size ≤ 302 := by omega
    have SZ : Hid (XA.size = i ∧ XB.size = X.size - i ∧ XC.size = X.size - (i + 1) ∧ U.size = 1) := ⟨by omega, sB, sC, hU⟩
    clear sA sB sC
    by_cases e0 : q = 0
    · subst e0
      have sAU : (XA ++ U).size ≤ 303 := by rw [ByteArray.size_append]; omega
      go_wp2_with fail
      go_big_region
      all_goals
        go_wp2
        go_roundw
        case rel => exact ⟨_, m - 1, rfl, rfl, by omega, by omega, by rw [ByteArray.size_append, ByteArray.size_append]; have := SZ.out; omega, (HC4.out.mono (by omega)).drew, HB4.out.drew⟩
        case measure => simp [intOf]; omega
    have d0 : (q == 0) = false := by rw [beq_eq_false_iff_ne]; exact e0
    by_cases e1 : q = 1
    · subst e1
      have sAU : (XA ++ U).size ≤ 303 := by rw [ByteArray.size_append]; omega
      go_wp2_with fail
      go_big_region
      all_goals
        go_wp2
        go_roundw
        case rel => exact ⟨_, m - 1, rfl, rfl, by omega, by omega, by rw [ByteArray.size_append, ByteArray.size_append]; have := SZ.out; omega, (HC4.out.mono (by omega)).drew, HB4.out.drew⟩
        case measure => simp [intOf]; omega
    · have d1 : (q == 1) = false := by rw [beq_eq_false_iff_ne]; exact e1
      go_wp2_with fail
      go_big_region
      all_goals
        go_wp2
        go_roundw
        case rel => exact ⟨_, m - 1, rfl, rfl, by omega, by omega, by rw [ByteArray.size_append]; have := SZ.out; omega, (HC4.out.mono (by omega)).drew, HB4.out.drew⟩
        case measure => simp [intOf]; omega
end Go.Proofs.YthoeffbefmhkjaaDoor
