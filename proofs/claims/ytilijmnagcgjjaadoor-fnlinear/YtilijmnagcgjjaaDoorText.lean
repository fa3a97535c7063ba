/- The walk of a drawn text. -/
import Derived.Test.YtilijmnagcgjjaaDoorCur
import Derived.Test.YtilijmnagcgjjaaDoorWZ
namespace Go.Proofs.YtilijmnagcgjjaaDoor
set_option maxRecDepth 100000
open Go.ChangeShapes Go.WideShapes Go.ChangeAt Go.RowKit
set_option maxHeartbeats 2000000 in
theorem text_any (B N len cap : Nat) (a : Option Addr) (w : World) (hN : N ≤ 900000) (hC : Cur B N (.slice a len cap) w) (hK : Code B len cap a w) :
    Calls Tryd.prog 17 #[.pointer (some ⟨B, 0, none⟩)] w fun e w' => ∃ s : ByteArray, s.size ≤ 401 ∧ e = .returned (.string s) ∧ Cur B (N + 100) (.slice a len cap) w' ∧ But B w w' := by
  have hlt := hC.lt
  have HC : Hid (Cur B N (.slice a len cap) w) := hC
  have HK : Hid (Code B len cap a w) := hK
  clear hC hK
  go_enter Tryd.func17, Tryd.ntmps17
  go_wp2_with fail
  refine (one_any _ B N len cap a _ (by omega) (by omega) (by omega) HC.out HK.out).mono ?_
  rintro e w1 ⟨v, rfl, hC1, hB1⟩
  have hsz1 := hB1.size
  have HC1 : Hid (Cur B (N + 2) (.slice a len cap) w1) := hC1
  have HK1 : Hid (Code B len cap a w1) := HK.out.but hB1 (Nat.le_refl _) (by omega)
  have HB1 : Hid (But B w w1) := hB1
  clear hC1 hB1 HC HK
  cases v
  · go_wp2_with fail
    refine (pick_any _ B (N + 2) len cap a _ (by omega) (by omega) (by omega) HC1.out HK1.out).mono ?_
    rintro e w2 ⟨n, rfl, n0, n1, hC2, hB2⟩
    obtain ⟨m, rfl⟩ := Int.eq_ofNat_of_zero_le n0
    have hsz2 := hB2.size
    have HC2 : Hid (Cur B (N + 4) (.slice a len cap) w2) := hC2
    have HK2 : Hid (Code B len cap a w2) := HK1.out.but hB2 (Nat.le_refl _) (by omega)
    have HB2 : Hid (But B w w2) := HB1.out.trans hB2
    clear hC2 hB2 HC1 HK1 HB1
    have hr0 := ByteRow.made w2 m
    have hmk := make_bytes m (by omega)
    generalize madeCells (Value.int .u8 0).cells m = M at *
    have HR : Hid (ByteRow w2.heap.size (List.replicate m 0) (w2.alloc (.cells M 5))) := hr0
    clear hr0
    go_wp2
    go_loopw [17] (fun i wr => ∃ (k : Nat) (l : List UInt8), k ≤ m ∧ i = .int .i64 k ∧ l.length = m ∧ ByteRow w2.heap.size l wr ∧ Cur B (N + 4 + 2 * k) (.slice a len cap) wr ∧ Code B len cap a wr ∧ But B w wr) (fun i _ => m - (intOf i).toNat)
    case atStart => exact ⟨0, List.replicate m 0, Nat.zero_le _, rfl, by simp, HR.out, HC2.out.alloc _, HK2.out.but ((But.refl B _).alloc _) (Nat.le_refl _) (by omega), HB2.out.alloc _⟩
    case round =>
      obtain ⟨k, l, hk, rfl, hl, hrow, hcur, hcode, hbut⟩ := hrel
      by_cases hkm : k < m
      · have HROW : Hid (ByteRow w2.heap.size l wr) := hrow
        have HCUR : Hid (Cur B (N + 4 + 2 * k) (.slice a len cap) wr) := hcur
        have HCODE : Hid (Code B len cap a wr) := hcode
        have HBUT : Hid (But B w wr) := hbut
        have hszr := hbut.size
        have hltr := hrow.lt
        clear hrow hcur hcode hbut
        go_wp2_with fail
        refine (pick_any _ B (N + 4 + 2 * k) len cap a _ (by omega) (by omega) (by omega) HCUR.out HCODE.out).mono ?_
        rintro e w3 ⟨y, rfl, y0, y1, hC3, hB3⟩
        obtain ⟨x, rfl⟩ := byte_of y y0 (by omega)
        have hsz3 := hB3.size
        have hrow3 := HROW.out.but hB3 (by omega)
        have hcell := hrow3.cell k (by omega)
        obtain ⟨y, hcell⟩ : ∃ y : Int, w3.cell? ⟨w2.heap.size, k, none⟩ = some (.int .u8 y) := ⟨_, hcell⟩
        have hfree := hrow3.free k (by omega)
        have HROW3 : Hid (ByteRow w2.heap.size l w3) := hrow3
        have HCUR3 : Hid (Cur B (N + 4 + 2 * k + 2) (.slice a len cap) w3) := hC3
        have HCODE3 : Hid (Code B len cap a w3) := HCODE.out.but hB3 (Nat.le_refl _) (by omega)
        have HBUT3 : Hid (But B w w3) := HBUT.out.trans hB3
        clear hrow3 hC3 hB3 HROW HCUR HCODE HBUT
        go_wp2
        go_roundw
        case rel => exact ⟨k + 1, l.set k x, by omega, by go_num, by simp; omega, HROW3.out.set k (by omega) x, (HCUR3.out.mono (by omega)).setOther (by omega) _ _, HCODE3.out.but ((But.refl w2.heap.size _).setCell k _) (by omega) (by omega), HBUT3.out.setNew (by omega) _ _⟩
        case measure => simp [intOf]; omega
      · have hback := hrow.back (P := Tryd.prog) (n := m) (cap := m) hl.symm 22 9 Tryd.underlying22 Tryd.underlying5 Tryd.underlying9
        have HCUR : Hid (Cur B (N + 4 + 2 * k) (.slice a len cap) wr) := hcur
        have HBUT : Hid (But B w wr) := hbut
        clear hrow hcur hcode hbut
        go_wp2
        go_ret
        exact ⟨⟨l.toArray⟩, by show l.toArray.size ≤ 401; simp; omega, rfl, HCUR.out.mono (by omega), HBUT.out⟩
  · go_wp2_with fail
    refine (among_any [398, 399, 400, 401] 4 w1.heap.size B (N + 2) len cap 4 a _ rfl (by decide) (by decide) (by simp) (by omega) (fun i hi => lits_at [398, 399, 400, 401] w1 i hi) (by omega) (HC1.out.alloc _) (HK1.out.but ((But.refl B _).alloc _) (Nat.le_refl _) (by omega))).mono ?_
    rintro e w2 ⟨i, hi, rfl, hC2, hB2⟩
    have hv : 398 ≤ ([398, 399, 400, 401] : List Int).getD i 0 ∧ ([398, 399, 400, 401] : List Int).getD i 0 ≤ 401 := by
      have all : ∀ j : Fin 4, 398 ≤ ([398, 399, 400, 401] : List Int).getD j.val 0 ∧ ([398, 399, 400, 401] : List Int).getD j.val 0 ≤ 401 := by decide
      exact all ⟨i, hi⟩
    generalize ([398, 399, 400, 401] : List Int).getD i 0 = n at *
    obtain ⟨v0, v1⟩ := hv
    have HCUR : Hid (Cur B (N + 2 + 2) (.slice a len cap) w2) := hC2
    have HBUT : Hid (But B w w2) := (HB1.out.alloc _).trans hB2
    clear hC2 hB2 HC1 HK1 HB1 hi
    have hmk := make_bytesz n (by omega) (by omega)
    have hbk := zeros_back n.toNat n.toNat
    generalize madeCells (Value.int .u8 0).cells n.toNat = M at *
    go_wp2
    go_ret
    exact ⟨zeros n.toNat, by rw [zeros_size]; omega, rfl, (HCUR.out.mono (by omega)).alloc _, HBUT.out.alloc _⟩
end Go.Proofs.YtilijmnagcgjjaaDoor
