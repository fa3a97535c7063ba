/- Walk of the cursor's stretch. -/
import Derived.Test.YtgipkpldlkmdkaaDrawY
namespace Go.Proofs.Ytgipkpldlkmdkaa
set_option maxRecDepth 100000
open Go.ChangeShapes Go.WideShapes Go.ChangeAt Go.RowKit G00541
theorem cur_three {B N T : Nat} {sv : Value} {w : World} (h : Cur B N sv w) (hT : T ≠ B) (x y z : Value) : Cur B N sv (((w.setCell ⟨T, 0, none⟩ x).setCell ⟨T, 1, none⟩ y).setCell ⟨T, 2, none⟩ z) :=
  ((h.setOther hT _ _).setOther hT _ _).setOther hT _ _
theorem but_three {B T : Nat} {w w' : World} (h : But B w w') (hT : w.heap.size ≤ T) (x y z : Value) : But B w (((w'.setCell ⟨T, 0, none⟩ x).setCell ⟨T, 1, none⟩ y).setCell ⟨T, 2, none⟩ z) :=
  ((h.setNew hT _ _).setNew hT _ _).setNew hT _ _
set_option maxHeartbeats 4000000 in
theorem stretch_any (B N len cap : Nat) (a : Option Addr) (w : World) (hN : N ≤ 800000) (hC : Cur B N (.slice a len cap) w) (hK : Code B len cap a w) :
    Calls Try.prog 41 #[.pointer (some ⟨B, 0, none⟩)] w fun e w' => ∃ (p n c : Int), e = .returned (.agg #[.int .i64 p, .int .i64 n, .int .i64 c]) ∧ BndX ⟨p, n, c⟩ ∧ Cur B (N + 20) (.slice a len cap) w' ∧ But B w w' := by
  have hlt := hC.lt
  have HC : Hid (Cur B N (.slice a len cap) (w.alloc (.cells #[.int .i64 0, .int .i64 0, .int .i64 0] 36))) := hC.alloc _
  have HK : Hid (Code B len cap a (w.alloc (.cells #[.int .i64 0, .int .i64 0, .int .i64 0] 36))) := hK.but ((But.refl B w).alloc _) (Nat.le_refl _) (by omega)
  have HZ : Hid (SxAt w.heap.size 0 0 0 (w.alloc (.cells #[.int .i64 0, .int .i64 0, .int .i64 0] 36))) := SxAt.new _ _ _ _ _
  have hzs : (w.alloc (.cells #[.int .i64 0, .int .i64 0, .int .i64 0] 36)).heap.size = w.heap.size + 1 := heap_size _ _
  have HB0 : Hid (But B w (w.alloc (.cells #[.int .i64 0, .int .i64 0, .int .i64 0] 36))) := (But.refl B w).alloc _
  have hWB : w.heap.size ≠ B := by omega
  clear hC hK
  go_enter Try.func41, Try.ntmps41
  go_wp2_with fail
  generalize w.alloc (.cells #[.int .i64 0, .int .i64 0, .int .i64 0] 36) = w0 at *
  refine (pick_any _ B N len cap a _ (by omega) (by omega) (by omega) HC.out HK.out).mono ?_
  rintro e w1 ⟨p, rfl, p0, p1, hC1, hB1⟩
  have HC1 : Hid (Cur B (N + 2) (.slice a len cap) w1) := hC1
  have HK1 : Hid (Code B len cap a w1) := HK.out.but hB1 (Nat.le_refl _) (by omega)
  have HZ1 : Hid (SxAt w.heap.size 0 0 0 w1) := HZ.out.but hB1 hWB
  have HB1 : Hid (But B w w1) := HB0.out.trans hB1
  have hs1 := hB1.size
  clear hC1 hB1 HC HK HZ HB0
  go_wp2_with fail
  refine (pick_any _ B _ len cap a _ (by omega) (by omega) (by omega) HC1.out HK1.out).mono ?_
  rintro e w2 ⟨n, rfl, n0, n1, hC2, hB2⟩
  have HC2 : Hid (Cur B (N + 4) (.slice a len cap) w2) := hC2
  have HK2 : Hid (Code B len cap a w2) := HK1.out.but hB2 (Nat.le_refl _) (by omega)
  have HZ2 : Hid (SxAt w.heap.size 0 0 0 w2) := HZ1.out.but hB2 hWB
  have HB2 : Hid (But B w w2) := HB1.out.trans hB2
  have hs2 := hB2.size
  clear hC2 hB2 HC1 HK1 HZ1 HB1
  go_wp2_with fail
  refine (pick_any _ B _ len cap a _ (by omega) (by omega) (by omega) HC2.out HK2.out).mono ?_
  rintro e w3 ⟨c, rfl, c0, c1, hC3, hB3⟩
  have hs3 := hB3.size
  have hsz3 : (w3.alloc (.cells #[.int .i64 p, .int .i64 (1 + n), .int .i64 c] 36)).heap.size = w3.heap.size + 1 := heap_size _ _
  have HC3 : Hid (Cur B (N + 6) (.slice a len cap) (w3.alloc (.cells #[.int .i64 p, .int .i64 (1 + n), .int .i64 c] 36))) := hC3.alloc _
  have HK3 : Hid (Code B len cap a (w3.alloc (.cells #[.int .i64 p, .int .i64 (1 + n), .int .i64 c] 36))) := (HK2.out.but hB3 (Nat.le_refl _) (by omega)).but ((But.refl B w3).alloc _) (Nat.le_refl _) (by omega)
  have HZ3 : Hid (SxAt w.heap.size 0 0 0 (w3.alloc (.cells #[.int .i64 p, .int .i64 (1 + n), .int .i64 c] 36))) := (HZ2.out.but hB3 hWB).alloc _
  have HX3 : Hid (SxAt w3.heap.size p (1 + n) c (w3.alloc (.cells #[.int .i64 p, .int .i64 (1 + n), .int .i64 c] 36))) := SxAt.new _ _ _ _ _
  have HB3 : Hid (But B w (w3.alloc (.cells #[.int .i64 p, .int .i64 (1 + n), .int .i64 c] 36))) := (HB2.out.trans hB3).alloc _
  have hTB : w3.heap.size ≠ B := by omega
  have hTW : w3.heap.size ≠ w.heap.size := by omega
  clear hC3 hB3 HC2 HK2 HZ2 HB2
  go_wp2_with fail
  generalize w3.alloc (.cells #[.int .i64 p, .int .i64 (1 + n), .int .i64 c] 36) = wx at *
  generalize w3.heap.size = T at *
  refine (one_any _ B _ len cap a _ (by omega) (by omega) (by omega) HC3.out HK3.out).mono ?_
  rintro e w4 ⟨v, rfl, hC4, hB4⟩
  have hs4 := hB4.size
  have HC4 : Hid (Cur B (N + 8) (.slice a len cap) w4) := hC4
  have HK4 : Hid (Code B len cap a w4) := HK3.out.but hB4 (Nat.le_refl _) (by omega)
  have HZ4 : Hid (SxAt w.heap.size 0 0 0 w4) := HZ3.out.but hB4 hWB
  have HX4 : Hid (SxAt T p (1 + n) c w4) := HX3.out.but hB4 hTB
  have HB4 : Hid (But B w w4) := HB3.out.trans hB4
  clear hC4 hB4 HC3 HK3 HZ3 HX3 HB3
  cases v
  · obtain ⟨z0, z1, z2, zf0, zf1, zf2, _⟩ := HZ4.out
    obtain ⟨x0, x1, x2, xf0, xf1, xf2, _⟩ := HX4.out
    go_wp2
    refine bodyPost_ret (v := .agg #[.int .i64 p, .int .i64 (1 + n), .int .i64 c]) (by simp [results, Try.results41, go_sem, z0, z1, z2]) rfl ?_
    exact ⟨p, 1 + n, c, rfl, ⟨by simp only; omega, by simp only; omega, by simp only; omega, by simp only; omega, by simp only; omega, by simp only; omega⟩, (cur_three HC4.out hWB _ _ _).mono (by omega), but_three HB4.out (Nat.le_refl _) _ _ _⟩
  · have HL := hid3 (fun i h => lits_at [-1, 0, 15, 16] w4 i h)
    go_wp2_with fail
    refine (among_any [-1, 0, 15, 16] 4 w4.heap.size B _ len cap 4 a _ rfl (by decide) (by decide) (by simp) (by omega) HL.out (by omega) (HC4.out.alloc _) (HK4.out.but ((But.refl B w4).alloc _) (Nat.le_refl _) (by omega))).mono ?_
    rintro e w5 ⟨i5, hi5, rfl, hC5, hB5⟩
    have hp5 : -20000 ≤ ([-1, 0, 15, 16] : List Int).getD i5 0 ∧ ([-1, 0, 15, 16] : List Int).getD i5 0 ≤ 20000 := by
      match i5, hi5 with
      | 0, _ => decide
      | 1, _ => decide
      | 2, _ => decide
      | 3, _ => decide
    generalize ([-1, 0, 15, 16] : List Int).getD i5 0 = q at *
    have hs5 : w4.heap.size ≤ w5.heap.size := by have := hB5.size; simp at this; omega
    have HC5 : Hid (Cur B (N + 10) (.slice a len cap) w5) := hC5
    have HK5 : Hid (Code B len cap a w5) := (HK4.out.but ((But.refl B w4).alloc _) (Nat.le_refl _) (by omega)).but hB5 (Nat.le_refl _) (by simp; omega)
    have HZ5 : Hid (SxAt w.heap.size 0 0 0 w5) := (HZ4.out.alloc _).but hB5 hWB
    have HX5 : Hid (SxAt T p (1 + n) c w5) := (HX4.out.alloc _).but hB5 hTB
    have HB5 : Hid (But B w w5) := (HB4.out.alloc _).trans hB5
    clear hC5 hB5 HC4 HK4 HZ4 HX4 HB4 HL
    have HL := hid3 (fun i h => lits_at [0, 1, 16, 17] w5 i h)
    go_wp2_with fail
    refine (among_any [0, 1, 16, 17] 4 w5.heap.size B _ len cap 4 a _ rfl (by decide) (by decide) (by simp) (by omega) HL.out (by omega) (HC5.out.alloc _) (HK5.out.but ((But.refl B w5).alloc _) (Nat.le_refl _) (by omega))).mono ?_
    rintro e w6 ⟨i6, hi6, rfl, hC6, hB6⟩
    have hp6 : -20000 ≤ ([0, 1, 16, 17] : List Int).getD i6 0 ∧ ([0, 1, 16, 17] : List Int).getD i6 0 ≤ 20000 := by
      match i6, hi6 with
      | 0, _ => decide
      | 1, _ => decide
      | 2, _ => decide
      | 3, _ => decide
    generalize ([0, 1, 16, 17] : List Int).getD i6 0 = m at *
    have hs6 : w5.heap.size ≤ w6.heap.size := by have := hB6.size; simp at this; omega
    have HC6 : Hid (Cur B (N + 12) (.slice a len cap) w6) := hC6
    have HK6 : Hid (Code B len cap a w6) := (HK5.out.but ((But.refl B w5).alloc _) (Nat.le_refl _) (by omega)).but hB6 (Nat.le_refl _) (by simp; omega)
    have HZ6 : Hid (SxAt w.heap.size 0 0 0 w6) := (HZ5.out.alloc _).but hB6 hWB
    have HX6 : Hid (SxAt T p (1 + n) c w6) := (HX5.out.alloc _).but hB6 hTB
    have HB6 : Hid (But B w w6) := (HB5.out.alloc _).trans hB6
    clear hC6 hB6 HC5 HK5 HZ5 HX5 HB5 HL
    have HL := hid3 (fun i h => lits_at [-1, 9985, 10000] w6 i h)
    go_wp2_with fail
    refine (among_any [-1, 9985, 10000] 3 w6.heap.size B _ len cap 3 a _ rfl (by decide) (by decide) (by simp) (by omega) HL.out (by omega) (HC6.out.alloc _) (HK6.out.but ((But.refl B w6).alloc _) (Nat.le_refl _) (by omega))).mono ?_
    rintro e w7 ⟨i7, hi7, rfl, hC7, hB7⟩
    have hp7 : -20000 ≤ ([-1, 9985, 10000] : List Int).getD i7 0 ∧ ([-1, 9985, 10000] : List Int).getD i7 0 ≤ 20000 := by
      match i7, hi7 with
      | 0, _ => decide
      | 1, _ => decide
      | 2, _ => decide
    generalize ([-1, 9985, 10000] : List Int).getD i7 0 = d at *
    have hs7 : w6.heap.size ≤ w7.heap.size := by have := hB7.size; simp at this; omega
    have HC7 : Hid (Cur B (N + 14) (.slice a len cap) w7) := hC7
    have HZ7 : Hid (SxAt w.heap.size 0 0 0 w7) := (HZ6.out.alloc _).but hB7 hWB
    have HX7 : Hid (SxAt T p (1 + n) c w7) := (HX6.out.alloc _).but hB7 hTB
    have HB7 : Hid (But B w w7) := (HB6.out.alloc _).trans hB7
    clear hC7 hB7 HC6 HK6 HZ6 HX6 HB6 HL
    obtain ⟨z0, z1, z2, zf0, zf1, zf2, _⟩ := HZ7.out
    obtain ⟨x0, x1, x2, xf0, xf1, xf2, _⟩ := HX7.out
    have hWT : w.heap.size ≠ T := fun h => hTW h.symm
    go_wp2
    refine bodyPost_ret (v := .agg #[.int .i64 q, .int .i64 m, .int .i64 d]) (by simp [results, Try.results41, go_sem, z0, z1, z2]) rfl ?_
    exact ⟨q, m, d, rfl, ⟨hp5.1, hp5.2, hp6.1, hp6.2, hp7.1, hp7.2⟩, (cur_three (cur_three HC7.out hTB _ _ _) hWB _ _ _).mono (by omega), but_three (but_three HB7.out (by omega) _ _ _) (Nat.le_refl _) _ _ _⟩
end Go.Proofs.Ytgipkpldlkmdkaa
