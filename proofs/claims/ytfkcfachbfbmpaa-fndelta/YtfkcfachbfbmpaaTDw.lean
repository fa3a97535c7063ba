/- What is drawn: texts and what is made of them. -/
import Derived.Test.YtfkcfachbfbmpaaCurR
import Derived.Test.YtfkcfachbfbmpaaTDk
import Derived.Test.YtfkcfachbfbmpaaBytes
namespace Go.Proofs.Ytfkcfachbfbmpaa
set_option maxRecDepth 100000
open Go Go.ChangeShapes Go.WideShapes Go.ChangeAt Go.RowKit
set_option maxHeartbeats 1000000 in
theorem of_any (zs : List ByteArray) (kz L B N len cap c : Nat) (a : Option Addr) (w : World) (hkz : zs.length = kz) (z1 : 1 ≤ zs.length) (z2 : zs.length ≤ 1000) (hL : L < w.heap.size) (hLB : L ≠ B)
    (hz : ∀ i, i < zs.length → w.cell? ⟨L, i, none⟩ = some (.string (zs.getD i ByteArray.empty))) (hN : N ≤ 999998) (hC : Cur B N (.slice a len cap) w) (hK : Code B len cap a w) :
    Calls Try.prog 51 #[.pointer (some ⟨B, 0, none⟩), .slice (some ⟨L, 0, none⟩) kz c] w fun e w' => ∃ i : Nat, i < zs.length ∧ e = .returned (.string (zs.getD i ByteArray.empty)) ∧ Cur B (N + 2) (.slice a len cap) w' ∧ But B w w' := by
  subst hkz
  have HC := hid hC
  have HK := hid hK
  have HZ := hid hz
  clear hC hK hz
  go_enter Try.func51, Try.ntmps51
  go_wp2_with fail
  refine (pick_any _ B N len cap a _ (by omega) (by omega) hN HC.out HK.out).mono ?_
  rintro e w1 ⟨v, rfl, v0, v1, hC1, hB1⟩
  have hcell : w1.cell? ⟨L, v.toNat, none⟩ = some (.string (zs.getD v.toNat ByteArray.empty)) := (hB1.cell L v.toNat hL hLB).trans (HZ.out v.toNat (by omega))
  have HR : Hid (Cur B (N + 2) (.slice a len cap) w1 ∧ But B w w1) := ⟨hC1, hB1⟩
  have hvl : v.toNat < zs.length := by omega
  clear hC1 hB1
  generalize hzv : zs.getD v.toNat ByteArray.empty = z at hcell
  have HZV : Hid (zs.getD v.toNat ByteArray.empty = z) := hzv
  clear hzv
  go_wp2
  go_ret
  exact ⟨v.toNat, hvl, by rw [HZV.out]; rfl, HR.out.1, HR.out.2⟩
theorem strs_lits (zs : List ByteArray) (w : World) (i : Nat) (h : i < zs.length) : (w.alloc (.cells (zs.map Value.string).toArray 9)).cell? ⟨w.heap.size, i, none⟩ = some (.string (zs.getD i ByteArray.empty)) := by
  rw [World.cell?_alloc_new]
  simp [h]
def words : List ByteArray := [⟨#[97, 98, 99, 100]⟩, ⟨#[101, 102, 103, 104]⟩, ⟨#[97, 98, 99, 100]⟩, ⟨#[120, 121]⟩, ⟨#[122]⟩, ⟨#[97, 32, 108, 111, 110, 103, 101, 114, 32, 119, 111, 114, 100, 32]⟩]
def news : List ByteArray := [⟨#[113]⟩, ⟨#[110, 101, 119]⟩, ⟨#[97, 98, 99, 100]⟩]
def tees : List ByteArray := [⟨#[]⟩, ⟨#[]⟩, ⟨#[116]⟩]
theorem small_of (zs : List ByteArray) (n : Nat) (h : ∀ z ∈ zs, z.size ≤ n) (i : Nat) (hi : i < zs.length) : (zs.getD i ByteArray.empty).size ≤ n := by
  rw [List.getD_eq_getElem?_getD, List.getElem?_eq_getElem hi]
  exact h _ (List.getElem_mem hi)
theorem words_small (i : Nat) (h : i < words.length) : (words.getD i ByteArray.empty).size ≤ 14 := small_of words 14 (by decide) i h
theorem news_small (i : Nat) (h : i < news.length) : (news.getD i ByteArray.empty).size ≤ 4 := small_of news 4 (by decide) i h
theorem tees_small (i : Nat) (h : i < tees.length) : (tees.getD i ByteArray.empty).size ≤ 1 := small_of tees 1 (by decide) i h
theorem infoU8T : (Try.prog.info? 5).map (fun i => (i.zero, i.size, i.bytes)) = some (some (.int .u8 0), 1, 1) := by kernel_rfl
theorem make_bytesT (n : Nat) (hn : n ≤ 4194304) (W : World) : (Instr.makeSlice 22 (.int .i64 (n : Int)) (.int .i64 (n : Int))).run Try.prog W =
    .ok (.slice (some ⟨W.heap.size, 0, none⟩) n n) (W.alloc (.cells (madeCells (Value.int .u8 0).cells n) 5)) := by
  obtain ⟨i0, hi, hz0, hz1, hz2⟩ := info_parts infoU8T
  have h := run_make (P := Try.prog) W 22 5 i0 _ Try.underlying22 hi hz0 .i64 .i64 (n : Int) (n : Int) (by omega) (by omega) (by rw [hz2]; omega) (by omega)
  rw [hz1] at h
  simpa using h
def noughtsT (n : Nat) : ByteArray := ⟨(List.replicate n (0 : UInt8)).toArray⟩
theorem noughtsT_size (n : Nat) : (noughtsT n).size = n := by
  show (List.replicate n (0 : UInt8)).toArray.size = n
  simp
theorem noughts_back (W : World) (n : Nat) : Sem.run Try.prog (convert 22 9 (.slice (some ⟨W.heap.size, 0, none⟩) n n)) (W.alloc (.cells (madeCells (Value.int .u8 0).cells n) 5)) = .ok (.string (noughtsT n)) (W.alloc (.cells (madeCells (Value.int .u8 0).cells n) 5)) :=
  (ByteRow.made W n).back (P := Try.prog) (n := n) (cap := n) (by simp) 22 9 Try.underlying22 Try.underlying5 Try.underlying9
set_option maxHeartbeats 2000000 in
theorem old_any (B N len cap : Nat) (a : Option Addr) (w : World) (hN : N ≤ 900000) (hC : Cur B N (.slice a len cap) w) (hK : Code B len cap a w) :
    Calls Try.prog 30 #[.pointer (some ⟨B, 0, none⟩)] w fun e w' => ∃ s : ByteArray, e = .returned (.string s) ∧ s.size ≤ 121 ∧ Cur B (N + 30) (.slice a len cap) w' ∧ But B w w' := by
  have hlt := hC.lt
  have HC := hid hC
  have HK := hid hK
  clear hC hK
  go_enter Try.func30, Try.ntmps30
  go_wp2_with fail
  refine (pick_any _ B N len cap a _ (by omega) (by omega) (by omega) HC.out HK.out).mono ?_
  rintro e w0 ⟨n, rfl, n0, n1, hC0, hB0⟩
  obtain ⟨J, rfl⟩ : ∃ J : Nat, n = (J : Int) := ⟨n.toNat, by omega⟩
  have HC0 := hid hC0
  have HB0 := hid hB0
  clear hC0 hB0 HC
  go_wp2_with fail
  go_loopw [3, 4] (fun t n wr => ∃ (j : Nat) (X : ByteArray), t = .string X ∧ n = .int .i64 (j : Int) ∧ j ≤ 7 ∧ X.size + 14 * j ≤ 98 ∧ Cur B (N + 16 - 2 * j) (.slice a len cap) wr ∧ But B w wr) (fun _ n _ => (intOf n).toNat)
  case atStart => exact ⟨J, _, rfl, rfl, by omega, by show 0 + 14 * J ≤ 98; omega, HC0.out.mono (by omega), HB0.out⟩
  case round =>
    clear HC0 HB0
    obtain ⟨j, X, rfl, rfl, hj7, hX, hcur, hbut⟩ := hrel
    have HCUR := hid hcur
    have HBUT := hid hbut
    have HCODE : Hid (Code B len cap a wr) := HK.out.but hbut (Nat.le_refl _) (by omega)
    have hszr := hbut.size
    clear hcur hbut
    by_cases hj1 : 0 < j
    · have hd : decide ((0 : Int) < (j : Int)) = true := decide_eq_true (by omega)
      have HOF := hid (of_any words 6 wr.heap.size B (N + 16 - 2 * j) len cap 6 a _ rfl (by decide) (by decide) (by simp) (by omega) (strs_lits words wr) (by omega) (HCUR.out.alloc _) (HCODE.out.but ((But.refl B wr).alloc _) (Nat.le_refl _) (by omega)))
      go_wp2_with fail
      refine HOF.out.mono ?_
      rintro e w1 ⟨i, hi, rfl, hC1, hB1⟩
      have hsm := words_small i hi
      have HC1 := hid hC1
      have HB1 : Hid (But B w w1) := (HBUT.out.alloc _).trans hB1
      clear hC1 hB1 HOF HCUR HBUT
      generalize words.getD i ByteArray.empty = D at *
      go_wp2_with fail
      go_roundw
      case rel => exact ⟨j - 1, X ++ D, rfl, by rw [show ((j - 1 : Nat) : Int) = (j : Int) - 1 from by omega], by omega, by rw [ByteArray.size_append]; omega, HC1.out.mono (by omega), HB1.out⟩
      case measure => simp [intOf]; omega
    · obtain rfl : j = 0 := by omega
      have hd : decide ((0 : Int) < ((0 : Nat) : Int)) = false := by decide
      go_wp2_with fail
      refine (one_any _ B _ len cap a _ (by omega) (by omega) (by omega) HCUR.out HCODE.out).mono ?_
      rintro e w2 ⟨v2, rfl, hC2, hB2⟩
      have HC2 := hid hC2
      have HB2 : Hid (But B w w2) := HBUT.out.trans hB2
      have HK2 : Hid (Code B len cap a w2) := HCODE.out.but hB2 (Nat.le_refl _) (by omega)
      have hs2 := hB2.size
      clear hC2 hB2 HCUR HBUT HCODE
      cases v2
      · go_wp2_with fail
        go_ret
        exact ⟨X, rfl, by omega, HC2.out.mono (by omega), HB2.out⟩
      · go_wp2_with fail
        refine (pick_any _ B _ len cap a _ (by omega) (by omega) (by omega) HC2.out HK2.out).mono ?_
        rintro e w3 ⟨m, rfl, m0, m1, hC3, hB3⟩
        obtain ⟨M, hM⟩ : ∃ M : Nat, 120 + m = (M : Int) := ⟨(120 + m).toNat, by omega⟩
        have hM2 : M ≤ 121 := by omega
        have hmk := make_bytesT M (by omega)
        have hbk := noughts_back w3 M
        have HC3 := hid (fun o => hC3.alloc o)
        have HB3 := hid (fun o => (HB2.out.trans hB3).alloc o)
        clear hC3 hB3 HC2 HB2 HK2 m0 m1
        have HZ := hid (noughtsT_size M)
        generalize noughtsT M = NT at *
        generalize madeCells (Value.int .u8 0).cells M = MC at *
        go_wp2_with fail
        go_ret
        exact ⟨NT, rfl, by rw [HZ.out]; exact hM2, (HC3.out _).mono (by omega), HB3.out _⟩
set_option maxHeartbeats 400000 in
theorem least_any (x y : Int) (w : World) : Calls Try.prog 53 #[.int .i64 x, .int .i64 y] w fun e w' => ∃ z : Int, e = .returned (.int .i64 z) ∧ (z = x ∨ z = y) ∧ z ≤ x ∧ z ≤ y ∧ w' = w := by
  by_cases h : x < y
  · have hd : decide (x < y) = true := decide_eq_true h
    go_enter Try.func53, Try.ntmps53
    go_wp2
    go_ret
    exact ⟨x, rfl, Or.inl rfl, Int.le_refl _, by omega, rfl⟩
  · have hd : decide (x < y) = false := decide_eq_false h
    go_enter Try.func53, Try.ntmps53
    go_wp2
    go_ret
    exact ⟨y, rfl, Or.inr rfl, by omega, Int.le_refl _, rfl⟩
end Go.Proofs.Ytfkcfachbfbmpaa
