/- The program's sums that roll: walks. -/
import Derived.Test.YtfkcfachbfbmpaaTRo
namespace Go.Proofs.Ytfkcfachbfbmpaa
set_option maxRecDepth 100000
open Go Go.ChangeShapes Go.WideShapes Go.ChangeAt Go.RowKit
/-- a sum in a box of its own -/
def RB (R a b : Nat) (w : World) : Prop := w.heap[R]? = some (.cells #[.int .i64 a, .int .i64 b] 69)
theorem RB.lt {R a b : Nat} {w : World} (h : RB R a b w) : R < w.heap.size := kbox h
theorem RB.c0 {R a b : Nat} {w : World} (h : RB R a b w) : w.cell? ⟨R, 0, none⟩ = some (.int .i64 a) := box_cell h 0
theorem RB.c1 {R a b : Nat} {w : World} (h : RB R a b w) : w.cell? ⟨R, 1, none⟩ = some (.int .i64 b) := box_cell h 1
theorem RB.f {R a b : Nat} {w : World} (h : RB R a b w) (i : Nat) : w.frozen? ⟨R, i, none⟩ = false := box_free h i
theorem RB.s0 {R a b : Nat} {w : World} (h : RB R a b w) (x : Nat) : RB R x b (w.setCell ⟨R, 0, none⟩ (.int .i64 x)) := box_set h 0 _
theorem RB.s1 {R a b : Nat} {w : World} (h : RB R a b w) (x : Nat) : RB R a x (w.setCell ⟨R, 1, none⟩ (.int .i64 x)) := box_set h 1 _
theorem RB.below {R a b : Nat} {w w' : World} (h : RB R a b w) (g : Below w.heap.size w w') : RB R a b w' := (g.block R h.lt).trans h
theorem RB.drew {R a b : Nat} {w : World} (h : RB R a b w) : RB R a b w.drew := h
theorem tmod_nat (a b : Nat) : Int.tmod (a : Int) (b : Int) = ((a % b : Nat) : Int) := by
  rw [Int.tmod_eq_emod_of_nonneg (by omega), Int.natCast_emod]
set_option maxHeartbeats 1000000 in
theorem takeIn_any (R a b x : Nat) (w : World) (hx : x < 256) (ha : a < 251) (hb : b < 251) (h : RB R a b w) :
    Calls Try.prog 57 #[.pointer (some ⟨R, 0, none⟩), .int .u8 x] w fun e w' => e = .returned (.tuple #[]) ∧ RB R ((a + x) % 251) ((b + (a + x) % 251) % 251) w' ∧ But R w w' := by
  have HR := hid h
  have a0 := h.c0
  have b0 := h.c1
  have f0 := h.f 0
  have f1 := h.f 1
  clear h
  have hA : (((a + x) % 251 : Nat) : Int) = ((a : Int) + (x : Int)) % 251 := by omega
  go_enter Try.func57, Try.ntmps57
  go_wp2_with fail
  go_big_region
  go_wp2_with fail
  go_end0
  have e1 : ((a : Int) + (x : Int)) % 251 = (((a + x) % 251 : Nat) : Int) := by omega
  have e2 : ((b : Int) + ((a : Int) + (x : Int))) % 251 = (((b + (a + x) % 251) % 251 : Nat) : Int) := by omega
  rw [e1, e2]
  exact ⟨rfl, (HR.out.s0 _).s1 _, (((But.refl _ _).setCell _ _).setCell _ _).drew⟩
set_option maxHeartbeats 1000000 in
theorem rsum_any (R a b : Nat) (w : World) (ha : a < 251) (hb : b < 251) (h : RB R a b w) :
    Calls Try.prog 45 #[.pointer (some ⟨R, 0, none⟩)] w fun e w' => e = .returned (.int .i64 (256 * b + a : Nat)) ∧ Below w.heap.size w w' ∧ RB R a b w' := by
  have HR := hid h
  have a0 := h.c0
  have b0 := h.c1
  clear h
  go_enter Try.func45, Try.ntmps45
  go_wp2_with fail
  go_big_region
  go_wp2_with fail
  go_ret
  exact ⟨ret_in (by omega), (Below.refl _ _).drew, HR.out.drew⟩
set_option maxHeartbeats 1000000 in
theorem each_any (R : Nat) (s : ByteArray) (w : World) (hs : s.size ≤ 1048576) (h : RB R 0 0 w) :
    Calls Try.prog 56 #[.string s, .func (.func 57) #[.pointer (some ⟨R, 0, none⟩)] #[]] w fun e w' => e = .returned (.tuple #[]) ∧ RB R (sumA (byN s) % 251) (sumB (byN s) % 251) w' ∧ But R w w' := by
  have HR := hid h
  clear h
  go_enter Try.func56, Try.ntmps56
  go_wp2_with fail
  go_loopw [7] (fun i wr => ∃ k : Nat, k ≤ s.size ∧ i = .int .i64 k ∧ RB R (sumA ((byN s).take k) % 251) (sumB ((byN s).take k) % 251) wr ∧ But R w wr) (fun i _ => s.size - (intOf i).toNat)
  case atStart => exact ⟨0, Nat.zero_le _, rfl, HR.out, But.refl _ _⟩
  case round =>
    obtain ⟨k, hk, rfl, hr, hb⟩ := hrel
    have HB := hid hb
    clear hb
    by_cases hlt : k < s.size
    · have ht := byN_take s k hlt
      have hx : s[k].toNat < 256 := s[k].toNat_lt
      have HT := hid (takeIn_any R _ _ s[k].toNat wr hx (Nat.mod_lt _ (by decide)) (Nat.mod_lt _ (by decide)) hr)
      rw [sumA_step, sumB_step, ← ht] at HT
      clear ht hr
      go_wp2_with fail
      refine HT.out.mono ?_
      rintro e w1 ⟨rfl, r1, b1⟩
      have HR1 := hid r1
      have HB1 := hid (HB.out.trans b1)
      clear r1 b1
      go_wp2_with fail
      go_roundw
      case rel => exact ⟨k + 1, by omega, by go_num, HR1.out, HB1.out⟩
      case measure => simp [intOf]; omega
    · obtain rfl : k = s.size := by omega
      rw [List.take_of_length_le (by rw [byN_len]; omega)] at hr
      have HR1 := hid hr
      clear hr
      go_wp2_with fail
      go_end0
      exact ⟨rfl, HR1.out, HB.out⟩
set_option maxHeartbeats 1000000 in
theorem rollOf_any (s : ByteArray) (w : World) (hs : s.size ≤ 1048576) :
    Calls Try.prog 44 #[.string s] w fun e w' => e = .returned (.agg #[.int .i64 (sumA (byN s) % 251 : Nat), .int .i64 (sumB (byN s) % 251 : Nat)]) ∧ Below w.heap.size w w' := by
  have g1 := boxB w (.cells #[.int .i64 0, .int .i64 0] 69)
  have k1 := heap_last w (.cells #[.int .i64 0, .int .i64 0] 69)
  have z1 : (w.alloc (.cells #[.int .i64 0, .int .i64 0] 69)).heap.size = w.heap.size + 1 := heap_size _ _
  generalize hW1 : w.alloc (.cells #[.int .i64 0, .int .i64 0] 69) = w1 at *
  have g2 := boxB w1 (.cells #[.int .i64 0, .int .i64 0] 69)
  have k2 := heap_last w1 (.cells #[.int .i64 0, .int .i64 0] 69)
  generalize hW2 : w1.alloc (.cells #[.int .i64 0, .int .i64 0] 69) = w2 at *
  have HE := hid (each_any w1.heap.size s w2 hs k2)
  have HK1 := hid ((g2.block _ (kbox k1)).trans k1)
  have HG : Hid (Below w.heap.size w w2) := g1.trans (g2.mono g1.size)
  have HL : Hid (w.heap.size < w1.heap.size) := kbox k1
  have HL2 : Hid (w.heap.size < w2.heap.size) := Nat.lt_of_lt_of_le (kbox k1) g2.size
  have HZ := hid z1
  clear g1 g2 k1 k2 z1
  generalize sumA (byN s) % 251 = va at *
  generalize sumB (byN s) % 251 = vb at *
  go_enter Try.func44, Try.ntmps44
  go_wp2_with fail
  refine HE.out.mono ?_
  rintro e w3 ⟨rfl, r3, b3⟩
  have c0 := r3.c0
  have c1 := r3.c1
  have K := (b3.block _ HL2.out (Nat.ne_of_lt HL.out)).trans HK1.out
  have y0 := box_cell K 0
  have y1 := box_cell K 1
  have f0 := box_free K 0
  have f1 := box_free K 1
  have HB3 : Hid (Below w.heap.size w w3) := HG.out.trans (b3.below (Nat.le_of_lt HL.out) HG.out.size)
  simp only [List.getElem?_toArray, List.getElem?_cons_zero, List.getElem?_cons_succ] at y0 y1
  clear K b3 r3
  have hne := Nat.ne_of_lt HL.out
  go_wp2_with fail
  refine bodyPost_ret (v := .agg #[.int .i64 va, .int .i64 vb]) (by simp [results, Try.results44, go_sem, y0, y1]) rfl ⟨rfl, ?_⟩
  exact setB (setB HB3.out _ _ (Nat.le_refl _) _) _ _ (Nat.le_refl _) _
end Go.Proofs.Ytfkcfachbfbmpaa
