/- Walks of the cursor that reads choices from bytes. -/
import Derived.Test.YtipeillhafcliaaChecked
import Derived.Test.YtipeillhafcliaaBut
import Derived.WalkKit
import Derived.ProofKit
namespace Go.Proofs.Ytipeillhafcliaa
set_option maxRecDepth 100000
open Go.ChangeShapes Go.WideShapes Go.ChangeAt Go.RowKit
theorem u64_ge (n : Int) : 0 ≤ IntKind.u64.wrap n := by rw [IntKind.wrap_u64]; omega
theorem u64_lt (n : Int) : IntKind.u64.wrap n < 18446744073709551616 := by rw [IntKind.wrap_u64]; omega
theorem and255 (x : Int) (h0 : 0 ≤ x) (h1 : x < 18446744073709551616) : 0 ≤ wrap64 (bits .and .u64 x 255) ∧ wrap64 (bits .and .u64 x 255) ≤ 255 := by
  obtain ⟨n, rfl⟩ := Int.eq_ofNat_of_zero_le h0
  rw [show (255 : Int) = ((255 : Nat) : Int) from rfl, u64_and_nat _ _ (by omega) (by decide), nat_mask8]
  unfold wrap64
  omega
set_option maxHeartbeats 1000000 in
theorem next_any (B N len cap : Nat) (a : Option Addr) (w : World) (hN : N ≤ 1000000) (hC : Cur B N (.slice a len cap) w) (hK : Code B len cap a w) :
    Calls Try.prog 52 #[.pointer (some ⟨B, 0, none⟩)] w fun e w' => ∃ v : Int, e = .returned (.int .i64 v) ∧ 0 ≤ v ∧ v ≤ 255 ∧ Cur B (N + 1) (.slice a len cap) w' ∧ But B w w' := by
  obtain ⟨p, p0, p1, hp⟩ := hC.place
  obtain ⟨s, s0, s1, hs⟩ := hC.seed
  have hc := hC.code
  have f1 := hC.free1
  have f2 := hC.free2
  have hsm := hK.small
  have HC : Hid (Cur B N (.slice a len cap) w) := hC
  have HS : Hid (s < 18446744073709551616) := s1
  by_cases hlt : p < len
  · obtain ⟨b, off, rfl, hb, hcells⟩ := hK.cell (by omega)
    obtain ⟨z, z0, z1, hz⟩ := hcells p.toNat (by omega)
    have hbB : b ≠ B := by omega
    clear hC hcells s1 hK
    go_enter Try.func52, Try.ntmps52
    go_wp2
    go_region
    go_wp2
    go_region
    go_wp2
    go_region
    go_wp2
    go_ret
    exact ⟨z, rfl, z0, by omega, ((HC.out.step p _ p0 p1 (u64_ge _) (u64_lt _)).drew.drew).drew, (((((But.refl _ _).setCell 1 _).setCell 2 _).drew).drew).drew⟩
  · have hd : decide (p < (len : Int)) = false := by simp; omega
    have he : decide (p + 1 ≤ (len : Int)) = false := by simp; omega
    clear hC hK s1
    go_enter Try.func52, Try.ntmps52
    go_wp2
    go_region
    go_wp2
    go_region
    go_wp2
    go_ret
    refine ⟨_, rfl, ?_, ?_, ((HC.out.step p _ p0 p1 (u64_ge _) (u64_lt _)).drew).drew, ((((But.refl _ _).setCell 1 _).setCell 2 _).drew).drew⟩
    · exact (and255 _ (by have := u64_ge (IntKind.u64.wrap (IntKind.u64.wrap (s * 6364136223846793005)) + 1442695040888963407); omega) (by have := u64_lt (IntKind.u64.wrap (IntKind.u64.wrap (s * 6364136223846793005)) + 1442695040888963407); omega)).1
    · exact (and255 _ (by have := u64_ge (IntKind.u64.wrap (IntKind.u64.wrap (s * 6364136223846793005)) + 1442695040888963407); omega) (by have := u64_lt (IntKind.u64.wrap (IntKind.u64.wrap (s * 6364136223846793005)) + 1442695040888963407); omega)).2
set_option maxHeartbeats 1000000 in
theorem pick_any (n : Int) (B N len cap : Nat) (a : Option Addr) (w : World) (n1 : 1 ≤ n) (n2 : n ≤ 100000) (hN : N ≤ 999998) (hC : Cur B N (.slice a len cap) w) (hK : Code B len cap a w) :
    Calls Try.prog 30 #[.pointer (some ⟨B, 0, none⟩), .int .i64 n] w fun e w' => ∃ v : Int, e = .returned (.int .i64 v) ∧ 0 ≤ v ∧ v < n ∧ Cur B (N + 2) (.slice a len cap) w' ∧ But B w w' := by
  by_cases h1 : n ≤ 1
  · have hd : decide (n ≤ 1) = true := by simpa using h1
    have HC : Hid (Cur B N (.slice a len cap) w) := hC
    clear hC hK
    go_enter Try.func30, Try.ntmps30
    go_wp2_with fail
    go_ret
    exact ⟨0, rfl, by omega, by omega, HC.out.mono (by omega), But.refl _ _⟩
  · have hd : decide (n ≤ 1) = false := by simpa using h1
    have hlt := hC.lt
    by_cases h2 : 200 < n
    · have he : decide (200 < n) = true := by simpa using h2
      have HC : Hid (Cur B N (.slice a len cap) w) := hC
      have HK : Hid (Code B len cap a w) := hK
      clear hC hK h1
      go_enter Try.func30, Try.ntmps30
      go_wp2_with fail
      refine (next_any B N len cap a _ (by omega) HC.out HK.out).mono ?_
      rintro e w1 ⟨v, rfl, v0, v1, hC1, hB1⟩
      have HC1 : Hid (Cur B (N + 1) (.slice a len cap) w1) := hC1
      have HB1 : Hid (But B w w1) := hB1
      clear hC1 hB1
      go_wp2_with fail
      refine (next_any B (N + 1) len cap a _ (by omega) HC1.out (HK.out.but HB1.out (Nat.le_refl _) (by omega))).mono ?_
      rintro e w2 ⟨u, rfl, u0, u1, hC2, hB2⟩
      have HC2 : Hid (Cur B (N + 1 + 1) (.slice a len cap) w2) := hC2
      have HB2 : Hid (But B w1 w2) := hB2
      clear hC2 hB2
      go_wp2
      go_ret
      exact ⟨_, rfl, Int.emod_nonneg _ (by omega), Int.emod_lt_of_pos _ (by omega), HC2.out, HB1.out.trans HB2.out⟩
    · have he : decide (200 < n) = false := by simpa using h2
      have HC : Hid (Cur B N (.slice a len cap) w) := hC
      have HK : Hid (Code B len cap a w) := hK
      clear hC hK
      go_enter Try.func30, Try.ntmps30
      go_wp2_with fail
      refine (next_any B N len cap a _ (by omega) HC.out HK.out).mono ?_
      rintro e w1 ⟨v, rfl, v0, v1, hC1, hB1⟩
      have HC1 : Hid (Cur B (N + 1) (.slice a len cap) w1) := hC1
      have HB1 : Hid (But B w w1) := hB1
      clear hC1 hB1
      go_wp2
      go_ret
      exact ⟨_, rfl, Int.emod_nonneg _ (by omega), Int.emod_lt_of_pos _ (by omega), HC1.out.mono (by omega), HB1.out⟩
set_option maxHeartbeats 1000000 in
theorem one_any (n : Int) (B N len cap : Nat) (a : Option Addr) (w : World) (n1 : 1 ≤ n) (n2 : n ≤ 100000) (hN : N ≤ 999998) (hC : Cur B N (.slice a len cap) w) (hK : Code B len cap a w) :
    Calls Try.prog 37 #[.pointer (some ⟨B, 0, none⟩), .int .i64 n] w fun e w' => ∃ v : Bool, e = .returned (.bool v) ∧ Cur B (N + 2) (.slice a len cap) w' ∧ But B w w' := by
  have HC : Hid (Cur B N (.slice a len cap) w) := hC
  have HK : Hid (Code B len cap a w) := hK
  clear hC hK
  go_enter Try.func37, Try.ntmps37
  go_wp2_with fail
  refine (pick_any _ B N len cap a _ n1 n2 hN HC.out HK.out).mono ?_
  rintro e w1 ⟨v, rfl, v0, v1, hC1, hB1⟩
  have HR : Hid (Cur B (N + 2) (.slice a len cap) w1 ∧ But B w w1) := ⟨hC1, hB1⟩
  clear hC1 hB1
  go_wp2
  go_ret
  exact ⟨_, rfl, HR.out.1, HR.out.2⟩
set_option maxHeartbeats 1000000 in
theorem among_any (zs : List Int) (kz L B N len cap c : Nat) (a : Option Addr) (w : World) (hkz : zs.length = kz) (z1 : 1 ≤ zs.length) (z2 : zs.length ≤ 1000) (hL : L < w.heap.size) (hLB : L ≠ B)
    (hz : ∀ i, i < zs.length → w.cell? ⟨L, i, none⟩ = some (.int .i64 (zs.getD i 0))) (hN : N ≤ 999998) (hC : Cur B N (.slice a len cap) w) (hK : Code B len cap a w) :
    Calls Try.prog 48 #[.pointer (some ⟨B, 0, none⟩), .slice (some ⟨L, 0, none⟩) kz c] w fun e w' => ∃ i : Nat, i < zs.length ∧ e = .returned (.int .i64 (zs.getD i 0)) ∧ Cur B (N + 2) (.slice a len cap) w' ∧ But B w w' := by
  subst hkz
  have HC : Hid (Cur B N (.slice a len cap) w) := hC
  have HK : Hid (Code B len cap a w) := hK
  have HZ : Hid (∀ i, i < zs.length → w.cell? ⟨L, i, none⟩ = some (.int .i64 (zs.getD i 0))) := hz
  clear hC hK hz
  go_enter Try.func48, Try.ntmps48
  go_wp2_with fail
  refine (pick_any _ B N len cap a _ (by omega) (by omega) hN HC.out HK.out).mono ?_
  rintro e w1 ⟨v, rfl, v0, v1, hC1, hB1⟩
  have hcell : w1.cell? ⟨L, v.toNat, none⟩ = some (.int .i64 (zs.getD v.toNat 0)) := (hB1.cell L v.toNat hL hLB).trans (HZ.out v.toNat (by omega))
  have HR : Hid (Cur B (N + 2) (.slice a len cap) w1 ∧ But B w w1) := ⟨hC1, hB1⟩
  have hvl : v.toNat < zs.length := by omega
  clear hC1 hB1
  generalize hzv : zs.getD v.toNat 0 = z at hcell
  have HZV : Hid (zs.getD v.toNat 0 = z) := hzv
  clear hzv
  go_wp2
  go_ret
  exact ⟨v.toNat, hvl, by rw [HZV.out]; rfl, HR.out.1, HR.out.2⟩
theorem lits_at (zs : List Int) (w : World) (i : Nat) (h : i < zs.length) : (w.alloc (.cells (zs.map (Value.int .i64)).toArray 3)).cell? ⟨w.heap.size, i, none⟩ = some (.int .i64 (zs.getD i 0)) := by
  rw [World.cell?_alloc_new]
  simp [h]
end Go.Proofs.Ytipeillhafcliaa
