/- The program's PacketOf. -/
import Derived.Test.YtnjeeeccfhpolaaPMs
namespace Go.Proofs.Ytnjeeeccfhpolaa
set_option maxRecDepth 100000
open Go Go.ChangeShapes Go.WideShapes Go.ChangeAt Go.RowKit
set_option maxHeartbeats 600000 in
theorem ipack_any (a : Option Addr) (cap : Nat) (l : List ByteArray) (m : Int) (w : World) (hn : l.length ≤ 1048576) (hs : ∀ s ∈ l, s.size ≤ 9223372036854775807) (hZ : Ss w.heap.size a l w) :
    Calls Try.prog 15 #[.slice a l.length cap, .int .i64 m] w fun e w' => e = .returned (.tuple #[.agg #[.int .i64 (packM l m), .string (packT l m)], .bool (packOk l m)]) ∧ Below w.heap.size w w' := by
  have hb0 := boxB w (.cells #[.int .i64 0, .string ⟨#[]⟩] 28)
  have hk0 := heap_last w (.cells #[.int .i64 0, .string ⟨#[]⟩] 28)
  have HZ : Hid (∀ v, Below w.heap.size w v → Ss v.heap.size a l v) := fun v g => (hZ.below g).mono g.size
  have HG := hid (igoodSr_any a cap l _ hn hs (HZ.out _ hb0))
  have HB0 := hid hb0
  have HK0 := hid hk0
  clear hZ hb0 hk0
  generalize hW : w.alloc (.cells #[.int .i64 0, .string ⟨#[]⟩] 28) = W at *
  have hW1 := boxB W (.cells #[.int .i64 m] 3)
  have hIs := irow_one W m
  have HW1 := hid hW1
  have HIS := hid hIs
  clear hW1 hIs
  cases hg : goodSr l
  · have HV : Hid (packOk l m = false) := by show packOk l m = false; unfold packOk; rw [hg]; rfl
    have HGo := hid hg
    clear hg
    unfold packT packM
    rw [HV.out]
    have z0 : W.cell? ⟨w.heap.size, 0, none⟩ = some (.int .i64 0) := box_cell HK0.out 0
    have z1 : W.cell? ⟨w.heap.size, 1, none⟩ = some (.string ⟨#[]⟩) := box_cell HK0.out 1
    have f0 : W.frozen? ⟨w.heap.size, 0, none⟩ = false := box_free HK0.out 0
    have f1 : W.frozen? ⟨w.heap.size, 1, none⟩ = false := box_free HK0.out 1
    go_enter Try.func15, Try.ntmps15
    go_wp2_with fail
    refine HG.out.mono ?_
    rintro e w2 ⟨rfl, hw2⟩
    rw [hw2, HGo.out]
    clear hw2
    go_wp2_with fail
    refine bodyPost_ret (v := .tuple #[.agg #[.int .i64 0, .string ⟨#[]⟩], .bool false]) (by simp [results, Try.results15, go_sem, z0, z1]) rfl ⟨rfl, ?_⟩
    exact setB (setB HB0.out _ _ (Nat.le_refl _) _) _ _ (Nat.le_refl _) _
  · obtain ⟨h0, h10, hsz⟩ := goodSr_at hg
    have hpl := (pow_le l.length h10).2
    have HGo := hid hg
    have hmk := one_mask l.length m (by omega) h10
    have HGM := hid (goodMasks_any (l.length : Int) (some ⟨W.heap.size, 0, none⟩) 1 [m] _ (by simp) HIS.out)
    generalize hW2 : W.alloc (.cells #[.int .i64 m] 3) = W2 at *
    have HB2 : Hid (Below w.heap.size w W2) := HB0.out.trans (HW1.out.mono HB0.out.size)
    have HK2 := hid ((HW1.out.block _ (kbox HK0.out)).trans HK0.out)
    by_cases hin : 0 ≤ m ∧ m ≤ 2 ^ l.length - 1
    · have HV : Hid (packOk l m = true) := by show packOk l m = true; unfold packOk; rw [hg, decide_eq_true hin]; rfl
      obtain ⟨k, rfl⟩ : ∃ k : Nat, m = (k : Int) := ⟨m.toNat, by omega⟩
      have HN := hid (fun v => noughts_any l[0].size v (by have := (hsz 0 h0 h0).2; omega))
      have HS : Hid (∀ v, Below w.heap.size w v → Calls Try.prog 40 #[.string (zeroT l[0].size), .slice a l.length cap, .int .i64 k] v fun e w' => e = .returned (.string (packT l k)) ∧ Below v.heap.size v w') := fun v g => by
        have := textWith_any (zeroT l[0].size) a cap l k v (by omega) h10 (by rw [zeroT_size]; have := (hsz 0 h0 h0).2; omega) (fun j hj _ => by rw [zeroT_size]; exact (hsz j hj h0).1) (HZ.out v g)
        unfold packT
        rw [HV.out, headD_zero l h0, Int.toNat_natCast]
        exact this
      have HM : Hid (packM l k = k) := by show packM l k = k; unfold packM; rw [HV.out]; rfl
      have HGT : Hid (maskOk (l.length : Int) [(k : Int)] = true) := by show _ = _; rw [hmk]; exact decide_eq_true hin
      rw [HM.out, HV.out]
      obtain ⟨b, off, rfl, hb, hc⟩ := (HZ.out _ HB2.out).cell h0
      have x0 : W2.cell? ⟨b, off, none⟩ = some (.string l[0]) := hc 0 h0
      clear hsz hg HM hin hmk hpl hc hb
      generalize packT l k = T at *
      generalize l[0] = y0 at *
      go_enter Try.func15, Try.ntmps15
      go_wp2_with fail
      refine HG.out.mono ?_
      rintro e w2 ⟨rfl, hw2⟩
      rw [hw2, HGo.out]
      clear hw2
      go_wp2_with fail
      refine HGM.out.mono ?_
      rintro e w2 ⟨rfl, hw2⟩
      rw [hw2, HGT.out]
      clear hw2
      go_wp2_with fail
      refine (HN.out _).mono ?_
      rintro e w3 ⟨rfl, b3⟩
      have HB3 := hid (HB2.out.trans (b3.mono HB2.out.size))
      have HK3 := hid ((b3.block _ (kbox HK2.out)).trans HK2.out)
      clear b3
      go_wp2_with fail
      refine (HS.out _ HB3.out).mono ?_
      rintro e w4 ⟨rfl, b4⟩
      have HB4 := hid (HB3.out.trans (b4.mono HB3.out.size))
      have K4 := (b4.block _ (kbox HK3.out)).trans HK3.out
      have z0 : w4.cell? ⟨w.heap.size, 0, none⟩ = some (.int .i64 0) := box_cell K4 0
      have z1 : w4.cell? ⟨w.heap.size, 1, none⟩ = some (.string ⟨#[]⟩) := box_cell K4 1
      have f0 : w4.frozen? ⟨w.heap.size, 0, none⟩ = false := box_free K4 0
      have f1 : w4.frozen? ⟨w.heap.size, 1, none⟩ = false := box_free K4 1
      clear K4 b4
      go_wp2_with fail
      refine bodyPost_ret (v := .tuple #[.agg #[.int .i64 k, .string T], .bool true]) (by simp [results, Try.results15, go_sem, z0, z1]) rfl ⟨rfl, ?_⟩
      exact setB (setB HB4.out _ _ (Nat.le_refl _) _) _ _ (Nat.le_refl _) _
    · have HV : Hid (packOk l m = false) := by show packOk l m = false; unfold packOk; rw [hg, decide_eq_false hin]; rfl
      unfold packT packM
      rw [HV.out]
      have HGT : Hid (maskOk (l.length : Int) [m] = false) := by show _ = _; rw [hmk]; exact decide_eq_false hin
      have z0 : W2.cell? ⟨w.heap.size, 0, none⟩ = some (.int .i64 0) := box_cell HK2.out 0
      have z1 : W2.cell? ⟨w.heap.size, 1, none⟩ = some (.string ⟨#[]⟩) := box_cell HK2.out 1
      have f0 : W2.frozen? ⟨w.heap.size, 0, none⟩ = false := box_free HK2.out 0
      have f1 : W2.frozen? ⟨w.heap.size, 1, none⟩ = false := box_free HK2.out 1
      clear hg hin hsz hpl hmk
      go_enter Try.func15, Try.ntmps15
      go_wp2_with fail
      refine HG.out.mono ?_
      rintro e w2 ⟨rfl, hw2⟩
      rw [hw2, HGo.out]
      clear hw2
      go_wp2_with fail
      refine HGM.out.mono ?_
      rintro e w2 ⟨rfl, hw2⟩
      rw [hw2, HGT.out]
      clear hw2
      go_wp2_with fail
      refine bodyPost_ret (v := .tuple #[.agg #[.int .i64 0, .string ⟨#[]⟩], .bool false]) (by simp [results, Try.results15, go_sem, z0, z1]) rfl ⟨rfl, ?_⟩
      exact setB (setB HB2.out _ _ (Nat.le_refl _) _) _ _ (Nat.le_refl _) _
end Go.Proofs.Ytnjeeeccfhpolaa
