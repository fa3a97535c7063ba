/- Sizes of marks with any number left; marks made from any number on. -/
import Derived.Test.YtmbkdollakbigaaHA
namespace Go.Proofs.Ytmbkdollakbigaa
set_option maxRecDepth 100000
open Go Go.ChangeShapes Go.WideShapes Go.ChangeAt Go.RowKit
set_option maxHeartbeats 1000000 in
theorem szLayerS_g (a : Option Addr) (cap : Nat) (S : List Ly) (left : Int) (w : World) (l0 : 0 ≤ left) (l1 : left ≤ 1048576) (hn : S.length ≤ 9223372036854775807) (hf : ∀ s ∈ S, cntY s) (hG : Ys w.heap.size a S w) :
    Calls Try.prog 17 #[.slice a S.length cap, .int .i64 left] w fun e w' => (∃ r : Int, e = .returned (.int .i64 r) ∧ r ≤ left ∧ -1 ≤ r ∧ (0 ≤ r → FitK S)) ∧ Below w.heap.size w w' := by
  have HG := hid hG
  have HF := hid hf
  clear hG hf
  by_cases g : (S.length : Int) ≤ left
  case neg =>
    have hd : decide (left - (S.length : Int) < 0) = true := decide_eq_true (by omega)
    go_enter Try.func17, Try.ntmps17
    go_wp2_with fail
    go_ret
    exact ⟨⟨-1, rfl, by omega, by omega, fun h => by omega⟩, Below.refl _ _⟩
  have hd : decide (left - (S.length : Int) < 0) = false := decide_eq_false (by omega)
  go_enter Try.func17, Try.ntmps17
  go_wp2_with fail
  go_loopw [1, 5] (fun u i wr => ∃ (k : Nat) (r : Int), k ≤ S.length ∧ i = .int .i64 k ∧ u = .int .i64 r ∧ 0 ≤ r ∧ r + S.length + wtK (S.take k) ≤ left + k ∧ Below w.heap.size w wr) (fun _ i _ => S.length - (intOf i).toNat)
  case atStart => exact ⟨0, left - S.length, Nat.zero_le _, rfl, rfl, by omega, (by show (left - S.length : Int) + S.length + ((0 : Nat) : Int) ≤ _; omega), Below.refl _ _⟩
  case round =>
    obtain ⟨k, r, hk, rfl, rfl, r0, hsum, hbel⟩ := hrel
    have HBEL := hid hbel
    by_cases hlt : k < S.length
    · obtain ⟨b, off, rfl, hb, hcl⟩ := HG.out (by omega)
      obtain ⟨p, c, q, d, k0, k1, k2, -, hQ⟩ := hcl k hlt
      rw [← hbel.cell (p := ⟨b, off + k * 3, none⟩) hb] at k0
      rw [← hbel.cell (p := ⟨b, off + k * 3 + 1, none⟩) hb] at k1
      rw [← hbel.cell (p := ⟨b, off + k * 3 + 2, none⟩) hb] at k2
      have hf := HF.out S[k] (List.getElem_mem hlt)
      have hsn := wtK_snoc S k hlt
      have hQ1 := (hQ.below hbel).mono hbel.size
      generalize hy : S[k] = y at *
      have HC : Hid (∀ v, Below wr.heap.size wr v → Calls Try.prog 41 #[.agg #[.int .i64 y.mark, .slice p y.bl.length c, .slice q y.dt.length d], .int .i64 r] v fun e w' => (∃ t : Int, e = .returned (.int .i64 t) ∧ t ≤ r ∧ -1 ≤ t ∧ (0 ≤ t → t + y.bl.length + y.dt.length ≤ r)) ∧ Below v.heap.size v w') := fun v g => szLayer_l p q c d y r v r0 (by omega) hf ((hQ1.below g).mono g.size)
      unfold wtY at hsn
      clear hcl hbel hf hQ hQ1 hy
      obtain ⟨m, bl, dt⟩ := y
      simp only at k0 k1 k2 HC hsn
      have hbr := HBEL.out.size
      go_wp2_with fail
      refine (HC.out _ (Below.refl _ _)).mono ?_
      rintro e w2 ⟨⟨t, rfl, t1, t2, t3⟩, hb2⟩
      have HB2 := hid (HBEL.out.trans (hb2.mono hbr))
      have HT := hid t3
      clear HC hb2 k0 k1 k2 t3
      by_cases g : t < 0
      · have hdq : decide (t < 0) = true := decide_eq_true g
        go_wp2_with fail
        go_ret
        exact ⟨⟨-1, rfl, by omega, by omega, fun h => by omega⟩, HB2.out⟩
      · have hdq : decide (t < 0) = false := decide_eq_false g
        have ht := HT.out (by omega)
        go_wp2_with fail
        go_roundw
        case rel => exact ⟨k + 1, t, by omega, by go_num, rfl, by omega, by omega, HB2.out⟩
        case measure => simp [intOf]; omega
    · obtain rfl : k = S.length := by omega
      rw [wtK_all] at hsum
      clear hbel
      go_wp2_with fail
      go_ret
      exact ⟨⟨r, rfl, by omega, by omega, fun _ => by unfold FitK; omega⟩, HBEL.out⟩
set_option maxHeartbeats 1000000 in
theorem szMarks_g (a : Option Addr) (cap : Nat) (S : List Ly) (left : Int) (w : World) (l0 : 0 ≤ left) (l1 : left ≤ 1048576) (hn : S.length ≤ 9223372036854775807) (hf : ∀ s ∈ S, cntY s) (hG : Ys w.heap.size a S w) :
    Calls Try.prog 5 #[.agg #[.slice a S.length cap], .int .i64 left] w fun e w' => (∃ r : Int, e = .returned (.int .i64 r) ∧ r ≤ left ∧ (0 ≤ r → FitK S)) ∧ Below w.heap.size w w' := by
  have HB := hid (Bx.start w (.cells #[.slice a S.length cap] 24))
  have y0 : (w.alloc (.cells #[.slice a S.length cap] 24)).cell? ⟨w.heap.size, 0, none⟩ = some (.slice a S.length cap) := box_cell HB.out.box 0
  have HC := hid (szLayerS_g a cap S left _ l0 l1 hn hf ((hG.below HB.out.below).mono HB.out.below.size))
  clear hG hf
  generalize hW : w.alloc (.cells #[.slice a S.length cap] 24) = W at *
  go_enter Try.func5, Try.ntmps5
  go_wp2_with fail
  refine HC.out.mono ?_
  rintro e w2 ⟨⟨r, rfl, r0, r1, r2⟩, b2⟩
  have HB2 := hid (HB.out.on b2)
  have HR := hid r2
  clear b2 r2 hW y0
  by_cases g : r < 0
  · have hdq : decide (r < 0) = true := decide_eq_true g
    go_wp2_with fail
    go_ret
    exact ⟨⟨-1, rfl, by omega, fun h => by omega⟩, HB2.out.below⟩
  · have hdq : decide (r < 0) = false := decide_eq_false g
    go_wp2_with fail
    go_ret
    exact ⟨⟨r, rfl, r0, HR.out⟩, HB2.out.below⟩
theorem markLayerS_k (lo hi : Nat) (a : Option Addr) (cap k0 : Nat) (S : List Ly) (w : World) (hf : FitK S) (k1 : 1 ≤ k0) (k2 : k0 ≤ 5000000) (h : OwnK lo hi a S w) :
    Calls Try.prog 31 #[.slice a S.length cap, .int .i64 (k0 : Nat)] w fun e w' => e = .returned (.int .i64 (k0 + wtK S : Nat)) ∧ OwnK lo hi a (kmarks S k0) w' ∧ Out lo hi w w' := by
  rcases h with rfl | ⟨R, A, rfl, h⟩
  · exact (markLayerS_none a cap k0 w).mono fun e w' ⟨he, hw⟩ => ⟨he, Or.inl rfl, by subst hw; exact Out.refl _ _ _⟩
  · exact (markLayerS_own lo hi R A cap k0 S w hf k1 k2 h).mono fun e w' ⟨he, ho, ht⟩ => ⟨he, Or.inr ⟨R, A, rfl, ho⟩, ht⟩
set_option maxHeartbeats 1000000 in
theorem markMarks_k (lo hi : Nat) (a : Option Addr) (cap k0 : Nat) (S : List Ly) (w : World) (hf : FitK S) (k1 : 1 ≤ k0) (k2 : k0 ≤ 5000000) (h : OwnK lo hi a S w) :
    Calls Try.prog 11 #[.agg #[.slice a S.length cap], .int .i64 (k0 : Nat)] w fun e w' => e = .returned (.int .i64 (k0 + wtK S : Nat)) ∧ OwnK lo hi a (kmarks S k0) w' ∧ Out lo hi w w' := by
  have hb := boxB w (.cells #[.slice a S.length cap] 31)
  have HC := hid (markLayerS_k lo hi a cap k0 S _ hf k1 k2 (h.on hb))
  have x0 : (w.alloc (.cells #[.slice a S.length cap] 31)).cell? ⟨w.heap.size, 0, none⟩ = some (.slice a S.length cap) := box_cell (heap_last _ _) 0
  have HT : Hid (Out lo hi w (w.alloc (.cells #[.slice a S.length cap] 31))) := ⟨hb.os, hb.tape, hb.output, hb.size, fun k hk _ => hb.block k hk⟩
  clear h hf hb
  generalize hW : w.alloc (.cells #[.slice a S.length cap] 31) = W at *
  generalize k0 + wtK S = n at *
  go_enter Try.func11, Try.ntmps11
  go_wp2_with fail
  refine HC.out.mono ?_
  rintro e w2 ⟨rfl, o2, t2⟩
  have HO2 := hid o2
  have HT2 := hid (HT.out.trans2 t2)
  clear o2 t2 hW x0
  go_wp2_with fail
  go_ret
  exact ⟨rfl, HO2.out, HT2.out⟩
end Go.Proofs.Ytmbkdollakbigaa
