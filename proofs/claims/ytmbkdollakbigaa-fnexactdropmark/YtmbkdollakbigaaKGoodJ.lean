/- Walk of the program's GoodMarks. -/
import Derived.Test.YtmbkdollakbigaaKGoodI
namespace Go.Proofs.Ytmbkdollakbigaa
set_option maxRecDepth 100000
open Go Go.ChangeShapes Go.WideShapes Go.ChangeAt Go.RowKit
theorem k_no {S : List Ly} (h : ¬ GoodK S) : Ending.returned (.bool false) = .returned (.bool (goodK S)) := by rw [goodK_no h]
theorem k_yes {S : List Ly} (h : GoodK S) : Ending.returned (.bool true) = .returned (.bool (goodK S)) := by rw [goodK_iff.2 h]
set_option maxHeartbeats 4000000 in
theorem igoodK_any (a : Option Addr) (cap : Nat) (S : List Ly) (w : World) (hf : ∀ k (h : k < S.length), S[k].bl.length ≤ 1048576) (hG : Ys w.heap.size a S w) :
    Calls Try.prog 22 #[.agg #[.slice a S.length cap]] w fun e w' => e = .returned (.bool (goodK S)) ∧ Below w.heap.size w w' := by
  have HB := hid (Bx.start w (.cells #[.slice a S.length cap] 31))
  have HG := hid ((hG.below HB.out.below).mono HB.out.below.size)
  have HF := hid hf
  clear hG hf
  generalize hW : w.alloc (.cells #[.slice a S.length cap] 31) = W at *
  have x0 : W.cell? ⟨w.heap.size, 0, none⟩ = some (.slice a S.length cap) := box_cell HB.out.box 0
  by_cases h1 : 1 ≤ S.length
  case neg =>
    have d1 : decide ((S.length : Int) < 1) = true := decide_eq_true (by omega)
    have HN : Hid (¬ GoodK S) := fun g => h1 g.1
    clear h1
    go_enter Try.func22, Try.ntmps22
    go_wp2_with fail
    go_ret
    exact ⟨k_no HN.out, HB.out.below⟩
  have d1 : decide ((S.length : Int) < 1) = false := decide_eq_false (by omega)
  by_cases h8 : S.length ≤ 8
  case neg =>
    have d2 : decide ((8 : Int) < (S.length : Int)) = true := decide_eq_true (by omega)
    have d3 : decide (8 < S.length) = true := decide_eq_true (by omega)
    have HN : Hid (¬ GoodK S) := fun g => h8 g.2.1
    clear h1 h8
    go_enter Try.func22, Try.ntmps22
    go_wp2_with fail
    go_ret
    exact ⟨k_no HN.out, HB.out.below⟩
  have d2 : decide ((8 : Int) < (S.length : Int)) = false := decide_eq_false (by omega)
  have d3 : decide (8 < S.length) = false := decide_eq_false (by omega)
  go_enter Try.func22, Try.ntmps22
  go_wp2_with fail
  clear hW x0
  go_loopw [3, 19] (fun u i wr => ∃ k : Nat, k ≤ S.length ∧ i = .int .i64 k ∧ u = .int .i64 (aheadM S k) ∧ -1 ≤ aheadM S k ∧ (∀ j (h : j < S.length), j < k → lyAt S j S[j]) ∧ Below W.heap.size W wr) (fun _ i _ => S.length - (intOf i).toNat)
  case atStart => exact ⟨0, Nat.zero_le _, rfl, rfl, Int.le_refl _, (fun _ _ h => absurd h (Nat.not_lt_zero _)), Below.refl _ _⟩
  case round =>
    obtain ⟨k, hk, rfl, rfl, hm1, hall, hbel⟩ := hrel
    have HALL := hid hall
    have HBEL := hid hbel
    have HBW : Hid (Below w.heap.size w wr) := HB.out.below.trans (hbel.mono HB.out.below.size)
    have hszr := hbel.size
    clear hall
    by_cases hlt : k < S.length
    · obtain ⟨b, off, rfl, hb, hcl⟩ := HG.out (by omega)
      obtain ⟨p, c, q, d, c0, c1, c2, hI, hS⟩ := hcl k hlt
      have kc : ∀ o, wr.cell? ⟨b, o, none⟩ = W.cell? ⟨b, o, none⟩ := fun o => hbel.cell (p := ⟨b, o, none⟩) hb
      rw [← kc] at c0 c1 c2
      have HAH := hid (aheadM_at S k hlt)
      have HN : Hid (¬ lyAt S k S[k] → ¬ GoodK S) := fun g h => g (h.2.2 k hlt)
      have HY : Hid (lyAt S k S[k] → ∀ j (h : j < S.length), j < k + 1 → lyAt S j S[j]) := fun g j hj hjk => by
        by_cases e : j = k
        · subst e; exact g
        · exact HALL.out j hj (by omega)
      have hm := HF.out k hlt
      have hI' := (hI.below hbel).mono hszr
      have hS' := (hS.below hbel).mono hszr
      unfold lyAt at HN HY
      clear hcl kc hI hS hbel HALL
      generalize hs : S[k] = s at *
      generalize hah : aheadM S k = ah at *
      obtain ⟨m, bl, dt⟩ := s
      simp only at c0 c1 c2 hm hI' hS' HAH HN
      have HC : Hid (∀ v, Below wr.heap.size wr v → Calls Try.prog 46 #[.agg #[.int .i64 m, .slice p bl.length c, .slice q dt.length d]] v fun e w' => e = .returned (.bool (decide (lyOk ⟨m, bl, dt⟩))) ∧ Below v.heap.size v w') := fun v g => goodLayer_any p q c d m bl dt v hm ((hI'.below g).mono g.size) ((hS'.below g).mono g.size)
      have hbx := boxB wr (.cells #[.int .i64 m, .slice p bl.length c, .slice q dt.length d] 64)
      have HB1 := hid (HBEL.out.trans (hbx.mono hszr))
      have HB1W := hid (HBW.out.trans (hbx.mono HBW.out.size))
      have HBX := hid hbx
      have y0 : (wr.alloc (.cells #[.int .i64 m, .slice p bl.length c, .slice q dt.length d] 64)).cell? ⟨wr.heap.size, 0, none⟩ = some (.int .i64 m) := box_cell (heap_last _ _) 0
      have y1 : (wr.alloc (.cells #[.int .i64 m, .slice p bl.length c, .slice q dt.length d] 64)).cell? ⟨wr.heap.size, 1, none⟩ = some (.slice p bl.length c) := box_cell (heap_last _ _) 1
      have y2 : (wr.alloc (.cells #[.int .i64 m, .slice p bl.length c, .slice q dt.length d] 64)).cell? ⟨wr.heap.size, 2, none⟩ = some (.slice q dt.length d) := box_cell (heap_last _ _) 2
      have HL1 : Hid ((wr.alloc (.cells #[.int .i64 m, .slice p bl.length c, .slice q dt.length d] 64)).heap[wr.heap.size]? = some (.cells #[.int .i64 m, .slice p bl.length c, .slice q dt.length d] 64)) := heap_last _ _
      have hlt1 : wr.heap.size < (wr.alloc (.cells #[.int .i64 m, .slice p bl.length c, .slice q dt.length d] 64)).heap.size := by simp
      clear hbx hI' hS' hm hs hah
      by_cases ha : ah < m
      case neg =>
        have da : decide (m ≤ ah) = true := decide_eq_true (by omega)
        have HNO := hid (HN.out (fun g => ha g.1))
        clear HN HY ha
        go_wp2_with fail
        go_ret
        exact ⟨k_no HNO.out, HB1W.out⟩
      have da : decide (m ≤ ah) = false := decide_eq_false (by omega)
      by_cases h2 : m ≤ 200
      case neg =>
        have db : decide (200 < m) = true := decide_eq_true (by omega)
        have HNO := hid (HN.out (fun g => h2 g.2.2.1))
        clear HN HY ha h2
        go_wp2_with fail
        go_ret
        exact ⟨k_no HNO.out, HB1W.out⟩
      have db : decide (200 < m) = false := decide_eq_false (by omega)
      have HH := hid (show ah < m ∧ m ≤ 200 from ⟨ha, h2⟩)
      clear ha h2
      go_wp2_with fail
      generalize wr.alloc (.cells #[.int .i64 m, .slice p bl.length c, .slice q dt.length d] 64) = W1 at *
      refine (HC.out _ HBX.out).mono ?_
      rintro e w2 ⟨rfl, b2⟩
      have HB2 := hid (HB1.out.trans (b2.mono HB1.out.size))
      have HB2W := hid (HB1W.out.trans (b2.mono HB1W.out.size))
      have z0 : w2.cell? ⟨wr.heap.size, 0, none⟩ = some (.int .i64 m) := box_cell ((b2.block _ hlt1).trans HL1.out) 0
      clear b2 y0 y1 y2 HC HL1
      by_cases ho : lyOk ⟨m, bl, dt⟩
      · rw [decide_eq_true ho]
        have HYE : Hid (0 ≤ m → ∀ j (h : j < S.length), j < k + 1 → lyAt S j S[j]) := fun h0 => HY.out ⟨HH.out.1, h0, HH.out.2, ho⟩
        have HNZ : Hid (0 ≤ m) := by
          show 0 ≤ m
          have h1 := HH.out.1
          omega
        clear HN HY ho
        go_wp2_with fail
        go_roundw
        case rel => exact ⟨k + 1, by omega, by go_num, by rw [HAH.out], by rw [HAH.out]; have := HNZ.out; omega, HYE.out HNZ.out, HB2.out⟩
        case measure => simp [intOf]; omega
      · rw [decide_eq_false ho]
        have HNO := hid (HN.out (fun g => ho g.2.2.2))
        clear HN HY ho
        go_wp2_with fail
        go_ret
        exact ⟨k_no HNO.out, HB2W.out⟩
    · have HOK : Hid (GoodK S) := ⟨h1, h8, fun j hj => HALL.out j hj (by omega)⟩
      clear hbel
      go_wp2_with fail
      go_ret
      exact ⟨k_yes HOK.out, HBW.out⟩
end Go.Proofs.Ytmbkdollakbigaa
