/- Walks of the program's isBlock, goodLayer, GoodMarks. -/
import Derived.Test.YtmbkdollakbigaaHA
import Derived.BigQuiet
namespace Go.Proofs.Ytmbkdollakbigaa
set_option maxRecDepth 100000
open Go Go.ChangeShapes Go.WideShapes Go.ChangeAt Go.RowKit
theorem isBlock_any (x : Int) (w : World) : Calls Try.prog 63 #[.int .i64 x] w fun e w' => e = .returned (.bool (decide (0 ≤ x ∧ x ≤ 15))) ∧ w' = w := by
  by_cases h0 : 0 ≤ x
  · have hd : decide (0 ≤ x) = true := decide_eq_true h0
    go_enter Try.func63, Try.ntmps63
    go_wp2_with fail
    go_ret
    refine ⟨ret_bd ?_, rfl⟩
    by_cases h1 : x < 16
    · simp [h0, h1]; omega
    · simp [h0, h1]; omega
  · have hd : decide (0 ≤ x) = false := decide_eq_false h0
    go_enter Try.func63, Try.ntmps63
    go_wp2_with fail
    go_ret
    refine ⟨ret_bd ?_, rfl⟩
    rfl
theorem isBlock_yes (x : Int) (w : World) (h : 0 ≤ x ∧ x ≤ 15) : Calls Try.prog 63 #[.int .i64 x] w fun e w' => e = .returned (.bool true) ∧ w' = w := by
  have := isBlock_any x w; rw [decide_eq_true h] at this; exact this
theorem isBlock_no (x : Int) (w : World) (h : ¬ (0 ≤ x ∧ x ≤ 15)) : Calls Try.prog 63 #[.int .i64 x] w fun e w' => e = .returned (.bool false) ∧ w' = w := by
  have := isBlock_any x w; rw [decide_eq_false h] at this; exact this
theorem ly_no {y : Ly} (h : ¬ lyOk y) : Ending.returned (.bool false) = .returned (.bool (decide (lyOk y))) := by rw [decide_eq_false h]
theorem ly_yes {y : Ly} (h : lyOk y) : Ending.returned (.bool true) = .returned (.bool (decide (lyOk y))) := by rw [decide_eq_true h]
set_option maxHeartbeats 2000000 in
theorem goodLayer_any (p q : Option Addr) (c d : Nat) (m : Int) (bl : List Int) (dt : List ByteArray) (w : World) (hn : bl.length ≤ 1048576) (hI : Is w.heap.size p bl w) (hS : Ss w.heap.size q dt w) :
    Calls Try.prog 46 #[.agg #[.int .i64 m, .slice p bl.length c, .slice q dt.length d]] w fun e w' => e = .returned (.bool (decide (lyOk ⟨m, bl, dt⟩))) ∧ Below w.heap.size w w' := by
  have HB := hid (Bx.start w (.cells #[.int .i64 m, .slice p bl.length c, .slice q dt.length d] 64))
  have HI := hid ((hI.below HB.out.below).mono HB.out.below.size)
  have HS := hid ((hS.below HB.out.below).mono HB.out.below.size)
  clear hI hS
  generalize hW : w.alloc (.cells #[.int .i64 m, .slice p bl.length c, .slice q dt.length d] 64) = W at *
  have x1 : W.cell? ⟨w.heap.size, 1, none⟩ = some (.slice p bl.length c) := box_cell HB.out.box 1
  have x2 : W.cell? ⟨w.heap.size, 2, none⟩ = some (.slice q dt.length d) := box_cell HB.out.box 2
  by_cases hl : dt.length = bl.length
  case neg =>
    have d1 : ((dt.length : Int) == (bl.length : Int)) = false := beq_eq_false_iff_ne.2 (by omega)
    have d2 : ((dt.length : Int) != (bl.length : Int)) = true := bne_iff_ne.2 (by omega)
    have d3 : decide ((dt.length : Int) = (bl.length : Int)) = false := decide_eq_false (by omega)
    have HN : Hid (¬ lyOk ⟨m, bl, dt⟩) := fun g => hl g.2.1
    clear hl
    go_enter Try.func46, Try.ntmps46
    go_wp2_with fail
    go_ret
    exact ⟨ly_no HN.out, HB.out.below⟩
  have HL := hid hl
  have d1 : ((dt.length : Int) == (bl.length : Int)) = true := beq_iff_eq.2 (by omega)
  have d2 : ((dt.length : Int) != (bl.length : Int)) = false := by rw [bne, d1]; rfl
  have d3 : decide ((dt.length : Int) = (bl.length : Int)) = true := decide_eq_true (by omega)
  clear hl
  go_enter Try.func46, Try.ntmps46
  go_wp2_with fail
  clear hW
  go_loopw [3, 16] (fun u i wr => ∃ k : Nat, k ≤ bl.length ∧ i = .int .i64 k ∧ u = .int .i64 (aheadI bl k) ∧ (∀ j (h : j < bl.length), j < k → blOk bl j bl[j]) ∧ (∀ j (h : j < dt.length), j < k → dt[j].size = 2) ∧ wr = W) (fun _ i _ => bl.length - (intOf i).toNat)
  case atStart => exact ⟨0, Nat.zero_le _, rfl, rfl, (fun _ _ h => absurd h (Nat.not_lt_zero _)), (fun _ _ h => absurd h (Nat.not_lt_zero _)), rfl⟩
  case round =>
    obtain ⟨k, hk, rfl, rfl, h1, h2, hwr⟩ := hrel
    subst hwr
    have H1 := hid h1
    have H2 := hid h2
    clear h1 h2
    by_cases hlt : k < bl.length
    · have hlt2 : k < dt.length := by have := HL.out; omega
      obtain ⟨b, off, rfl, hb, hc⟩ := HI.out.cell (by omega)
      obtain ⟨b2, off2, rfl, hb2, hc2⟩ := HS.out.cell (by omega)
      have c0 := hc k hlt
      have c1 := hc2 k hlt2
      have HAH := hid (aheadI_at bl k hlt)
      have HN : Hid (¬ (blOk bl k bl[k] ∧ dt[k].size = 2) → ¬ lyOk ⟨m, bl, dt⟩) := fun g h => g ⟨h.1 k hlt, h.2.2 k hlt2⟩
      have HY : Hid (blOk bl k bl[k] ∧ dt[k].size = 2 → (∀ j (h : j < bl.length), j < k + 1 → blOk bl j bl[j]) ∧ (∀ j (h : j < dt.length), j < k + 1 → dt[j].size = 2)) := fun g => ⟨fun j hj hjk => by
        by_cases e : j = k
        · subst e; exact g.1
        · exact H1.out j hj (by omega), fun j hj hjk => by
        by_cases e : j = k
        · subst e; exact g.2
        · exact H2.out j hj (by omega)⟩
      unfold blOk at HN HY
      clear hc hc2 H1 H2
      generalize hx : bl[k] = x at *
      generalize hD : dt[k] = D at *
      generalize hah : aheadI bl k = ah at *
      clear hx hD hah
      by_cases ha : ah < x
      case neg =>
        have da : decide (x ≤ ah) = true := decide_eq_true (by omega)
        have HNO := hid (HN.out (fun g => ha g.1.1))
        clear HN HY
        go_wp2_with fail
        go_ret
        exact ⟨ly_no HNO.out, HB.out.below⟩
      have da : decide (x ≤ ah) = false := decide_eq_false (by omega)
      by_cases hx : 0 ≤ x ∧ x ≤ 15
      case neg =>
        have HC := hid (fun u => isBlock_no x u hx)
        have HNO := hid (HN.out (fun g => hx g.1.2))
        clear HN HY hx
        go_wp2_with fail
        refine (HC.out _).mono ?_
        rintro e w2 ⟨rfl, hw2⟩
        rw [hw2]
        clear hw2
        go_wp2_with fail
        go_ret
        exact ⟨ly_no HNO.out, HB.out.below⟩
      have HC := hid (fun u => isBlock_yes x u hx)
      by_cases h2 : D.size = 2
      case neg =>
        have d1 : ((D.size : Int) == 2) = false := beq_eq_false_iff_ne.2 (by omega)
        have d2 : ((D.size : Int) != 2) = true := bne_iff_ne.2 (by omega)
        have d3 : decide ((D.size : Int) = 2) = false := decide_eq_false (by omega)
        have HNO := hid (HN.out (fun g => h2 g.2))
        clear HN HY hx h2
        go_wp2_with fail
        refine (HC.out _).mono ?_
        rintro e w2 ⟨rfl, hw2⟩
        rw [hw2]
        clear hw2
        go_wp2_with fail
        go_ret
        exact ⟨ly_no HNO.out, HB.out.below⟩
      have d1 : ((D.size : Int) == 2) = true := beq_iff_eq.2 (by omega)
      have d2 : ((D.size : Int) != 2) = false := by rw [bne, d1]; rfl
      have HYE := hid (HY.out ⟨⟨ha, hx.1, hx.2⟩, h2⟩)
      have d3 : decide ((D.size : Int) = 2) = true := decide_eq_true (by omega)
      clear HN HY hx ha h2
      go_wp2_with fail
      refine (HC.out _).mono ?_
      rintro e w2 ⟨rfl, hw2⟩
      rw [hw2]
      clear hw2
      go_wp2_with fail
      go_roundw
      case rel => exact ⟨k + 1, by omega, by go_num, by rw [HAH.out], HYE.out.1, HYE.out.2, by trivial⟩
      case measure => simp [intOf]; omega
    · have HOK : Hid (lyOk ⟨m, bl, dt⟩) := ⟨fun j hj => H1.out j hj (by have h3 : j < bl.length := hj; omega), HL.out, fun j hj => H2.out j hj (by have h3 : j < dt.length := hj; have h4 := HL.out; omega)⟩
      go_wp2_with fail
      go_ret
      exact ⟨ly_yes HOK.out, HB.out.below⟩
end Go.Proofs.Ytmbkdollakbigaa
