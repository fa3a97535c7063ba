/- Walks of the model's l1Rising, l7Data, GoodMarks. -/
import Derived.Test.YtmbkdollakbigaaKGoodJ
import Derived.Test.YtmbkdollakbigaaHA
import Derived.BigQuiet
import Derived.Deep.QuietTactic
namespace Go.Proofs.Ytmbkdollakbigaa
set_option maxRecDepth 100000
open Go Go.ChangeShapes Go.WideShapes Go.ChangeAt Go.RowKit
theorem l7Data_any (D : ByteArray) (w : World) : Calls Try.prog 44 #[.string D] w fun e w' => e = .returned (.bool (decide (D.size = 2))) ∧ w' = w := by
  by_cases h : D.size = 2
  · have d1 : ((D.size : Int) == 2) = true := beq_iff_eq.2 (by omega)
    have d2 : decide ((D.size : Int) = 2) = true := decide_eq_true (by omega)
    rw [decide_eq_true h]
    clear h
    go_enter Try.func44, Try.ntmps44
    go_wp2_with fail
    go_ret
    exact ⟨rfl, rfl⟩
  · have d1 : ((D.size : Int) == 2) = false := beq_eq_false_iff_ne.2 (by omega)
    have d2 : decide ((D.size : Int) = 2) = false := decide_eq_false (by omega)
    rw [decide_eq_false h]
    clear h
    go_enter Try.func44, Try.ntmps44
    go_wp2_with fail
    go_ret
    exact ⟨rfl, rfl⟩
theorem rs_no {l : List Int} (h : ¬ RiseOk l) : Ending.returned (.bool false) = .returned (.bool (decide (RiseOk l))) := by rw [decide_eq_false h]
theorem rs_yes {l : List Int} (h : RiseOk l) : Ending.returned (.bool true) = .returned (.bool (decide (RiseOk l))) := by rw [decide_eq_true h]
theorem pred_wrap (k : Nat) (h : k ≤ 1048576) : IntKind.i64.wrap (((k + 1 : Nat) : Int) - 1) = (k : Int) := by rw [IntKind.wrap_i64]; omega
set_option maxHeartbeats 2000000 in
theorem l1Rising_any (a : Option Addr) (cap : Nat) (l : List Int) (w : World) (hn : l.length ≤ 1048576) (hI : Is w.heap.size a l w) :
    Calls Try.prog 43 #[.slice a l.length cap, .int .i64 0, .int .i64 15] w fun e w' => e = .returned (.bool (decide (RiseOk l))) ∧ w' = w := by
  have HI := hid hI
  clear hI
  go_enter Try.func43, Try.ntmps43
  go_wp2_with fail
  go_loopw [11] (fun i wr => ∃ k : Nat, k ≤ l.length ∧ i = .int .i64 k ∧ (∀ j (h : j < l.length), j < k → blOk l j l[j]) ∧ wr = w) (fun i _ => l.length - (intOf i).toNat)
  case atStart => exact ⟨0, Nat.zero_le _, rfl, (fun _ _ h => absurd h (Nat.not_lt_zero _)), rfl⟩
  case round =>
    obtain ⟨k, hk, rfl, hall, hwr⟩ := hrel
    subst hwr
    have HALL := hid hall
    clear hall
    by_cases hlt : k < l.length
    · obtain ⟨b, off, rfl, hb, hc⟩ := HI.out.cell (by omega)
      have c0 := hc k hlt
      have HN : Hid (¬ blOk l k l[k] → ¬ RiseOk l) := fun g h => g (h k hlt)
      have HY : Hid (blOk l k l[k] → ∀ j (h : j < l.length), j < k + 1 → blOk l j l[j]) := fun g j hj hjk => by
        by_cases e : j = k
        · subst e; exact g
        · exact HALL.out j hj (by omega)
      unfold blOk at HN HY
      by_cases hx : 0 ≤ l[k] ∧ l[k] ≤ 15
      case neg =>
        have HNO := hid (HN.out (fun g => hx g.2))
        have HC := hid (fun u => l1In_no l[k] 0 15 u (by omega))
        clear HN HY hx hc HALL
        generalize l[k] = x at *
        go_wp2_with fail
        refine (HC.out _).mono ?_
        rintro e w2 ⟨rfl, hw2⟩
        rw [hw2]
        clear hw2
        go_wp2_with fail
        go_ret
        exact ⟨rs_no HNO.out, rfl⟩
      have HC := hid (fun u => l1In_yes l[k] 0 15 u hx.1 hx.2)
      rcases Nat.eq_zero_or_pos k with hk0 | h0
      · have HYE := hid (HY.out ⟨by have hz : aheadI l k = -1 := (by rw [hk0]; rfl); rw [hz]; omega, hx.1, hx.2⟩)
        have dk : decide ((0 : Int) < (k : Int)) = false := decide_eq_false (by omega)
        have dk2 : decide (0 < k) = false := decide_eq_false (by omega)
        clear HN HY hx hc HALL hk0
        generalize l[k] = x at *
        go_wp2_with fail
        refine (HC.out _).mono ?_
        rintro e w2 ⟨rfl, hw2⟩
        rw [hw2]
        clear hw2
        go_wp2_with fail
        go_roundw
        case rel => exact ⟨k + 1, by omega, by go_num, HYE.out, by trivial⟩
        case measure => simp [intOf]; omega
      obtain ⟨i, rfl⟩ : ∃ i, k = i + 1 := ⟨k - 1, by omega⟩
      have c1 := hc i (by omega)
      have HAH := hid (aheadI_at l i (by omega))
      have dk : decide ((0 : Int) < ((i + 1 : Nat) : Int)) = true := decide_eq_true (by omega)
      have dk2 : decide (0 < i + 1) = true := decide_eq_true (by omega)
      have hpw := pred_wrap i (by omega)
      rw [HAH.out] at HN HY
      by_cases hr : l[i] < l[i + 1]
      case neg =>
        have dr : decide (l[i + 1] ≤ l[i]) = true := decide_eq_true (by omega)
        have HNO := hid (HN.out (fun g => hr g.1))
        clear HN HY hx hc HALL hr HAH
        generalize l[i] = y at *
        generalize l[i + 1] = x at *
        go_wp2_with fail
        refine (HC.out _).mono ?_
        rintro e w2 ⟨rfl, hw2⟩
        rw [hw2]
        clear hw2
        go_wp2_with fail
        go_ret
        exact ⟨rs_no HNO.out, rfl⟩
      have dr : decide (l[i + 1] ≤ l[i]) = false := decide_eq_false (by omega)
      have HYE := hid (HY.out ⟨hr, hx.1, hx.2⟩)
      clear HN HY hx hc HALL hr HAH
      generalize l[i] = y at *
      generalize l[i + 1] = x at *
      go_wp2_with fail
      refine (HC.out _).mono ?_
      rintro e w2 ⟨rfl, hw2⟩
      rw [hw2]
      clear hw2
      go_wp2_with fail
      go_roundw
      case rel => exact ⟨i + 1 + 1, by omega, by go_num, HYE.out, by trivial⟩
      case measure => simp [intOf]; omega
    · have HOK : Hid (RiseOk l) := fun j hj => HALL.out j hj (by omega)
      go_wp2_with fail
      go_ret
      exact ⟨rs_yes HOK.out, rfl⟩
set_option maxHeartbeats 6000000 in
theorem sgoodK_any (a : Option Addr) (cap : Nat) (S : List Ly) (w : World) (hn : S.length ≤ 1048576) (hf : ∀ k (h : k < S.length), S[k].bl.length ≤ 1048576) (hG : Ys w.heap.size a S w) :
    Calls Try.prog 18 #[.agg #[.slice a S.length cap]] w fun e w' => e = .returned (.bool (goodK S)) ∧ Below w.heap.size w w' := by
  have HB := hid (Bx.start w (.cells #[.slice a S.length cap] 31))
  have HG := hid ((hG.below HB.out.below).mono HB.out.below.size)
  have HF := hid hf
  clear hG hf
  generalize hW : w.alloc (.cells #[.slice a S.length cap] 31) = W at *
  have x0 : W.cell? ⟨w.heap.size, 0, none⟩ = some (.slice a S.length cap) := box_cell HB.out.box 0
  go_enter Try.func18, Try.ntmps18
  go_wp2_with fail
  clear hW x0
  go_loopw [10] (fun i wr => ∃ k : Nat, k ≤ S.length ∧ i = .int .i64 k ∧ (∀ j (h : j < S.length), j < k → lyAt S j S[j]) ∧ Below W.heap.size W wr) (fun i _ => S.length - (intOf i).toNat)
  case atStart => exact ⟨0, Nat.zero_le _, rfl, (fun _ _ h => absurd h (Nat.not_lt_zero _)), Below.refl _ _⟩
  case round =>
    obtain ⟨k, hk, rfl, hall, hbel⟩ := hrel
    have HALL := hid hall
    have HBEL := hid hbel
    have HBW : Hid (Below w.heap.size w wr) := HB.out.below.trans (hbel.mono HB.out.below.size)
    have hszr := hbel.size
    have x0 : wr.cell? ⟨w.heap.size, 0, none⟩ = some (.slice a S.length cap) := box_cell ((hbel.block _ HB.out.lt).trans HB.out.box) 0
    clear hall
    by_cases hlt : k < S.length
    · obtain ⟨b, off, rfl, hb, hcl⟩ := HG.out (by omega)
      obtain ⟨p, c, q, d, c0, c1, c2, hI, hS⟩ := hcl k hlt
      have kc : ∀ o, wr.cell? ⟨b, o, none⟩ = W.cell? ⟨b, o, none⟩ := fun o => hbel.cell (p := ⟨b, o, none⟩) hb
      rw [← kc] at c0 c1 c2
      have HN : Hid (¬ lyAt S k S[k] → ¬ GoodK S) := fun g h => g (h.2.2 k hlt)
      have HY : Hid (lyAt S k S[k] → ∀ j (h : j < S.length), j < k + 1 → lyAt S j S[j]) := fun g j hj hjk => by
        by_cases e : j = k
        · subst e; exact g
        · exact HALL.out j hj (by omega)
      have hm := HF.out k hlt
      have hI' := (hI.below hbel).mono hszr
      have hS' := (hS.below hbel).mono hszr
      have hPV : Hid (∀ j (h : j < S.length), ∃ m9, wr.cell? ⟨b, off + j * 3, none⟩ = some (.int .i64 m9) ∧ aheadM S (j + 1) = m9) := fun j hj => by
        obtain ⟨_, _, _, _, e0, _⟩ := hcl j hj
        exact ⟨_, (kc _).trans e0, aheadM_at S j hj⟩
      unfold lyAt at HN HY
      clear hcl kc hI hS hbel HALL
      generalize hs : S[k] = s at *
      obtain ⟨m, bl, dt⟩ := s
      simp only at c0 c1 c2 hm hI' hS' HN HY
      have hbx := boxB wr (.cells #[.int .i64 m, .slice p bl.length c, .slice q dt.length d] 64)
      have HB1 := hid (HBEL.out.trans (hbx.mono hszr))
      have HB1W := hid (HBW.out.trans (hbx.mono HBW.out.size))
      have hI1 : Is (wr.alloc (.cells #[.int .i64 m, .slice p bl.length c, .slice q dt.length d] 64)).heap.size p bl (wr.alloc (.cells #[.int .i64 m, .slice p bl.length c, .slice q dt.length d] 64)) := (hI'.below hbx).mono hbx.size
      have HS1 := hid ((hS'.below hbx).mono hbx.size)
      have HCR : Hid (∀ n, Calls Try.prog 43 #[.slice p bl.length c, .int .i64 0, .int .i64 15] ((wr.alloc (.cells #[.int .i64 m, .slice p bl.length c, .slice q dt.length d] 64)).drewN n) fun e w' => e = .returned (.bool (decide (RiseOk bl))) ∧ w' = (wr.alloc (.cells #[.int .i64 m, .slice p bl.length c, .slice q dt.length d] 64)).drewN n) := fun n => l1Rising_any p c bl _ hm ((hI1.below (belowN _ n)).mono (belowN _ n).size)
      have y0 : (wr.alloc (.cells #[.int .i64 m, .slice p bl.length c, .slice q dt.length d] 64)).cell? ⟨wr.heap.size, 0, none⟩ = some (.int .i64 m) := box_cell (heap_last _ _) 0
      have y1 : (wr.alloc (.cells #[.int .i64 m, .slice p bl.length c, .slice q dt.length d] 64)).cell? ⟨wr.heap.size, 1, none⟩ = some (.slice p bl.length c) := box_cell (heap_last _ _) 1
      have y2 : (wr.alloc (.cells #[.int .i64 m, .slice p bl.length c, .slice q dt.length d] 64)).cell? ⟨wr.heap.size, 2, none⟩ = some (.slice q dt.length d) := box_cell (heap_last _ _) 2
      have x0a : (wr.alloc (.cells #[.int .i64 m, .slice p bl.length c, .slice q dt.length d] 64)).cell? ⟨w.heap.size, 0, none⟩ = some (.slice (some ⟨b, off, none⟩) S.length cap) := (hbx.cell (p := ⟨w.heap.size, 0, none⟩) (by have := HB.out.lt; show w.heap.size < wr.heap.size; omega)).trans x0
      have hPVa : Hid (∀ j (h : j < S.length), ∃ m9, (wr.alloc (.cells #[.int .i64 m, .slice p bl.length c, .slice q dt.length d] 64)).cell? ⟨b, off + j * 3, none⟩ = some (.int .i64 m9) ∧ aheadM S (j + 1) = m9) := fun j hj => by
        obtain ⟨m9, h1, h2⟩ := hPV.out j hj
        exact ⟨m9, (hbx.cell (p := ⟨b, off + j * 3, none⟩) (by show b < wr.heap.size; omega)).trans h1, h2⟩
      clear hbx hI' hS' hs hPV hI1 x0
      by_cases hx : 0 ≤ m ∧ m ≤ 200
      case neg =>
        have HIN := hid (fun u => l1In_no m 0 200 u (by omega))
        have HNO := hid (HN.out (fun g => hx ⟨g.2.1, g.2.2.1⟩))
        clear HN HY hx hPVa
        go_wp2_with fail
        generalize wr.alloc (.cells #[.int .i64 m, .slice p bl.length c, .slice q dt.length d] 64) = W1 at *
        go_quiet (first | (go_at_call 42; exact Calls.quiet_of_same (HIN.out _)) | (go_at_call 43; exact Calls.quiet_of_same (HCR.out _)))
        go_wp2_with fail
        go_ret
        exact ⟨k_no HNO.out, HB1W.out.trans ((belowN _ _).mono HB1W.out.size)⟩
      have HIN := hid (fun u => l1In_yes m 0 200 u hx.1 hx.2)
      rcases Nat.eq_zero_or_pos k with hk0 | h0
      · have HA : Hid (aheadM S k < m) := by rw [hk0]; show (-1 : Int) < m; omega
        have dk : decide ((0 : Int) < (k : Int)) = false := decide_eq_false (by omega)
        have dk2 : decide (0 < k) = false := decide_eq_false (by omega)
        clear hPVa hk0
        by_cases h3 : RiseOk bl
        case neg =>
          rw [decide_eq_false h3] at HCR
          have HNO := hid (HN.out (fun g => h3 g.2.2.2.1))
          clear HN HY h3 hx
          go_wp2_with fail
          generalize wr.alloc (.cells #[.int .i64 m, .slice p bl.length c, .slice q dt.length d] 64) = W1 at *
          go_quiet (first | (go_at_call 42; exact Calls.quiet_of_same (HIN.out _)) | (go_at_call 43; exact Calls.quiet_of_same (HCR.out _)))
          go_wp2_with fail
          go_ret
          exact ⟨k_no HNO.out, HB1W.out.trans ((belowN _ _).mono HB1W.out.size)⟩
        rw [decide_eq_true h3] at HCR
        by_cases h4 : dt.length = bl.length
        case neg =>
          have d1 : ((dt.length : Int) == (bl.length : Int)) = false := beq_eq_false_iff_ne.2 (by omega)
          have d2 : ((dt.length : Int) != (bl.length : Int)) = true := bne_iff_ne.2 (by omega)
          have d3 : decide ((dt.length : Int) = (bl.length : Int)) = false := decide_eq_false (by omega)
          have HNO := hid (HN.out (fun g => h4 g.2.2.2.2.1))
          clear HN HY h3 h4 hx
          go_wp2_with fail
          generalize wr.alloc (.cells #[.int .i64 m, .slice p bl.length c, .slice q dt.length d] 64) = W1 at *
          go_quiet (first | (go_at_call 42; exact Calls.quiet_of_same (HIN.out _)) | (go_at_call 43; exact Calls.quiet_of_same (HCR.out _)))
          go_wp2_with fail
          go_ret
          exact ⟨k_no HNO.out, HB1W.out.trans ((belowN _ _).mono HB1W.out.size)⟩
        have d1 : ((dt.length : Int) == (bl.length : Int)) = true := beq_iff_eq.2 (by omega)
        have d2 : ((dt.length : Int) != (bl.length : Int)) = false := by rw [bne, d1]; rfl
        have d3 : decide ((dt.length : Int) = (bl.length : Int)) = true := decide_eq_true (by omega)
        have HYE := hid (fun h5 => HY.out ⟨HA.out, hx.1, hx.2, h3, h4, h5⟩)
        have HNE : Hid (¬ TwoOk dt → ¬ GoodK S) := fun h5 => HN.out (fun g => h5 g.2.2.2.2.2)
        have HL1 : Hid (wr.heap.size < (wr.alloc (.cells #[.int .i64 m, .slice p bl.length c, .slice q dt.length d] 64)).heap.size) := by show wr.heap.size < (wr.alloc (.cells #[.int .i64 m, .slice p bl.length c, .slice q dt.length d] 64)).heap.size; simp
        clear HN HY h3 hx
        have HL4 := hid h4
        have hdt : dt.length ≤ 1048576 := by omega
        clear h4
        go_wp2_with fail
        generalize wr.alloc (.cells #[.int .i64 m, .slice p bl.length c, .slice q dt.length d] 64) = W1 at *
        go_quiet (first | (go_at_call 42; exact Calls.quiet_of_same (HIN.out _)) | (go_at_call 43; exact Calls.quiet_of_same (HCR.out _)))
        have HB2 := hid (HB1.out.trans ((belowN W1 nq).mono HB1.out.size))
        have HB2W := hid (HB1W.out.trans ((belowN W1 nq).mono HB1W.out.size))
        have HS2 := hid ((HS1.out.below (belowN W1 nq)).mono (belowN W1 nq).size)
        have z2 : (W1.drewN nq).cell? ⟨wr.heap.size, 2, none⟩ = some (.slice q dt.length d) := y2
        clear HB1 HB1W HS1 y0 y1 y2 HCR HIN x0a d1 d2 d3 c0 c1 c2
        generalize W1.drewN nq = W2 at *
        go_wp2_with fail
        go_loopw [53] (fun i wi => ∃ j : Nat, j ≤ dt.length ∧ i = .int .i64 j ∧ (∀ r (h : r < dt.length), r < j → dt[r].size = 2) ∧ wi = W2) (fun i _ => dt.length - (intOf i).toNat)
        case atStart => exact ⟨0, Nat.zero_le _, rfl, (fun _ _ h => absurd h (Nat.not_lt_zero _)), rfl⟩
        case round =>
          obtain ⟨j, hj, rfl, hall, hwi⟩ := hrel
          subst hwi
          have HALL := hid hall
          clear hall
          by_cases hjl : j < dt.length
          · obtain ⟨b2, off2, rfl, hb2, hc2⟩ := HS2.out.cell (by omega)
            have e0 := hc2 j hjl
            have HY2 : Hid (dt[j].size = 2 → ∀ r (h : r < dt.length), r < j + 1 → dt[r].size = 2) := fun g r hr hrj => by
              by_cases e : r = j
              · subst e; exact g
              · exact HALL.out r hr (by omega)
            have HN2 : Hid (¬ dt[j].size = 2 → ¬ GoodK S) := fun g => HNE.out (fun h => g (h j hjl))
            clear hc2 HALL
            have HC := hid (fun u => l7Data_any dt[j] u)
            generalize dt[j] = D at *
            by_cases h2 : D.size = 2
            · rw [decide_eq_true h2] at HC
              have HYZ := hid (HY2.out h2)
              clear h2 HY2 HN2
              go_wp2_with fail
              refine (HC.out _).mono ?_
              rintro e w3 ⟨rfl, hw3⟩
              rw [hw3]
              clear hw3
              go_wp2_with fail
              go_roundw
              case rel => exact ⟨j + 1, by omega, by go_num, HYZ.out, by trivial⟩
              case measure => simp [intOf]; omega
            · rw [decide_eq_false h2] at HC
              have HNZ := hid (HN2.out h2)
              clear h2 HY2 HN2
              go_wp2_with fail
              refine (HC.out _).mono ?_
              rintro e w3 ⟨rfl, hw3⟩
              rw [hw3]
              clear hw3
              go_wp2_with fail
              go_ret
              exact ⟨k_no HNZ.out, HB2W.out⟩
          · have HYZ := hid (HYE.out (fun r hr => HALL.out r hr (by omega)))
            go_wp2_with fail
            go_roundw
            case rel => exact ⟨k + 1, by omega, by go_num, HYZ.out, HB2.out⟩
            case measure => simp [intOf]; omega
      obtain ⟨i, rfl⟩ : ∃ i, k = i + 1 := ⟨k - 1, by omega⟩
      obtain ⟨mp, c9, hmp⟩ := hPVa.out i (by omega)
      have dk : decide ((0 : Int) < ((i + 1 : Nat) : Int)) = true := decide_eq_true (by omega)
      have dk2 : decide (0 < i + 1) = true := decide_eq_true (by omega)
      have hpw := pred_wrap i (by omega)
      have hilt : i < S.length := by omega
      clear hPVa
      have HMP := hid hmp
      clear hmp
      by_cases hr : mp < m
      case neg =>
        have dr : decide (m ≤ mp) = true := decide_eq_true (by omega)
        have HNO := hid (HN.out (fun g => hr (by rw [← HMP.out]; exact g.1)))
        clear HN HY hr hx HMP
        go_wp2_with fail
        generalize wr.alloc (.cells #[.int .i64 m, .slice p bl.length c, .slice q dt.length d] 64) = W1 at *
        go_quiet (first | (go_at_call 42; exact Calls.quiet_of_same (HIN.out _)) | (go_at_call 43; exact Calls.quiet_of_same (HCR.out _)))
        go_wp2_with fail
        go_ret
        exact ⟨k_no HNO.out, HB1W.out.trans ((belowN _ _).mono HB1W.out.size)⟩
      have dr : decide (m ≤ mp) = false := decide_eq_false (by omega)
      have HA : Hid (aheadM S (i + 1) < m) := by show aheadM S (i + 1) < m; rw [HMP.out]; exact hr
      clear hr
      by_cases h3 : RiseOk bl
      case neg =>
        rw [decide_eq_false h3] at HCR
        have HNO := hid (HN.out (fun g => h3 g.2.2.2.1))
        clear HN HY h3 hx
        go_wp2_with fail
        generalize wr.alloc (.cells #[.int .i64 m, .slice p bl.length c, .slice q dt.length d] 64) = W1 at *
        go_quiet (first | (go_at_call 42; exact Calls.quiet_of_same (HIN.out _)) | (go_at_call 43; exact Calls.quiet_of_same (HCR.out _)))
        go_wp2_with fail
        go_ret
        exact ⟨k_no HNO.out, HB1W.out.trans ((belowN _ _).mono HB1W.out.size)⟩
      rw [decide_eq_true h3] at HCR
      by_cases h4 : dt.length = bl.length
      case neg =>
        have d1 : ((dt.length : Int) == (bl.length : Int)) = false := beq_eq_false_iff_ne.2 (by omega)
        have d2 : ((dt.length : Int) != (bl.length : Int)) = true := bne_iff_ne.2 (by omega)
        have d3 : decide ((dt.length : Int) = (bl.length : Int)) = false := decide_eq_false (by omega)
        have HNO := hid (HN.out (fun g => h4 g.2.2.2.2.1))
        clear HN HY h3 h4 hx
        go_wp2_with fail
        generalize wr.alloc (.cells #[.int .i64 m, .slice p bl.length c, .slice q dt.length d] 64) = W1 at *
        go_quiet (first | (go_at_call 42; exact Calls.quiet_of_same (HIN.out _)) | (go_at_call 43; exact Calls.quiet_of_same (HCR.out _)))
        go_wp2_with fail
        go_ret
        exact ⟨k_no HNO.out, HB1W.out.trans ((belowN _ _).mono HB1W.out.size)⟩
      have d1 : ((dt.length : Int) == (bl.length : Int)) = true := beq_iff_eq.2 (by omega)
      have d2 : ((dt.length : Int) != (bl.length : Int)) = false := by rw [bne, d1]; rfl
      have d3 : decide ((dt.length : Int) = (bl.length : Int)) = true := decide_eq_true (by omega)
      have HYE := hid (fun h5 => HY.out ⟨HA.out, hx.1, hx.2, h3, h4, h5⟩)
      have HNE : Hid (¬ TwoOk dt → ¬ GoodK S) := fun h5 => HN.out (fun g => h5 g.2.2.2.2.2)
      have HL1 : Hid (wr.heap.size < (wr.alloc (.cells #[.int .i64 m, .slice p bl.length c, .slice q dt.length d] 64)).heap.size) := by show wr.heap.size < (wr.alloc (.cells #[.int .i64 m, .slice p bl.length c, .slice q dt.length d] 64)).heap.size; simp
      clear HN HY h3 hx
      have HL4 := hid h4
      have hdt : dt.length ≤ 1048576 := by omega
      clear h4
      go_wp2_with fail
      generalize wr.alloc (.cells #[.int .i64 m, .slice p bl.length c, .slice q dt.length d] 64) = W1 at *
      go_quiet (first | (go_at_call 42; exact Calls.quiet_of_same (HIN.out _)) | (go_at_call 43; exact Calls.quiet_of_same (HCR.out _)))
      have HB2 := hid (HB1.out.trans ((belowN W1 nq).mono HB1.out.size))
      have HB2W := hid (HB1W.out.trans ((belowN W1 nq).mono HB1W.out.size))
      have HS2 := hid ((HS1.out.below (belowN W1 nq)).mono (belowN W1 nq).size)
      have z2 : (W1.drewN nq).cell? ⟨wr.heap.size, 2, none⟩ = some (.slice q dt.length d) := y2
      clear HB1 HB1W HS1 y0 y1 y2 HCR HIN x0a d1 d2 d3 c0 c1 c2
      generalize W1.drewN nq = W2 at *
      go_wp2_with fail
      go_loopw [53] (fun i wi => ∃ j : Nat, j ≤ dt.length ∧ i = .int .i64 j ∧ (∀ r (h : r < dt.length), r < j → dt[r].size = 2) ∧ wi = W2) (fun i _ => dt.length - (intOf i).toNat)
      case atStart => exact ⟨0, Nat.zero_le _, rfl, (fun _ _ h => absurd h (Nat.not_lt_zero _)), rfl⟩
      case round =>
        obtain ⟨j, hj, rfl, hall, hwi⟩ := hrel
        subst hwi
        have HALL := hid hall
        clear hall
        by_cases hjl : j < dt.length
        · obtain ⟨b2, off2, rfl, hb2, hc2⟩ := HS2.out.cell (by omega)
          have e0 := hc2 j hjl
          have HY2 : Hid (dt[j].size = 2 → ∀ r (h : r < dt.length), r < j + 1 → dt[r].size = 2) := fun g r hr hrj => by
            by_cases e : r = j
            · subst e; exact g
            · exact HALL.out r hr (by omega)
          have HN2 : Hid (¬ dt[j].size = 2 → ¬ GoodK S) := fun g => HNE.out (fun h => g (h j hjl))
          clear hc2 HALL
          have HC := hid (fun u => l7Data_any dt[j] u)
          generalize dt[j] = D at *
          by_cases h2 : D.size = 2
          · rw [decide_eq_true h2] at HC
            have HYZ := hid (HY2.out h2)
            clear h2 HY2 HN2
            go_wp2_with fail
            refine (HC.out _).mono ?_
            rintro e w3 ⟨rfl, hw3⟩
            rw [hw3]
            clear hw3
            go_wp2_with fail
            go_roundw
            case rel => exact ⟨j + 1, by omega, by go_num, HYZ.out, by trivial⟩
            case measure => simp [intOf]; omega
          · rw [decide_eq_false h2] at HC
            have HNZ := hid (HN2.out h2)
            clear h2 HY2 HN2
            go_wp2_with fail
            refine (HC.out _).mono ?_
            rintro e w3 ⟨rfl, hw3⟩
            rw [hw3]
            clear hw3
            go_wp2_with fail
            go_ret
            exact ⟨k_no HNZ.out, HB2W.out⟩
        · have HYZ := hid (HYE.out (fun r hr => HALL.out r hr (by omega)))
          go_wp2_with fail
          go_roundw
          case rel => exact ⟨i + 1 + 1, by omega, by go_num, HYZ.out, HB2.out⟩
          case measure => simp [intOf]; omega
    · clear hbel
      by_cases h8 : 1 ≤ S.length ∧ S.length ≤ 8
      · have HOK : Hid (GoodK S) := ⟨h8.1, h8.2, fun j hj => HALL.out j hj (by omega)⟩
        have HC := hid (fun u => l1In_yes (S.length : Int) 1 8 u (by omega) (by omega))
        clear h8
        go_wp2_with fail
        refine (HC.out _).mono ?_
        rintro e w2 ⟨rfl, hw2⟩
        rw [hw2]
        clear hw2
        go_wp2_with fail
        go_ret
        exact ⟨k_yes HOK.out, HBW.out⟩
      · have HOK : Hid (¬ GoodK S) := fun g => h8 ⟨g.1, g.2.1⟩
        have HC := hid (fun u => l1In_no (S.length : Int) 1 8 u (by omega))
        clear h8
        go_wp2_with fail
        refine (HC.out _).mono ?_
        rintro e w2 ⟨rfl, hw2⟩
        rw [hw2]
        clear hw2
        go_wp2_with fail
        go_ret
        exact ⟨k_no HOK.out, HBW.out⟩
end Go.Proofs.Ytmbkdollakbigaa
