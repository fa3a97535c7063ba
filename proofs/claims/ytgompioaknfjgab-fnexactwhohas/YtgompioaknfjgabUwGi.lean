/- The program's small functions over works; goodNote, goodCells, goodNotes, openIn. -/
import Derived.Test.YtgompioaknfjgabUwOf
import Derived.Test.YtgompioaknfjgabUwS
import Derived.Test.YtgompioaknfjgabUwG
namespace Go.Proofs.Ytgompioaknfjgab
set_option maxRecDepth 100000
open Go Go.ChangeShapes Go.WideShapes Go.ChangeAt Go.RowKit
theorem isWho_any (x : Int) (w : World) : Calls Try.prog 39 #[.int .i64 x] w fun e w' => e = .returned (.bool (inB 1 9 x)) ∧ w' = w := by
  by_cases h1 : 1 ≤ x
  case neg =>
    have d1 : decide (1 ≤ x) = false := decide_eq_false h1
    have E : Hid (inB 1 9 x = false) := inB_no (Or.inl (by omega))
    clear h1
    go_enter Try.func39, Try.ntmps39
    go_wp2_with fail
    go_ret
    exact ⟨by rw [E.out]; rfl, rfl⟩
  have d1 : decide (1 ≤ x) = true := decide_eq_true h1
  by_cases h2 : x ≤ 9
  case neg =>
    have d2 : decide (x ≤ 9) = false := decide_eq_false (by omega)
    have E : Hid (inB 1 9 x = false) := inB_no (Or.inr (by omega))
    clear h1 h2
    go_enter Try.func39, Try.ntmps39
    go_wp2_with fail
    go_ret
    exact ⟨by rw [E.out]; rfl, rfl⟩
  have d2 : decide (x ≤ 9) = true := decide_eq_true (by omega)
  have E : Hid (inB 1 9 x = true) := inB_yes h1 h2
  clear h1 h2
  go_enter Try.func39, Try.ntmps39
  go_wp2_with fail
  go_ret
  exact ⟨by rw [E.out]; rfl, rfl⟩
theorem isInCell_any (x : Int) (w : World) : Calls Try.prog 34 #[.int .i64 x] w fun e w' => e = .returned (.bool (inB 0 1000 x)) ∧ w' = w := by
  by_cases h1 : 0 ≤ x
  case neg =>
    have d1 : decide (0 ≤ x) = false := decide_eq_false h1
    have E : Hid (inB 0 1000 x = false) := inB_no (Or.inl (by omega))
    clear h1
    go_enter Try.func34, Try.ntmps34
    go_wp2_with fail
    go_ret
    exact ⟨by rw [E.out]; rfl, rfl⟩
  have d1 : decide (0 ≤ x) = true := decide_eq_true h1
  by_cases h2 : x ≤ 1000
  case neg =>
    have d2 : decide (x ≤ 1000) = false := decide_eq_false (by omega)
    have E : Hid (inB 0 1000 x = false) := inB_no (Or.inr (by omega))
    clear h1 h2
    go_enter Try.func34, Try.ntmps34
    go_wp2_with fail
    go_ret
    exact ⟨by rw [E.out]; rfl, rfl⟩
  have d2 : decide (x ≤ 1000) = true := decide_eq_true (by omega)
  have E : Hid (inB 0 1000 x = true) := inB_yes h1 h2
  clear h1 h2
  go_enter Try.func34, Try.ntmps34
  go_wp2_with fail
  go_ret
  exact ⟨by rw [E.out]; rfl, rfl⟩
theorem isCell_any (x : Int) (w : World) : Calls Try.prog 17 #[.int .i64 x] w fun e w' => e = .returned (.bool (inB 0 5 x)) ∧ w' = w := by
  by_cases h1 : 0 ≤ x
  case neg =>
    have d1 : decide (0 ≤ x) = false := decide_eq_false h1
    have E : Hid (inB 0 5 x = false) := inB_no (Or.inl (by omega))
    clear h1
    go_enter Try.func17, Try.ntmps17
    go_wp2_with fail
    go_ret
    exact ⟨by rw [E.out]; rfl, rfl⟩
  have d1 : decide (0 ≤ x) = true := decide_eq_true h1
  by_cases h2 : x ≤ 5
  case neg =>
    have d2 : decide (x < 6) = false := decide_eq_false (by omega)
    have E : Hid (inB 0 5 x = false) := inB_no (Or.inr (by omega))
    clear h1 h2
    go_enter Try.func17, Try.ntmps17
    go_wp2_with fail
    go_ret
    exact ⟨by rw [E.out]; rfl, rfl⟩
  have d2 : decide (x < 6) = true := decide_eq_true (by omega)
  have E : Hid (inB 0 5 x = true) := inB_yes h1 h2
  clear h1 h2
  go_enter Try.func17, Try.ntmps17
  go_wp2_with fail
  go_ret
  exact ⟨by rw [E.out]; rfl, rfl⟩
set_option maxHeartbeats 4000000 in
theorem goodNote_any (n : Nt) (w : World) : Calls Try.prog 35 #[.agg #[.int .i64 n.kd, .int .i64 n.wh, .int .i64 n.cl, .int .i64 n.ws, .int .i64 n.is]] w fun e w' => e = .returned (.bool (noteB n)) ∧ Below w.heap.size w w' := by
  obtain ⟨kd, wh, cl, ws, is⟩ := n
  show Calls Try.prog 35 #[.agg #[.int .i64 kd, .int .i64 wh, .int .i64 cl, .int .i64 ws, .int .i64 is]] w _
  have HB := hid (boxB w (.cells #[.int .i64 kd, .int .i64 wh, .int .i64 cl, .int .i64 ws, .int .i64 is] 47))
  have HK := hid (heap_last w (.cells #[.int .i64 kd, .int .i64 wh, .int .i64 cl, .int .i64 ws, .int .i64 is] 47))
  have E0 : Hid (noteB ⟨kd, wh, cl, ws, is⟩ = (inB 1 9 wh && (if kd = 2 then inB 0 5 cl && (inB 0 1000 ws && inB 0 1000 is) else (decide (kd = 1) || (decide (kd = 3) || decide (kd = 4))) && (decide (cl = 0) && (decide (ws = 0) && decide (is = 0)))))) := rfl
  have HW := hid (fun v => isWho_any wh v)
  have HC := hid (fun v => isCell_any cl v)
  have HS := hid (fun v => isInCell_any ws v)
  have HI := hid (fun v => isInCell_any is v)
  generalize inB 1 9 wh = bw at *
  generalize inB 0 5 cl = bc at *
  generalize inB 0 1000 ws = bs at *
  generalize inB 0 1000 is = bi at *
  go_enter Try.func35, Try.ntmps35
  go_upto_region 1 with fail
  generalize w.alloc (.cells #[.int .i64 kd, .int .i64 wh, .int .i64 cl, .int .i64 ws, .int .i64 is] 47) = W at *
  have x0 := box_cell HK.out 0
  have x1 := box_cell HK.out 1
  have x2 := box_cell HK.out 2
  have x3 := box_cell HK.out 3
  have x4 := box_cell HK.out 4
  go_wp2_with fail
  refine (HW.out W).mono ?_
  rintro e w2 ⟨rfl, hw2⟩
  rw [hw2]
  clear hw2 HW
  cases bw
  · go_wp2_with fail
    go_ret
    exact ⟨by rw [E0.out]; rfl, HB.out⟩
  by_cases k2 : kd = 2
  · have E2 : Hid (noteB ⟨kd, wh, cl, ws, is⟩ = (bc && (bs && bi))) := by show noteB _ = _; rw [E0.out, if_pos k2]; rfl
    subst k2
    clear E0
    go_wp2_with fail
    refine (HC.out W).mono ?_
    rintro e w2 ⟨rfl, hw2⟩
    rw [hw2]
    clear hw2 HC
    cases bc
    · go_wp2_with fail
      go_ret
      exact ⟨by rw [E2.out]; rfl, HB.out⟩
    go_wp2_with fail
    refine (HS.out W).mono ?_
    rintro e w2 ⟨rfl, hw2⟩
    rw [hw2]
    clear hw2 HS
    cases bs
    · go_wp2_with fail
      go_ret
      exact ⟨by rw [E2.out]; rfl, HB.out⟩
    go_wp2_with fail
    refine (HI.out W).mono ?_
    rintro e w2 ⟨rfl, hw2⟩
    rw [hw2]
    clear hw2 HI
    cases bi
    · go_wp2_with fail
      go_ret
      exact ⟨by rw [E2.out]; rfl, HB.out⟩
    go_wp2_with fail
    go_ret
    exact ⟨by rw [E2.out]; rfl, HB.out⟩
  have E2 : Hid (noteB ⟨kd, wh, cl, ws, is⟩ = ((decide (kd = 1) || (decide (kd = 3) || decide (kd = 4))) && (decide (cl = 0) && (decide (ws = 0) && decide (is = 0))))) := by show noteB _ = _; rw [E0.out, if_neg k2]; rfl
  have d1 : (kd == 2) = false := beq_eq_false_iff_ne.2 k2
  have d2 : decide (kd = 2) = false := decide_eq_false k2
  clear E0 HC HS HI
  have HT : Hid (∀ (kb : Bool), (decide (kd = 1) || (decide (kd = 3) || decide (kd = 4))) = kb → noteB ⟨kd, wh, cl, ws, is⟩ = (kb && (decide (cl = 0) && (decide (ws = 0) && decide (is = 0))))) := fun kb h => by rw [E2.out, h]
  clear E2
  by_cases q1 : kd = 1
  · have HB9 := hid (HT.out true (by rw [decide_eq_true (p := kd = 1) q1]; simp))
    have g1 : (kd == 1) = true := beq_iff_eq.2 q1
    have g2 : decide (kd = 1) = true := decide_eq_true q1
    clear q1 HT k2
    by_cases c0 : cl = 0
    case neg =>
      have e1 : (cl == 0) = false := beq_eq_false_iff_ne.2 c0
      have e2 : decide (cl = 0) = false := decide_eq_false c0
      have HE : Hid (noteB ⟨kd, wh, cl, ws, is⟩ = false) := by show noteB _ = false; rw [HB9.out, e2]; simp
      clear c0
      go_wp2_with fail
      go_ret
      exact ⟨by rw [HE.out]; rfl, HB.out⟩
    have c1 : (cl == 0) = true := beq_iff_eq.2 c0
    have c2 : decide (cl = 0) = true := decide_eq_true c0
    clear c0
    by_cases s0 : ws = 0
    case neg =>
      have e1 : (ws == 0) = false := beq_eq_false_iff_ne.2 s0
      have e2 : decide (ws = 0) = false := decide_eq_false s0
      have HE : Hid (noteB ⟨kd, wh, cl, ws, is⟩ = false) := by show noteB _ = false; rw [HB9.out, e2]; simp
      clear s0
      go_wp2_with fail
      go_ret
      exact ⟨by rw [HE.out]; rfl, HB.out⟩
    have s1 : (ws == 0) = true := beq_iff_eq.2 s0
    have s2 : decide (ws = 0) = true := decide_eq_true s0
    clear s0
    by_cases i0 : is = 0
    case neg =>
      have e1 : (is == 0) = false := beq_eq_false_iff_ne.2 i0
      have e2 : decide (is = 0) = false := decide_eq_false i0
      have HE : Hid (noteB ⟨kd, wh, cl, ws, is⟩ = false) := by show noteB _ = false; rw [HB9.out, e2]; simp
      clear i0
      go_wp2_with fail
      go_ret
      exact ⟨by rw [HE.out]; rfl, HB.out⟩
    have i1 : (is == 0) = true := beq_iff_eq.2 i0
    have i2 : decide (is = 0) = true := decide_eq_true i0
    clear i0
    have HE : Hid (noteB ⟨kd, wh, cl, ws, is⟩ = true) := by show noteB _ = true; rw [HB9.out, c2, s2, i2]; rfl
    go_wp2_with fail
    go_ret
    exact ⟨by rw [HE.out]; rfl, HB.out⟩
  have g1 : (kd == 1) = false := beq_eq_false_iff_ne.2 q1
  have h1 : decide (kd = 1) = false := decide_eq_false q1
  by_cases q3 : kd = 3
  · have HB9 := hid (HT.out true (by rw [decide_eq_true (p := kd = 3) q3]; simp))
    have g1 : (kd == 3) = true := beq_iff_eq.2 q3
    have g2 : decide (kd = 3) = true := decide_eq_true q3
    clear q3 HT k2
    by_cases c0 : cl = 0
    case neg =>
      have e1 : (cl == 0) = false := beq_eq_false_iff_ne.2 c0
      have e2 : decide (cl = 0) = false := decide_eq_false c0
      have HE : Hid (noteB ⟨kd, wh, cl, ws, is⟩ = false) := by show noteB _ = false; rw [HB9.out, e2]; simp
      clear c0
      go_wp2_with fail
      go_ret
      exact ⟨by rw [HE.out]; rfl, HB.out⟩
    have c1 : (cl == 0) = true := beq_iff_eq.2 c0
    have c2 : decide (cl = 0) = true := decide_eq_true c0
    clear c0
    by_cases s0 : ws = 0
    case neg =>
      have e1 : (ws == 0) = false := beq_eq_false_iff_ne.2 s0
      have e2 : decide (ws = 0) = false := decide_eq_false s0
      have HE : Hid (noteB ⟨kd, wh, cl, ws, is⟩ = false) := by show noteB _ = false; rw [HB9.out, e2]; simp
      clear s0
      go_wp2_with fail
      go_ret
      exact ⟨by rw [HE.out]; rfl, HB.out⟩
    have s1 : (ws == 0) = true := beq_iff_eq.2 s0
    have s2 : decide (ws = 0) = true := decide_eq_true s0
    clear s0
    by_cases i0 : is = 0
    case neg =>
      have e1 : (is == 0) = false := beq_eq_false_iff_ne.2 i0
      have e2 : decide (is = 0) = false := decide_eq_false i0
      have HE : Hid (noteB ⟨kd, wh, cl, ws, is⟩ = false) := by show noteB _ = false; rw [HB9.out, e2]; simp
      clear i0
      go_wp2_with fail
      go_ret
      exact ⟨by rw [HE.out]; rfl, HB.out⟩
    have i1 : (is == 0) = true := beq_iff_eq.2 i0
    have i2 : decide (is = 0) = true := decide_eq_true i0
    clear i0
    have HE : Hid (noteB ⟨kd, wh, cl, ws, is⟩ = true) := by show noteB _ = true; rw [HB9.out, c2, s2, i2]; rfl
    go_wp2_with fail
    go_ret
    exact ⟨by rw [HE.out]; rfl, HB.out⟩
  have g3 : (kd == 3) = false := beq_eq_false_iff_ne.2 q3
  have h3 : decide (kd = 3) = false := decide_eq_false q3
  by_cases q4 : kd = 4
  · have HB9 := hid (HT.out true (by rw [decide_eq_true (p := kd = 4) q4]; simp))
    have g1 : (kd == 4) = true := beq_iff_eq.2 q4
    have g2 : decide (kd = 4) = true := decide_eq_true q4
    clear q4 HT k2
    by_cases c0 : cl = 0
    case neg =>
      have e1 : (cl == 0) = false := beq_eq_false_iff_ne.2 c0
      have e2 : decide (cl = 0) = false := decide_eq_false c0
      have HE : Hid (noteB ⟨kd, wh, cl, ws, is⟩ = false) := by show noteB _ = false; rw [HB9.out, e2]; simp
      clear c0
      go_wp2_with fail
      go_ret
      exact ⟨by rw [HE.out]; rfl, HB.out⟩
    have c1 : (cl == 0) = true := beq_iff_eq.2 c0
    have c2 : decide (cl = 0) = true := decide_eq_true c0
    clear c0
    by_cases s0 : ws = 0
    case neg =>
      have e1 : (ws == 0) = false := beq_eq_false_iff_ne.2 s0
      have e2 : decide (ws = 0) = false := decide_eq_false s0
      have HE : Hid (noteB ⟨kd, wh, cl, ws, is⟩ = false) := by show noteB _ = false; rw [HB9.out, e2]; simp
      clear s0
      go_wp2_with fail
      go_ret
      exact ⟨by rw [HE.out]; rfl, HB.out⟩
    have s1 : (ws == 0) = true := beq_iff_eq.2 s0
    have s2 : decide (ws = 0) = true := decide_eq_true s0
    clear s0
    by_cases i0 : is = 0
    case neg =>
      have e1 : (is == 0) = false := beq_eq_false_iff_ne.2 i0
      have e2 : decide (is = 0) = false := decide_eq_false i0
      have HE : Hid (noteB ⟨kd, wh, cl, ws, is⟩ = false) := by show noteB _ = false; rw [HB9.out, e2]; simp
      clear i0
      go_wp2_with fail
      go_ret
      exact ⟨by rw [HE.out]; rfl, HB.out⟩
    have i1 : (is == 0) = true := beq_iff_eq.2 i0
    have i2 : decide (is = 0) = true := decide_eq_true i0
    clear i0
    have HE : Hid (noteB ⟨kd, wh, cl, ws, is⟩ = true) := by show noteB _ = true; rw [HB9.out, c2, s2, i2]; rfl
    go_wp2_with fail
    go_ret
    exact ⟨by rw [HE.out]; rfl, HB.out⟩
  have g4 : (kd == 4) = false := beq_eq_false_iff_ne.2 q4
  have h4 : decide (kd = 4) = false := decide_eq_false q4
  have HB9 := hid (HT.out false (by rw [h1, h3, h4]; rfl))
  have HE : Hid (noteB ⟨kd, wh, cl, ws, is⟩ = false) := by show noteB _ = false; rw [HB9.out]; rfl
  clear q1 q3 q4 k2 HT
  go_wp2_with fail
  go_ret
  exact ⟨by rw [HE.out]; rfl, HB.out⟩
set_option maxHeartbeats 1000000 in
theorem goodCells_any (a : Option Addr) (ka : Nat) (l : List Int) (w : World) (hn : l.length ≤ 1048576) (hZ : Is w.heap.size a l w) : Calls Try.prog 27 #[.slice a l.length ka] w fun e w' => e = .returned (.bool (cellsB l)) ∧ w' = w := by
  have HZ := hid hZ
  have E0 : Hid (cellsB l = (decide (l.length = 6) && allIn l 0 1000)) := rfl
  have HAL : Hid (allIn l 0 1000 = l.all (fun x => inB 0 1000 x)) := by show allIn l 0 1000 = _; unfold allIn inB; simp
  clear hZ
  by_cases h : l.length = 6
  case neg =>
    have d1 : ((l.length : Int) != 6) = true := bne_iff_ne.2 (by omega)
    have E1 : Hid (cellsB l = false) := by show cellsB l = false; rw [E0.out, decide_eq_false h]; rfl
    clear h
    go_enter Try.func27, Try.ntmps27
    go_wp2_with fail
    go_ret
    exact ⟨by rw [E1.out]; rfl, rfl⟩
  have d1 : ((l.length : Int) != 6) = false := by rw [h]; rfl
  have E1 : Hid (cellsB l = l.all (fun x => inB 0 1000 x)) := by show cellsB l = _; rw [E0.out, decide_eq_true h, HAL.out]; rfl
  clear E0 HAL h
  go_enter Try.func27, Try.ntmps27
  go_wp2_with fail
  clear d1
  go_loopw [10] (fun i wr => ∃ k : Nat, k ≤ l.length ∧ i = .int .i64 k ∧ (∀ j (h : j < l.length), j < k → inB 0 1000 l[j] = true) ∧ wr = w) (fun i _ => l.length - (intOf i).toNat)
  case atStart => exact ⟨0, Nat.zero_le _, rfl, (fun _ _ h => absurd h (Nat.not_lt_zero _)), rfl⟩
  case round =>
    obtain ⟨k, hk, rfl, hall, rfl⟩ := hrel
    have HALL := hid hall
    clear hall
    by_cases hlt : k < l.length
    · obtain ⟨b, off, rfl, hb, hc⟩ := HZ.out.cell (by omega)
      have x0 := hc k hlt
      have HN := hid (fun v => isInCell_any l[k] v)
      have HBAD : Hid (inB 0 1000 l[k] = false → l.all (fun x => inB 0 1000 x) = false) := fun h => all_bad hlt h
      have HGO : Hid (inB 0 1000 l[k] = true → ∀ j (hj : j < l.length), j < k + 1 → inB 0 1000 l[j] = true) := fun h j hj hjk => by
        by_cases e : j = k
        · subst e; exact h
        · exact HALL.out j hj (by omega)
      clear hc
      generalize l[k] = q at *
      generalize inB 0 1000 q = r at *
      go_wp2_with fail
      refine (HN.out _).mono ?_
      rintro e w2 ⟨rfl, hw2⟩
      rw [hw2]
      clear hw2 HN x0
      cases r
      · have HE := hid (HBAD.out rfl)
        clear HBAD HGO
        go_wp2_with fail
        go_ret
        exact ⟨by rw [E1.out, HE.out]; rfl, rfl⟩
      have HG := hid (HGO.out rfl)
      clear HBAD HGO
      go_wp2_with fail
      go_roundw
      case rel => exact ⟨k + 1, by omega, by go_num, HG.out, by first | trivial | rfl⟩
      case measure => simp [intOf]; omega
    obtain rfl : k = l.length := by omega
    have HA : Hid (l.all (fun x => inB 0 1000 x) = true) := all_all (fun j hj => HALL.out j hj hj)
    go_wp2_with fail
    go_ret
    exact ⟨by rw [E1.out, HA.out]; rfl, rfl⟩
set_option maxHeartbeats 4000000 in
theorem goodNotes_any (a : Option Addr) (ka : Nat) (l : List Nt) (w : World) (hn : l.length ≤ 1048576) (hZ : Nts w.heap.size a l w) : Calls Try.prog 28 #[.slice a l.length ka] w fun e w' => e = .returned (.bool (decide (l.length ≤ 60) && l.all noteB)) ∧ Below w.heap.size w w' := by
  have HZ := hid hZ
  clear hZ
  by_cases h : l.length ≤ 60
  case neg =>
    have d1 : decide (60 < (l.length : Int)) = true := decide_eq_true (by omega)
    have E1 : Hid ((decide (l.length ≤ 60) && l.all noteB) = false) := by show (decide (l.length ≤ 60) && l.all noteB) = false; rw [decide_eq_false h]; rfl
    clear h
    generalize (decide (l.length ≤ 60) && l.all noteB) = rr at *
    go_enter Try.func28, Try.ntmps28
    go_wp2_with fail
    go_ret
    exact ⟨by rw [E1.out]; rfl, Below.refl _ _⟩
  have d1 : decide (60 < (l.length : Int)) = false := decide_eq_false (by omega)
  have E1 : Hid ((decide (l.length ≤ 60) && l.all noteB) = l.all noteB) := by show (decide (l.length ≤ 60) && l.all noteB) = _; rw [decide_eq_true h]; rfl
  clear h
  generalize (decide (l.length ≤ 60) && l.all noteB) = rr at *
  go_enter Try.func28, Try.ntmps28
  go_wp2_with fail
  clear d1
  go_loopw [10] (fun i wr => ∃ k : Nat, k ≤ l.length ∧ i = .int .i64 k ∧ (∀ j (h : j < l.length), j < k → noteB l[j] = true) ∧ Below w.heap.size w wr) (fun i _ => l.length - (intOf i).toNat)
  case atStart => exact ⟨0, Nat.zero_le _, rfl, (fun _ _ h => absurd h (Nat.not_lt_zero _)), Below.refl _ _⟩
  case round =>
    obtain ⟨k, hk, rfl, hall, hbel⟩ := hrel
    have HALL := hid hall
    have HBEL := hid hbel
    clear hall
    by_cases hlt : k < l.length
    · obtain ⟨b, off, rfl, hb, hc⟩ := (HZ.out.below hbel).cell (by omega)
      obtain ⟨y0, y1, y2, y3, y4⟩ := hc k hlt
      have HN := hid (fun v => goodNote_any l[k] v)
      have HL := hid (heap_last wr (.cells #[.int .i64 l[k].kd, .int .i64 l[k].wh, .int .i64 l[k].cl, .int .i64 l[k].ws, .int .i64 l[k].is] 47))
      have HBN := hid (HBEL.out.trans ((boxB wr (.cells #[.int .i64 l[k].kd, .int .i64 l[k].wh, .int .i64 l[k].cl, .int .i64 l[k].ws, .int .i64 l[k].is] 47)).mono HBEL.out.size))
      have HBAD : Hid (noteB l[k] = false → l.all noteB = false) := fun h => all_bad hlt h
      have HGO : Hid (noteB l[k] = true → ∀ j (hj : j < l.length), j < k + 1 → noteB l[j] = true) := fun h j hj hjk => by
        by_cases e : j = k
        · subst e; exact h
        · exact HALL.out j hj (by omega)
      clear hc hbel
      generalize l[k].kd = p0 at *
      generalize l[k].wh = p1 at *
      generalize l[k].cl = p2 at *
      generalize l[k].ws = p3 at *
      generalize l[k].is = p4 at *
      generalize noteB l[k] = r at *
      go_upto_region 6 with fail
      generalize wr.alloc (.cells #[.int .i64 p0, .int .i64 p1, .int .i64 p2, .int .i64 p3, .int .i64 p4] 47) = W at *
      have z0 := box_cell HL.out 0
      have z1 := box_cell HL.out 1
      have z2 := box_cell HL.out 2
      have z3 := box_cell HL.out 3
      have z4 := box_cell HL.out 4
      clear y0 y1 y2 y3 y4
      go_wp2_with fail
      refine (HN.out _).mono ?_
      rintro e w2 ⟨rfl, b2⟩
      have HBR := hid (HBN.out.trans (b2.mono HBN.out.size))
      clear b2 HN z0 z1 z2 z3 z4
      cases r
      · have HE := hid (HBAD.out rfl)
        clear HBAD HGO
        go_wp2_with fail
        go_ret
        exact ⟨by rw [E1.out, HE.out]; rfl, HBR.out⟩
      have HG := hid (HGO.out rfl)
      clear HBAD HGO
      go_wp2_with fail
      go_roundw
      case rel => exact ⟨k + 1, by omega, by go_num, HG.out, HBR.out⟩
      case measure => simp [intOf]; omega
    obtain rfl : k = l.length := by omega
    have HA : Hid (l.all noteB = true) := all_all (fun j hj => HALL.out j hj hj)
    go_wp2_with fail
    go_ret
    exact ⟨by rw [E1.out, HA.out]; rfl, HBEL.out⟩
/-- behind the first k notes one is open just if the last of his that is no set is a beginning -/
def isOk (l : List Nt) (who : Int) (k : Nat) : Bool := match lastN l who k with
  | some i => decide ((l.getD i zeroNt).kd = 1)
  | none => false
theorem openF_snoc (who : Int) (n : Nt) : ∀ (l : List Nt) (b : Bool), openF who b (l ++ [n]) = if n.wh = who then (if n.kd = 1 then true else if n.kd = 3 ∨ n.kd = 4 then false else openF who b l) else openF who b l
  | [], b => by
    show (if n.wh = who then (if n.kd = 1 then true else if n.kd = 3 ∨ n.kd = 4 then false else b) else b) = _
    rfl
  | m :: r, b => by
    show (if m.wh = who then (if m.kd = 1 then openF who true (r ++ [n]) else if m.kd = 3 ∨ m.kd = 4 then openF who false (r ++ [n]) else openF who b (r ++ [n])) else openF who b (r ++ [n])) = if n.wh = who then (if n.kd = 1 then true else if n.kd = 3 ∨ n.kd = 4 then false else (if m.wh = who then (if m.kd = 1 then openF who true r else if m.kd = 3 ∨ m.kd = 4 then openF who false r else openF who b r) else openF who b r)) else (if m.wh = who then (if m.kd = 1 then openF who true r else if m.kd = 3 ∨ m.kd = 4 then openF who false r else openF who b r) else openF who b r)
    rw [openF_snoc who n r true, openF_snoc who n r false, openF_snoc who n r b]
    by_cases h1 : m.wh = who <;> by_cases h2 : m.kd = 1 <;> by_cases h3 : m.kd = 3 ∨ m.kd = 4 <;> simp [h1, h2, h3]
theorem noteB_kinds {n : Nt} (h : noteB n = true) : n.kd = 1 ∨ n.kd = 2 ∨ n.kd = 3 ∨ n.kd = 4 := by
  unfold noteB at h
  by_cases h2 : n.kd = 2
  · exact Or.inr (Or.inl h2)
  · rw [if_neg h2] at h
    simp at h
    omega
theorem isOk_open (l : List Nt) (who : Int) (h : l.all noteB = true) : ∀ k, k ≤ l.length → isOk l who k = openF who false (l.take k)
  | 0, _ => rfl
  | k + 1, hk => by
    have ih := isOk_open l who h k (by omega)
    have hq := noteB_kinds (all_at h k hk)
    rw [List.take_succ_eq_append_getElem hk, openF_snoc, ← ih]
    unfold isOk
    show (match (if matchN who (l.getD k zeroNt) then some k else lastN l who k) with | some i => _ | none => _) = _
    rw [getD_in l k zeroNt hk]
    unfold matchN
    by_cases h1 : l[k].wh = who
    · by_cases h2 : l[k].kd = 2
      · simp [h1, h2]
      · rw [decide_eq_true h1, decide_eq_false h2, if_pos h1]
        show decide ((l.getD k zeroNt).kd = 1) = _
        rw [getD_in l k zeroNt hk]
        by_cases h3 : l[k].kd = 1
        · rw [if_pos h3, decide_eq_true h3]
        · rw [if_neg h3, decide_eq_false h3, if_pos (by omega)]
    · rw [decide_eq_false h1, if_neg h1]; rfl
theorem isO_open {l : List Nt} (h : l.all noteB = true) (who : Int) : isO l who = openF who false l := by
  have := isOk_open l who h l.length (Nat.le_refl _)
  rw [List.take_length] at this
  exact this
set_option maxHeartbeats 8000000 in
theorem openIn_any (a : Option Addr) (ka : Nat) (l : List Nt) (w : World) (hn : l.length ≤ 1048576) (hN : l.all noteB = true) (hZ : Nts w.heap.size a l w) :
    Calls Try.prog 30 #[.slice a l.length ka] w fun e w' => ∃ v, e = .returned v ∧ AL w.heap.size v (openL l) w' ∧ Below w.heap.size w w' := by
  have HZ := hid hZ
  have HN := hid hN
  clear hZ hN
  go_enter Try.func30, Try.ntmps30
  go_wp2_with fail
  go_loopw [3, 4] (fun s i wr => ∃ (k : Nat) (v : Value), k ≤ 9 ∧ i = .int .i64 ((k : Int) + 1) ∧ s = v ∧ AL w.heap.size v (openK l k) wr ∧ Below w.heap.size w wr) (fun _ i _ => 10 - (intOf i).toNat)
  case atStart => exact ⟨0, _, Nat.zero_le _, rfl, rfl, AL.nil _ _, Below.refl _ _⟩
  case round =>
    obtain ⟨k, v, hk, rfl, rfl, hal, hbel⟩ := hrel
    have HAL := hid hal
    have HBEL := hid hbel
    by_cases h9 : k < 9
    case neg =>
      obtain rfl : k = 9 := by omega
      have d1 : decide ((((9 : Nat) : Int) + 1) ≤ 9) = false := by decide
      clear hal hbel
      go_wp2_with fail
      go_ret
      exact ⟨_, rfl, HAL.out, HBEL.out⟩
    have d1 : decide (((k : Int) + 1) ≤ 9) = true := decide_eq_true (by omega)
    have hw1 : wrap64 ((k : Int) + 1 + 1) = ((k + 1 : Nat) : Int) + 1 := by unfold wrap64; omega
    have HO := hid (openFrom_any a ka l ((k : Int) + 1) wr hn ((HZ.out.below hbel).mono hbel.size))
    rw [isO_open HN.out] at HO
    have HEQ : Hid (openK l (k + 1) = if openF ((k : Int) + 1) false l then openK l k ++ [(k : Int) + 1] else openK l k) := rfl
    generalize openF ((k : Int) + 1) false l = t at *
    generalize ((fromI l ((k : Int) + 1) : Nat) : Int) = fr at *
    clear hal hbel
    go_wp2_with fail
    refine HO.out.mono ?_
    rintro e w2 ⟨rfl, b2⟩
    have HA2 := hid (HAL.out.below b2)
    have HB2 := hid (HBEL.out.trans (b2.mono HBEL.out.size))
    clear b2 HO
    cases t
    · have HK1 : Hid (openK l (k + 1) = openK l k) := by show openK l (k + 1) = _; rw [HEQ.out]; rfl
      clear HEQ
      go_wp2_with fail
      go_roundw
      case rel => exact ⟨k + 1, _, by omega, by first | rfl | (rw [hw1]), rfl, by rw [HK1.out]; exact HA2.out, HB2.out⟩
      case measure => simp [intOf]; omega
    · have HK1 : Hid (openK l (k + 1) = openK l k ++ [(k : Int) + 1]) := by show openK l (k + 1) = _; rw [HEQ.out]; rfl
      clear HEQ
      obtain ⟨v', w', r1, o1, g1', z1, gb, -⟩ := HA2.out.push HB2.out.size ((k : Int) + 1) (by have := openK_len l k; omega)
      have HO := hid o1
      have HBY := hid (HB2.out.trans g1')
      clear o1 g1' z1 gb
      go_wp2_with (refine wpList_append_run rfl _ _ 22 rfl _ _ rfl rfl _ _ r1 ?_)
      go_roundw
      case rel => exact ⟨k + 1, v', by omega, by first | rfl | (rw [hw1]), rfl, by rw [HK1.out]; exact HO.out, HBY.out⟩
      case measure => simp [intOf]; omega
set_option maxHeartbeats 2000000 in
theorem equalI_any (a b : Option Addr) (ka kb : Nat) (l m : List Int) (w : World) (hn : l.length ≤ 1048576) (hm : m.length ≤ 1048576) (hA : Is w.heap.size a l w) (hB : Is w.heap.size b m w) :
    Calls Try.prog 29 #[.slice a l.length ka, .slice b m.length kb] w fun e w' => e = .returned (.bool (decide (l = m))) ∧ Below w.heap.size w w' := by
  have HA := hid hA
  have HB := hid hB
  clear hA hB
  by_cases h : l.length = m.length
  case neg =>
    have d1 : ((l.length : Int) != (m.length : Int)) = true := bne_iff_ne.2 (by omega)
    have E1 : Hid (decide (l = m) = false) := decide_eq_false (fun e => h (by rw [e]))
    clear h
    generalize decide (l = m) = rr at *
    go_enter Try.func29, Try.ntmps29
    go_wp2_with fail
    go_ret
    exact ⟨by rw [E1.out]; rfl, Below.refl _ _⟩
  have d1 : ((l.length : Int) != (m.length : Int)) = false := by rw [h]; simp
  have HH := hid h
  have HE : Hid (∀ e : Bool, (e = true ↔ l = m) → decide (l = m) = e) := fun e h => by cases e <;> simp_all
  clear h
  generalize decide (l = m) = rr at *
  go_enter Try.func29, Try.ntmps29
  go_wp2_with fail
  clear d1
  go_loopw [13] (fun i wr => ∃ k : Nat, k ≤ l.length ∧ i = .int .i64 k ∧ (∀ j (h : j < l.length) (g : j < m.length), j < k → l[j] = m[j]) ∧ Below w.heap.size w wr) (fun i _ => l.length - (intOf i).toNat)
  case atStart => exact ⟨0, Nat.zero_le _, rfl, (fun _ _ _ h => absurd h (Nat.not_lt_zero _)), Below.refl _ _⟩
  case round =>
    obtain ⟨k, hk, rfl, hall, hbel⟩ := hrel
    have HALL := hid hall
    have HBEL := hid hbel
    clear hall
    by_cases hlt : k < l.length
    · have hlm : k < m.length := by have := HH.out; omega
      obtain ⟨b1, off1, rfl, hb1, hc1⟩ := (HA.out.below hbel).cell (by omega)
      obtain ⟨b2, off2, rfl, hb2, hc2⟩ := (HB.out.below hbel).cell (by omega)
      have x1 := hc1 k hlt
      have x2 := hc2 k hlm
      have HBD := hid (HBEL.out.drew)
      have HNE : Hid (l[k] ≠ m[k] → rr = false) := fun h => (show ∀ e : Bool, (e = true ↔ l = m) → rr = e from HE.out) false (Iff.intro (fun e => by cases e) (fun e => absurd (by subst e; rfl) h))
      have HGO : Hid (l[k] = m[k] → ∀ j (h : j < l.length) (g : j < m.length), j < k + 1 → l[j] = m[j]) := fun h j hj hg hjk => by
        by_cases e : j = k
        · subst e; exact h
        · exact HALL.out j hj hg (by omega)
      clear hc1 hc2 hbel
      generalize l[k] = p at *
      generalize m[k] = q at *
      by_cases hpq : p = q
      case neg =>
        have e1 : (p != q) = true := bne_iff_ne.2 hpq
        have HR := hid (HNE.out hpq)
        clear hpq HNE HGO
        go_upto_region 6 with fail
        go_quiet (fail)
        go_wp2_with fail
        go_ret
        exact ⟨by rw [HR.out]; rfl, HBEL.out.trans (belowN _ _ |>.mono HBEL.out.size)⟩
      have e1 : (p != q) = false := by rw [hpq]; simp
      have HG := hid (HGO.out hpq)
      clear hpq HNE HGO
      go_upto_region 6 with fail
      go_quiet (fail)
      go_wp2_with fail
      go_roundw
      case rel => exact ⟨k + 1, by omega, by go_num, HG.out, HBEL.out.trans ((belowN _ _).mono HBEL.out.size)⟩
      case measure => simp [intOf]; omega
    obtain rfl : k = l.length := by omega
    have HR : Hid (rr = true) := (show ∀ e : Bool, (e = true ↔ l = m) → rr = e from HE.out) true (Iff.intro (fun _ => List.ext_getElem HH.out (fun j h g => HALL.out j h g h)) (fun _ => rfl))
    clear hbel
    go_wp2_with fail
    go_ret
    exact ⟨by rw [HR.out]; rfl, HBEL.out⟩
end Go.Proofs.Ytgompioaknfjgab
