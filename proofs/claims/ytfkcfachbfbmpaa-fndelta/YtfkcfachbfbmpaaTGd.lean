/- Deltas that are good. -/
import Derived.Test.YtfkcfachbfbmpaaTRo
import Derived.Test.YtfkcfachbfbmpaaTPm
namespace Go.Proofs.Ytfkcfachbfbmpaa
set_option maxRecDepth 100000
open Go Go.ChangeShapes Go.WideShapes Go.ChangeAt Go.RowKit
/-- a part of an old text of n bytes that is good -/
def partOk (n : Nat) (p : Pt) : Bool := cond (decide (p.tx.size = 0)) (decide (0 ≤ p.fr ∧ 1 ≤ p.lg ∧ p.fr + p.lg ≤ n)) (decide (p.fr = 0 ∧ p.lg = 0 ∧ p.tx.size ≤ 120))
theorem ba_zero {D : ByteArray} (h : D.size = 0) : D = ByteArray.empty := by
  apply ByteArray.ext
  exact Array.eq_empty_of_size_eq_zero h
theorem ba_some {D : ByteArray} (h : D.size ≠ 0) : D.toList.isEmpty = false := by
  rw [ByteArray.toList_eq]
  cases e : D.data.toList with
  | nil => exact absurd (show D.size = 0 by rw [← bytes_size, e]; rfl) h
  | cons x l => rfl
theorem partOk_copy (n : Nat) (fr lg : Int) : partOk n ⟨fr, lg, ByteArray.empty⟩ = decide (0 ≤ fr ∧ 1 ≤ lg ∧ fr + lg ≤ n) := rfl
theorem partOk_text (n : Nat) (fr lg : Int) {D : ByteArray} (h : D.size ≠ 0) : partOk n ⟨fr, lg, D⟩ = decide (fr = 0 ∧ lg = 0 ∧ D.size ≤ 120) := by
  unfold partOk
  simp only
  rw [decide_eq_false h]
  rfl
theorem ret_bb {a b : Bool} (h : a = b) : Ending.returned (.bool a) = .returned (.bool b) := by rw [h]
set_option maxHeartbeats 1000000 in
theorem sPart_any (s : ByteArray) (p : Pt) (w : World) (hs : s.size ≤ 1048576) (h0 : fit p.fr) (h1 : fit p.lg) :
    Calls Try.prog 43 #[.string s, .agg #[.int .i64 p.fr, .int .i64 p.lg, .string p.tx]] w fun e w' => e = .returned (.bool (partOk s.size p)) ∧ Below w.heap.size w w' := by
  obtain ⟨fr, lg, D⟩ := p
  have h0' : fit fr := h0
  have h1' : fit lg := h1
  obtain ⟨f1, f2⟩ := h0'
  obtain ⟨l1, l2⟩ := h1'
  clear h0 h1
  simp only
  have HB := hid (fun cs => boxB w (.cells cs 63))
  by_cases hD : D.size = 0
  · obtain rfl := ba_zero hD
    have HV := hid (partOk_copy s.size fr lg)
    generalize partOk s.size ⟨fr, lg, ByteArray.empty⟩ = r at *
    clear hD
    by_cases g : 0 ≤ fr ∧ fr ≤ s.size
    · have q : 1 ≤ lg ∧ lg ≤ (s.size : Int) - fr ∨ ¬ (1 ≤ lg ∧ lg ≤ (s.size : Int) - fr) := Classical.em _
      have HG := hid g
      have g1 := g.1
      have g2 := g.2
      clear g
      rcases q with q | q
      · have HQ := hid q
        clear q
        go_enter Try.func43, Try.ntmps43
        go_wp2_with fail
        refine (l1In_yes _ _ _ _ g1 g2).mono ?_
        rintro e w2 ⟨rfl, hw2⟩
        rw [hw2]
        clear hw2
        go_wp2_with fail
        refine (l1In_yes _ _ _ _ HQ.out.1 HQ.out.2).mono ?_
        rintro e w2 ⟨rfl, hw2⟩
        rw [hw2]
        clear hw2
        go_wp2_with fail
        go_ret
        exact ⟨ret_bb (by rw [HV.out]; exact (decide_eq_true (by have := HQ.out; omega)).symm), HB.out _⟩
      · have HQ : Hid (lg < 1 ∨ (s.size : Int) - fr < lg) := by show _ ∨ _; omega
        clear q
        go_enter Try.func43, Try.ntmps43
        go_wp2_with fail
        refine (l1In_yes _ _ _ _ g1 g2).mono ?_
        rintro e w2 ⟨rfl, hw2⟩
        rw [hw2]
        clear hw2
        go_wp2_with fail
        refine (l1In_no _ _ _ _ HQ.out).mono ?_
        rintro e w2 ⟨rfl, hw2⟩
        rw [hw2]
        clear hw2
        go_wp2_with fail
        go_ret
        exact ⟨ret_bb (by rw [HV.out]; exact (decide_eq_false (by have := HQ.out; omega)).symm), HB.out _⟩
    · have HQ : Hid (fr < 0 ∨ (s.size : Int) < fr) := by show _ ∨ _; omega
      clear g
      go_enter Try.func43, Try.ntmps43
      go_wp2_with fail
      refine (l1In_no _ _ _ _ HQ.out).mono ?_
      rintro e w2 ⟨rfl, hw2⟩
      rw [hw2]
      clear hw2
      go_wp2_with fail
      go_ret
      exact ⟨ret_bb (by rw [HV.out]; exact (decide_eq_false (by have := HQ.out; omega)).symm), HB.out _⟩
  · have HV := hid (partOk_text s.size fr lg hD)
    have hne := ba_some hD
    generalize partOk s.size ⟨fr, lg, D⟩ = r at *
    by_cases g0 : fr = 0
    · subst g0
      by_cases g1 : lg = 0
      · subst g1
        have HL := hid (long_any D)
        go_enter Try.func43, Try.ntmps43
        go_wp2_with fail
        refine (HL.out _).mono ?_
        rintro e w2 ⟨rfl, hw2⟩
        rw [hw2]
        clear hw2
        go_wp2_with fail
        go_ret
        refine ⟨ret_bb ?_, HB.out _⟩
        rw [HV.out]
        simp
      · have HG := hid g1
        have d1 : (lg == 0) = false := beq_false_of_ne g1
        clear g1
        go_enter Try.func43, Try.ntmps43
        go_wp2_with fail
        go_ret
        exact ⟨ret_bb (by rw [HV.out]; exact (decide_eq_false (fun h => HG.out h.2.1)).symm), HB.out _⟩
    · have HG := hid g0
      have d1 : (fr == 0) = false := beq_false_of_ne g0
      clear g0
      go_enter Try.func43, Try.ntmps43
      go_wp2_with fail
      go_ret
      exact ⟨ret_bb (by rw [HV.out]; exact (decide_eq_false (fun h => HG.out h.1)).symm), HB.out _⟩
set_option maxHeartbeats 1000000 in
theorem iPart_any (s : ByteArray) (p : Pt) (w : World) (hs : s.size ≤ 1048576) (h0 : fit p.fr) (h1 : fit p.lg) :
    Calls Try.prog 39 #[.string s, .agg #[.int .i64 p.fr, .int .i64 p.lg, .string p.tx]] w fun e w' => e = .returned (.bool (partOk s.size p)) ∧ Below w.heap.size w w' := by
  obtain ⟨fr, lg, D⟩ := p
  have h0' : fit fr := h0
  have h1' : fit lg := h1
  obtain ⟨f1, f2⟩ := h0'
  obtain ⟨l1, l2⟩ := h1'
  clear h0 h1
  simp only
  have HB := hid (fun cs => boxB w (.cells cs 63))
  by_cases hD : D.size = 0
  · obtain rfl := ba_zero hD
    have HV := hid (partOk_copy s.size fr lg)
    generalize partOk s.size ⟨fr, lg, ByteArray.empty⟩ = r at *
    clear hD
    by_cases g1 : 1 ≤ lg
    · have d1 : decide (1 ≤ lg) = true := decide_eq_true g1
      by_cases g2 : 0 ≤ fr
      · have d2 : decide (0 ≤ fr) = true := decide_eq_true g2
        by_cases g3 : fr ≤ (s.size : Int) - lg
        · have d3 : decide (fr ≤ (s.size : Int) - lg) = true := decide_eq_true g3
          have HX : Hid (r = true) := by show r = true; rw [HV.out]; exact decide_eq_true (by omega)
          clear g3
          go_enter Try.func39, Try.ntmps39
          go_wp2_with fail
          go_ret
          exact ⟨ret_bb HX.out.symm, HB.out _⟩
        · have d3 : decide (fr ≤ (s.size : Int) - lg) = false := decide_eq_false g3
          have HX : Hid (r = false) := by show r = false; rw [HV.out]; exact decide_eq_false (by omega)
          clear g3
          go_enter Try.func39, Try.ntmps39
          go_wp2_with fail
          go_ret
          exact ⟨ret_bb HX.out.symm, HB.out _⟩
      · have d2 : decide (0 ≤ fr) = false := decide_eq_false g2
        have HX : Hid (r = false) := by show r = false; rw [HV.out]; exact decide_eq_false (by omega)
        clear g2
        go_enter Try.func39, Try.ntmps39
        go_wp2_with fail
        go_ret
        exact ⟨ret_bb HX.out.symm, HB.out _⟩
    · have d1 : decide (1 ≤ lg) = false := decide_eq_false g1
      have HX : Hid (r = false) := by show r = false; rw [HV.out]; exact decide_eq_false (by omega)
      clear g1
      go_enter Try.func39, Try.ntmps39
      go_wp2_with fail
      go_ret
      exact ⟨ret_bb HX.out.symm, HB.out _⟩
  · have HV := hid (partOk_text s.size fr lg hD)
    have hne := ba_some hD
    have HL := hid (isText_any D)
    generalize partOk s.size ⟨fr, lg, D⟩ = r at *
    by_cases g2 : D.size ≤ 120
    · rw [decide_eq_true g2] at HL
      by_cases g0 : fr = 0
      · subst g0
        by_cases g1 : lg = 0
        · subst g1
          have HX : Hid (r = true) := by show r = true; rw [HV.out]; exact decide_eq_true (by omega)
          go_enter Try.func39, Try.ntmps39
          go_wp2_with fail
          refine (HL.out _).mono ?_
          rintro e w2 ⟨rfl, hw2⟩
          rw [hw2]
          clear hw2
          go_wp2_with fail
          go_ret
          exact ⟨ret_bb HX.out.symm, HB.out _⟩
        · have HX : Hid (r = false) := by show r = false; rw [HV.out]; exact decide_eq_false (by omega)
          have d1 : (lg == 0) = false := beq_false_of_ne g1
          clear g1
          go_enter Try.func39, Try.ntmps39
          go_wp2_with fail
          refine (HL.out _).mono ?_
          rintro e w2 ⟨rfl, hw2⟩
          rw [hw2]
          clear hw2
          go_wp2_with fail
          go_ret
          exact ⟨ret_bb HX.out.symm, HB.out _⟩
      · have HX : Hid (r = false) := by show r = false; rw [HV.out]; exact decide_eq_false (by omega)
        have d1 : (fr == 0) = false := beq_false_of_ne g0
        clear g0
        go_enter Try.func39, Try.ntmps39
        go_wp2_with fail
        refine (HL.out _).mono ?_
        rintro e w2 ⟨rfl, hw2⟩
        rw [hw2]
        clear hw2
        go_wp2_with fail
        go_ret
        exact ⟨ret_bb HX.out.symm, HB.out _⟩
    · rw [decide_eq_false g2] at HL
      have HX : Hid (r = false) := by show r = false; rw [HV.out]; exact decide_eq_false (by omega)
      go_enter Try.func39, Try.ntmps39
      go_wp2_with fail
      refine (HL.out _).mono ?_
      rintro e w2 ⟨rfl, hw2⟩
      rw [hw2]
      clear hw2
      go_wp2_with fail
      go_ret
      exact ⟨ret_bb HX.out.symm, HB.out _⟩
end Go.Proofs.Ytfkcfachbfbmpaa
