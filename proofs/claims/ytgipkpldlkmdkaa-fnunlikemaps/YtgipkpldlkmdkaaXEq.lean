/- Walk of slices.Equal over stretches. -/
import Derived.Test.YtgipkpldlkmdkaaX
import Derived.Test.YtgipkpldlkmdkaaChecked
import Derived.ProofKit
import Derived.RegionTactic
namespace Go.Proofs.Ytgipkpldlkmdkaa
set_option maxRecDepth 100000
open Go.ChangeShapes Go.WideShapes Go.ChangeAt Go.RowKit G00541
theorem ret_bool' {a b : Bool} (h : a = b) : Ending.returned (.bool a) = .returned (.bool b) := by rw [h]
theorem bne_of (a b : Int) (v : Bool) (h : (a == b) = v) : (a != b) = !v := by rw [← h]; rfl
set_option maxHeartbeats 2000000 in
theorem slicesEqual_any (a1 a2 : Option Addr) (c1 c2 : Nat) (l m : List Sx) (w : World) (hl : l.length ≤ 1048576) (h1 : Xs w.heap.size a1 l w) (h2 : Xs w.heap.size a2 m w) :
    Calls Try.prog 53 #[.slice a1 l.length c1, .slice a2 m.length c2] w fun e w' => e = .returned (.bool (decide (l = m))) ∧ Below w.heap.size w w' := by
  have H1 : Hid (Xs w.heap.size a1 l w) := h1
  have H2 : Hid (Xs w.heap.size a2 m w) := h2
  clear h1 h2
  by_cases hlen : l.length = m.length
  case neg =>
    have hv : decide (l = m) = false := decide_eq_false (fun e => hlen (by rw [e]))
    have hd : ((l.length : Int) != (m.length : Int)) = true := by simp; omega
    rw [hv]
    clear hv
    go_enter Try.func53, Try.ntmps53
    go_wp2
    go_ret
    exact ⟨rfl, Below.refl _ _⟩
  have HLEN : Hid (l.length = m.length) := hlen
  rw [← hlen]
  clear hlen
  go_enter Try.func53, Try.ntmps53
  go_wp2
  go_loopw [13] (fun i wr => ∃ k : Nat, k ≤ l.length ∧ i = .int .i64 k ∧ l.take k = m.take k ∧ Below w.heap.size w wr) (fun i _ => l.length - (intOf i).toNat)
  case atStart => exact ⟨0, Nat.zero_le _, rfl, rfl, Below.refl _ _⟩
  case round =>
    obtain ⟨k, hk, rfl, htk, hbel⟩ := hrel
    have HBEL : Hid (Below w.heap.size w wr) := hbel
    have HTK : Hid (l.take k = m.take k) := htk
    clear htk
    by_cases hlt : k < l.length
    · have hlt2 : k < m.length := by rw [← HLEN.out]; exact hlt
      obtain ⟨b1, o1, rfl, hb1, hc1⟩ := H1.out.cell (by omega)
      obtain ⟨b2, o2, rfl, hb2, hc2⟩ := H2.out.cell (by omega)
      obtain ⟨x0, x1, x2⟩ := hc1 k hlt
      obtain ⟨y0, y1, y2⟩ := hc2 k hlt2
      have hb1' : ∀ o, wr.cell? ⟨b1, o, none⟩ = w.cell? ⟨b1, o, none⟩ := fun o => hbel.cell (p := ⟨b1, o, none⟩) hb1
      have hb2' : ∀ o, wr.cell? ⟨b2, o, none⟩ = w.cell? ⟨b2, o, none⟩ := fun o => hbel.cell (p := ⟨b2, o, none⟩) hb2
      rw [← hb1'] at x0 x1 x2
      rw [← hb2'] at y0 y1 y2
      have HY : Hid (l[k] = m[k] → l.take (k + 1) = m.take (k + 1)) := fun e => by rw [List.take_succ_eq_append_getElem hlt, List.take_succ_eq_append_getElem hlt2, HTK.out, e]
      have HNO : Hid (l[k] ≠ m[k] → decide (l = m) = false) := fun e => decide_eq_false (fun e2 => e (by subst e2; rfl))
      clear hc1 hc2 hb1' hb2' hbel
      generalize l[k] = x at *
      generalize m[k] = y at *
      clear hlt2
      obtain ⟨p, n, c⟩ := x
      obtain ⟨p', n', c'⟩ := y
      simp only at x0 x1 x2 y0 y1 y2
      by_cases e1 : (⟨p, n, c⟩ : Sx) = ⟨p', n', c'⟩
      · have HY' := HY.out e1
        injection e1 with e1 e2 e3
        subst e1 e2 e3
        have HY2 : Hid (l.take (k + 1) = m.take (k + 1)) := HY'
        clear HY' HY HNO
        go_wp2
        go_region
        all_goals
          go_wp2
          go_roundw
          · exact ⟨k + 1, by omega, by go_num, HY2.out, HBEL.out.drew⟩
          · simp [intOf]; omega
      · have HV : Hid (decide (l = m) = false) := HNO.out e1
        clear HY HNO
        by_cases q1 : p = p'
        · subst q1
          by_cases q2 : n = n'
          · subst q2
            have q3 : ¬ c = c' := fun h => e1 (by rw [h])
            clear e1
            go_wp2
            go_region
            all_goals
              go_wp2
              go_ret
              exact ⟨ret_bool' HV.out.symm, HBEL.out.drew⟩
          · clear e1
            go_wp2
            go_region
            all_goals
              go_wp2
              go_ret
              exact ⟨ret_bool' HV.out.symm, HBEL.out.drew⟩
        · clear e1
          go_wp2
          go_region
          all_goals
            go_wp2
            go_ret
            exact ⟨ret_bool' HV.out.symm, HBEL.out.drew⟩
    · obtain rfl : k = l.length := by omega
      have hv : decide (l = m) = true := by
        have := HTK.out
        rw [List.take_length, List.take_of_length_le (by rw [HLEN.out]; exact Nat.le_refl _)] at this
        exact decide_eq_true this
      have HV : Hid (decide (l = m) = true) := hv
      clear hv hbel
      go_wp2
      go_ret
      exact ⟨ret_bool' HV.out.symm, HBEL.out⟩
end Go.Proofs.Ytgipkpldlkmdkaa
