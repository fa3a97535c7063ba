/- Walks of the laws' helpers: maps and numbers that are the same; a number among others. -/
import Derived.Test.YtgipkpldlkmdkaaXEq
import Derived.Test.YtgipkpldlkmdkaaIntR
namespace Go.Proofs.Ytgipkpldlkmdkaa
set_option maxRecDepth 100000
open Go.ChangeShapes Go.WideShapes Go.ChangeAt Go.RowKit G00541
theorem hid2 {p : Prop} (h : p) : Hid p := h
set_option maxHeartbeats 2000000 in
theorem sameMap_any (a1 a2 : Option Addr) (c1 c2 : Nat) (l m : List Sx) (w : World) (hl : l.length ≤ 1048576) (h1 : Xs w.heap.size a1 l w) (h2 : Xs w.heap.size a2 m w) :
    Calls Try.prog 8 #[.slice a1 l.length c1, .slice a2 m.length c2] w fun e w' => e = .returned (.bool (decide (l = m))) ∧ Below w.heap.size w w' := by
  have H1 : Hid (Xs w.heap.size a1 l w) := h1
  have H2 : Hid (Xs w.heap.size a2 m w) := h2
  clear h1 h2
  by_cases hlen : l.length = m.length
  case neg =>
    have hv : decide (l = m) = false := decide_eq_false (fun e => hlen (by rw [e]))
    have hd : ((l.length : Int) != (m.length : Int)) = true := by simp; omega
    rw [hv]
    clear hv
    go_enter Try.func8, Try.ntmps8
    go_wp2
    go_ret
    exact ⟨rfl, Below.refl _ _⟩
  have HLEN : Hid (l.length = m.length) := hlen
  rw [← hlen]
  clear hlen
  go_enter Try.func8, Try.ntmps8
  go_wp2
  go_loopw [13] (fun i wr => ∃ k : Nat, k ≤ l.length ∧ i = .int .i64 k ∧ l.take k = m.take k ∧ Below w.heap.size w wr) (fun i _ => l.length - (intOf i).toNat)
  case atStart => exact ⟨0, Nat.zero_le _, rfl, rfl, Below.refl _ _⟩
  case round =>
    obtain ⟨k, hk, rfl, htk, hbel⟩ := hrel
    have HBEL : Hid (Below w.heap.size w wr) := hbel
    have HTK : Hid (l.take k = m.take k) := htk
    clear htk
    by_cases hlt : k < l.length
    · have hlt2 : k < m.length := by rw [← HLEN.out]; exact hlt
      obtain ⟨b1, o1, rfl, hb1, hc1⟩ := H1.out.cell (by omega)
      obtain ⟨b2, o2, rfl, hb2, hc2⟩ := H2.out.cell (by omega)
      obtain ⟨x0, x1, x2⟩ := hc1 k hlt
      obtain ⟨y0, y1, y2⟩ := hc2 k hlt2
      have hb1' : ∀ o, wr.cell? ⟨b1, o, none⟩ = w.cell? ⟨b1, o, none⟩ := fun o => hbel.cell (p := ⟨b1, o, none⟩) hb1
      have hb2' : ∀ o, wr.cell? ⟨b2, o, none⟩ = w.cell? ⟨b2, o, none⟩ := fun o => hbel.cell (p := ⟨b2, o, none⟩) hb2
      rw [← hb1'] at x0 x1 x2
      rw [← hb2'] at y0 y1 y2
      have HY : Hid (l[k] = m[k] → l.take (k + 1) = m.take (k + 1)) := fun e => by rw [List.take_succ_eq_append_getElem hlt, List.take_succ_eq_append_getElem hlt2, HTK.out, e]
      have HNO : Hid (l[k] ≠ m[k] → decide (l = m) = false) := fun e => decide_eq_false (fun e2 => e (by subst e2; rfl))
      clear hc1 hc2 hb1' hb2' hbel
      generalize l[k] = x at *
      generalize m[k] = y at *
      clear hlt2
      obtain ⟨p, n, c⟩ := x
      obtain ⟨p', n', c'⟩ := y
      simp only at x0 x1 x2 y0 y1 y2
      by_cases e1 : (⟨p, n, c⟩ : Sx) = ⟨p', n', c'⟩
      · have HY' := HY.out e1
        injection e1 with e1 e2 e3
        subst e1 e2 e3
        have HY2 : Hid (l.take (k + 1) = m.take (k + 1)) := HY'
        clear HY' HY HNO
        go_wp2
        go_region
        all_goals
          go_wp2
          go_roundw
          · exact ⟨k + 1, by omega, by go_num, HY2.out, HBEL.out.drew⟩
          · simp [intOf]; omega
      · have HV : Hid (decide (l = m) = false) := HNO.out e1
        clear HY HNO
        by_cases q1 : p = p'
        · subst q1
          by_cases q2 : n = n'
          · subst q2
            have q3 : ¬ c = c' := fun h => e1 (by rw [h])
            clear e1
            go_wp2
            go_region
            all_goals
              go_wp2
              go_ret
              exact ⟨ret_bool' HV.out.symm, HBEL.out.drew⟩
          · clear e1
            go_wp2
            go_region
            all_goals
              go_wp2
              go_ret
              exact ⟨ret_bool' HV.out.symm, HBEL.out.drew⟩
        · clear e1
          go_wp2
          go_region
          all_goals
            go_wp2
            go_ret
            exact ⟨ret_bool' HV.out.symm, HBEL.out.drew⟩
    · obtain rfl : k = l.length := by omega
      have hv : decide (l = m) = true := by
        have := HTK.out
        rw [List.take_length, List.take_of_length_le (by rw [HLEN.out]; exact Nat.le_refl _)] at this
        exact decide_eq_true this
      have HV : Hid (decide (l = m) = true) := hv
      clear hv hbel
      go_wp2
      go_ret
      exact ⟨ret_bool' HV.out.symm, HBEL.out⟩
set_option maxHeartbeats 1000000 in
theorem sameInts_same (a1 a2 : Option Addr) (c1 c2 : Nat) (l : List Int) (w : World) (hn : l.length ≤ 1048576) (h1 : Is w.heap.size a1 l w) (h2 : Is w.heap.size a2 l w) :
    Calls Try.prog 11 #[.slice a1 l.length c1, .slice a2 l.length c2] w fun e w' => e = .returned (.bool true) ∧ Below w.heap.size w w' := by
  have H1 : Hid (Is w.heap.size a1 l w) := h1
  have H2 : Hid (Is w.heap.size a2 l w) := h2
  clear h1 h2
  go_enter Try.func11, Try.ntmps11
  go_wp2
  go_loopw [13] (fun i wr => ∃ k : Nat, k ≤ l.length ∧ i = .int .i64 k ∧ Below w.heap.size w wr) (fun i _ => l.length - (intOf i).toNat)
  case atStart => exact ⟨0, Nat.zero_le _, rfl, Below.refl _ _⟩
  case round =>
    obtain ⟨k, hk, rfl, hbel⟩ := hrel
    have HBEL : Hid (Below w.heap.size w wr) := hbel
    by_cases hlt : k < l.length
    · obtain ⟨b1, o1, rfl, hb1, hc1⟩ := H1.out.cell (by omega)
      obtain ⟨b2, o2, rfl, hb2, hc2⟩ := H2.out.cell (by omega)
      have x0 := (hbel.cell (p := ⟨b1, o1 + k, none⟩) hb1).trans (hc1 k hlt)
      have y0 := (hbel.cell (p := ⟨b2, o2 + k, none⟩) hb2).trans (hc2 k hlt)
      clear hc1 hc2 hbel
      generalize l[k] = n at *
      go_wp2
      go_region
      all_goals
        go_wp2
        go_roundw
        · exact ⟨k + 1, by omega, by go_num, HBEL.out.drew⟩
        · simp [intOf]; omega
    · clear hbel
      go_wp2
      go_ret
      exact ⟨rfl, HBEL.out⟩
set_option maxHeartbeats 1000000 in
theorem has_any (a : Option Addr) (c : Nat) (l : List Int) (n : Int) (w : World) (hn : l.length ≤ 1048576) (h1 : Is w.heap.size a l w) :
    Calls Try.prog 24 #[.slice a l.length c, .int .i64 n] w fun e w' => e = .returned (.bool (decide (n ∈ l))) ∧ w' = w := by
  have H1 : Hid (Is w.heap.size a l w) := h1
  clear h1
  go_enter Try.func24, Try.ntmps24
  go_wp2
  go_loop [9] (fun i => ∃ k : Nat, k ≤ l.length ∧ i = .int .i64 k ∧ n ∉ l.take k) (fun i => l.length - (intOf i).toNat)
  case atStart => exact ⟨0, Nat.zero_le _, rfl, by simp⟩
  case round =>
    obtain ⟨k, hk, rfl, hno⟩ := hrel
    have HNO := hid2 hno
    clear hno
    by_cases hlt : k < l.length
    · obtain ⟨b1, o1, rfl, hb1, hc1⟩ := H1.out.cell (by omega)
      have x0 := hc1 k hlt
      clear hc1
      have hs : l.take (k + 1) = l.take k ++ [l[k]] := List.take_succ_eq_append_getElem hlt
      by_cases he : l[k] = n
      · have hd : (l[k] == n) = true := beq_iff_eq.2 he
        have HV : Hid (decide (n ∈ l) = true) := decide_eq_true (by rw [← he]; exact List.getElem_mem hlt)
        clear hs he
        generalize l[k] = y at *
        go_wp2
        go_ret
        exact ⟨ret_bool' HV.out.symm, rfl⟩
      · have hd : (l[k] == n) = false := beq_eq_false_iff_ne.2 he
        have HN : Hid (n ∉ l.take (k + 1)) := by
          show n ∉ l.take (k + 1)
          rw [hs]
          intro h
          rcases List.mem_append.1 h with h | h
          · exact HNO.out h
          · rw [List.mem_singleton] at h; exact he h.symm
        clear hs he
        generalize l[k] = y at *
        go_wp2
        go_round
        case rel => exact ⟨k + 1, by omega, by go_num, HN.out⟩
        case measure => simp [intOf]; omega
    · obtain rfl : k = l.length := by omega
      have HV : Hid (decide (n ∈ l) = false) := decide_eq_false (by have := HNO.out; rw [List.take_length] at this; exact this)
      go_wp2
      go_ret
      exact ⟨ret_bool' HV.out.symm, rfl⟩
end Go.Proofs.Ytgipkpldlkmdkaa
