/- GoodDelta of the program. -/
import Derived.Test.YtfkcfachbfbmpaaTGg
namespace Go.Proofs.Ytfkcfachbfbmpaa
set_option maxRecDepth 100000
open Go Go.ChangeShapes Go.WideShapes Go.ChangeAt Go.RowKit
set_option maxHeartbeats 2000000 in
theorem iGood_yes (s : ByteArray) (a : Option Addr) (cap : Nat) (l : List Pt) (w : World) (h1 : s.size ≤ 120) (h2 : l.length ≤ 60) (hf : ∀ r ∈ l, fit r.fr ∧ fit r.lg) (hz : ∀ r ∈ l, r.tx.size ≤ 9223372036854775807) (hZ : Pts w.heap.size a l w) :
    Calls Try.prog 11 #[.string s, .slice a l.length cap] w fun e w' => e = .returned (.bool (goodD s l)) ∧ Below w.heap.size w w' := by
  have hs : s.size ≤ 1048576 := by omega
  have HQ := hid (isText_any s)
  rw [decide_eq_true h1] at HQ
  have d2 : decide ((60 : Int) < (l.length : Int)) = false := decide_eq_false (by omega)
  have HZ := hid hZ
  have HF := hid hf
  have HT := hid hz
  have HV : Hid (goodD s l = (decide (s.size ≤ 120) && (decide (l.length ≤ 60) && (l.all (partOk s.size) && decide (lenD l ≤ 120))))) := rfl
  have HX : Hid (l.all (partOk s.size) = false → goodD s l = false) := goodD_bad
  generalize goodD s l = g at *
  clear hZ hf hz
  go_enter Try.func11, Try.ntmps11
  go_wp2_with fail
  refine (HQ.out _).mono ?_
  rintro e w1 ⟨rfl, hw1⟩
  rw [hw1]
  clear hw1
  go_wp2_with fail
  go_loopw [5, 18] (fun t i wr => ∃ (k : Nat) (n : Int), k ≤ l.length ∧ i = .int .i64 k ∧ t = .int .i64 n ∧ n = lenD (l.take k) ∧ (∀ j (hj : j < l.length), j < k → partOk s.size l[j] = true) ∧ Below w.heap.size w wr) (fun _ i _ => l.length - (intOf i).toNat)
  case atStart => exact ⟨0, 0, Nat.zero_le _, rfl, rfl, rfl, (fun _ _ h => absurd h (Nat.not_lt_zero _)), Below.refl _ _⟩
  case round =>
    obtain ⟨k, n, hk, rfl, rfl, hnl, hall, hbel⟩ := hrel
    have HBEL := hid hbel
    have HALL := hid hall
    have HNL := hid hnl
    have hb := lenD_le s.size (l.take k) hs (all_take hall)
    rw [← hnl, List.length_take, Nat.min_eq_left hk] at hb
    have hb1 := hb.1
    have hb2 : n ≤ 1099511627776 := by have := hb.2; omega
    clear hb hall hbel hnl
    by_cases hlt : k < l.length
    · obtain ⟨b, off, rfl, hb, hcells⟩ := HZ.out.cell (by omega)
      obtain ⟨c0, c1, c2⟩ := hcells k hlt
      have hb' : ∀ o, wr.cell? ⟨b, o, none⟩ = w.cell? ⟨b, o, none⟩ := fun o => HBEL.out.cell (p := ⟨b, o, none⟩) hb
      rw [← hb'] at c0 c1 c2
      clear hcells hb'
      have HTK : Hid (lenD (l.take (k + 1)) = n + (l[k].lg + l[k].tx.size)) := by
        show _ = _
        rw [List.take_succ_eq_append_getElem hlt, lenD_snoc, ← HNL.out]
      have HP := hid (fun v => iPart_any s l[k] v hs (HF.out _ (List.getElem_mem hlt)).1 (HF.out _ (List.getElem_mem hlt)).2)
      have hzk := HT.out _ (List.getElem_mem hlt)
      have gA := boxB wr (.cells #[.int .i64 l[k].fr, .int .i64 l[k].lg, .string l[k].tx] 63)
      have kA := heap_last wr (.cells #[.int .i64 l[k].fr, .int .i64 l[k].lg, .string l[k].tx] 63)
      have HG := hid gA
      have HK := hid kA
      cases hok : partOk s.size l[k]
      · have HE := hid (HX.out (all_bad hlt hok))
        rw [hok] at HP
        clear hok gA kA
        generalize l[k].fr = fr at *
        generalize l[k].lg = lg at *
        generalize l[k].tx = D at *
        generalize hW : wr.alloc (.cells #[.int .i64 fr, .int .i64 lg, .string D] 63) = wa at *
        have z0 := box_cell HK.out 0
        have z1 := box_cell HK.out 1
        have z2 := box_cell HK.out 2
        simp only [List.getElem?_toArray, List.getElem?_cons_zero, List.getElem?_cons_succ] at z0 z1 z2
        go_wp2_with fail
        refine (HP.out _).mono ?_
        rintro e w1 ⟨rfl, b1⟩
        have HB1 : Hid (Below w.heap.size w w1) := HBEL.out.trans ((HG.out.trans (b1.mono HG.out.size)).mono HBEL.out.size)
        clear b1
        go_wp2_with fail
        go_ret
        exact ⟨ret_bb HE.out.symm, HB1.out⟩
      · have HL : Hid (∀ j (hj : j < l.length), j < k + 1 → partOk s.size l[j] = true) := fun j hj hjk => by
          by_cases e : j = k
          · subst e; exact hok
          · exact HALL.out j hj (by omega)
        have hpl := partOk_len hs hok
        rw [hok] at HP
        clear hok gA kA
        generalize l[k].fr = fr at *
        generalize l[k].lg = lg at *
        generalize l[k].tx = D at *
        have p1 := hpl.1
        have p2 := hpl.2
        clear hpl
        generalize hW : wr.alloc (.cells #[.int .i64 fr, .int .i64 lg, .string D] 63) = wa at *
        have z0 := box_cell HK.out 0
        have z1 := box_cell HK.out 1
        have z2 := box_cell HK.out 2
        simp only [List.getElem?_toArray, List.getElem?_cons_zero, List.getElem?_cons_succ] at z0 z1 z2
        go_wp2_with fail
        refine (HP.out _).mono ?_
        rintro e w1 ⟨rfl, b1⟩
        have HB1 : Hid (Below w.heap.size w w1) := HBEL.out.trans ((HG.out.trans (b1.mono HG.out.size)).mono HBEL.out.size)
        have y1 := (b1.cell (p := ⟨wr.heap.size, 1, none⟩) (kbox HK.out)).trans z1
        have y2 := (b1.cell (p := ⟨wr.heap.size, 2, none⟩) (kbox HK.out)).trans z2
        clear b1 z0 z1 z2
        go_wp2_with fail
        go_roundw
        case rel => exact ⟨k + 1, _, by omega, by go_num, rfl, HTK.out.symm, HL.out, HB1.out⟩
        case measure => simp [intOf]; omega
    · obtain rfl : k = l.length := by omega
      have HA := hid (all_good HALL.out)
      rw [List.take_length] at HNL
      rw [HA.out, ← HNL.out, decide_eq_true h1, decide_eq_true h2] at HV
      clear HX
      go_wp2_with fail
      go_ret
      exact ⟨ret_bb HV.out.symm, HBEL.out⟩
set_option maxHeartbeats 1000000 in
theorem iGood_no (s : ByteArray) (a : Option Addr) (cap : Nat) (l : List Pt) (w : World) (h : ¬ (s.size ≤ 120 ∧ l.length ≤ 60)) :
    Calls Try.prog 11 #[.string s, .slice a l.length cap] w fun e w' => e = .returned (.bool false) ∧ Below w.heap.size w w' := by
  have HQ := hid (isText_any s)
  by_cases h1 : s.size ≤ 120
  · rw [decide_eq_true h1] at HQ
    have d2 : decide ((60 : Int) < (l.length : Int)) = true := decide_eq_true (by omega)
    clear h
    go_enter Try.func11, Try.ntmps11
    go_wp2_with fail
    refine (HQ.out _).mono ?_
    rintro e w1 ⟨rfl, hw1⟩
    rw [hw1]
    clear hw1
    go_wp2_with fail
    go_ret
    exact ⟨rfl, Below.refl _ _⟩
  · rw [decide_eq_false h1] at HQ
    clear h
    go_enter Try.func11, Try.ntmps11
    go_wp2_with fail
    refine (HQ.out _).mono ?_
    rintro e w1 ⟨rfl, hw1⟩
    rw [hw1]
    clear hw1
    go_wp2_with fail
    go_ret
    exact ⟨rfl, Below.refl _ _⟩
theorem iGood_any (s : ByteArray) (a : Option Addr) (cap : Nat) (l : List Pt) (w : World) (hf : ∀ r ∈ l, fit r.fr ∧ fit r.lg) (hz : ∀ r ∈ l, r.tx.size ≤ 9223372036854775807) (hZ : Pts w.heap.size a l w) :
    Calls Try.prog 11 #[.string s, .slice a l.length cap] w fun e w' => e = .returned (.bool (goodD s l)) ∧ Below w.heap.size w w' := by
  by_cases h : s.size ≤ 120 ∧ l.length ≤ 60
  · exact iGood_yes s a cap l w h.1 h.2 hf hz hZ
  · have e : goodD s l = false := by
      unfold goodD
      by_cases h1 : s.size ≤ 120
      · rw [decide_eq_false (fun h2 => h ⟨h1, h2⟩)]
        cases decide (s.size ≤ 120) <;> rfl
      · rw [decide_eq_false h1]
        rfl
    rw [e]
    exact iGood_no s a cap l w h
end Go.Proofs.Ytfkcfachbfbmpaa
