/- Walks of the model's TrimMap, PlaceOf. -/
import Derived.Test.YtgipkpldlkmdkaaSMap2
import Derived.Test.YtgipkpldlkmdkaaIMap2
namespace Go.Proofs.Ytgipkpldlkmdkaa
set_option maxRecDepth 100000
open Go.ChangeShapes Go.WideShapes Go.ChangeAt Go.RowKit G00541
set_option maxHeartbeats 2000000 in
theorem strim_no (a : Option Addr) (cap : Nat) (l : List Sx) (p n : Int) (w : World) (hn : l.length ≤ 1048576) (hZ : Xs w.heap.size a l w) (hg : ¬ (goodM l = true ∧ inB p n = true)) :
    Calls Try.prog 27 #[.slice a l.length cap, .int .i64 p, .int .i64 n] w fun e w' => MapOut [] false w e w' := by
  have HP := hid (sgood_any a cap l _ hn hZ)
  cases hgm : goodM l
  · rw [hgm] at HP
    clear hZ hg hgm
    go_enter Try.func27, Try.ntmps27
    go_wp2_with fail
    refine (HP.out).mono ?_
    rintro e w1 ⟨rfl, b1⟩
    have HB1 : Hid (Below w.heap.size w w1) := b1
    clear b1 HP
    go_wp2
    go_ret2
    exact MapOut.no HB1.out
  · have hgx : ¬ (1 ≤ n ∧ 0 ≤ p ∧ p ≤ 16 - n) := fun h => hg ⟨hgm, by unfold inB; exact decide_eq_true h⟩
    rw [hgm] at HP
    by_cases h1 : 1 ≤ n ∧ n ≤ 16
    · have h2 : p < 0 ∨ 16 - n < p := by omega
      obtain ⟨h10, h11⟩ := h1
      clear hZ hg hgm hgx
      go_enter Try.func27, Try.ntmps27
      go_wp2_with fail
      refine (HP.out).mono ?_
      rintro e w1 ⟨rfl, b1⟩
      have HB1 : Hid (Below w.heap.size w w1) := b1
      clear b1 HP
      go_wp2_with fail
      refine (l1In_yes _ _ _ _ h10 h11).mono ?_
      rintro e w2 ⟨rfl, hw2⟩
      rw [hw2]
      clear hw2
      go_wp2_with fail
      refine (l1In_no _ _ _ _ h2).mono ?_
      rintro e w3 ⟨rfl, hw3⟩
      rw [hw3]
      clear hw3
      go_wp2
      go_ret2
      exact MapOut.no HB1.out
    · have h2 : n < 1 ∨ 16 < n := by omega
      clear hZ hg hgm hgx h1
      go_enter Try.func27, Try.ntmps27
      go_wp2_with fail
      refine (HP.out).mono ?_
      rintro e w1 ⟨rfl, b1⟩
      have HB1 : Hid (Below w.heap.size w w1) := b1
      clear b1 HP
      go_wp2_with fail
      refine (l1In_no _ _ _ _ h2).mono ?_
      rintro e w2 ⟨rfl, hw2⟩
      rw [hw2]
      clear hw2
      go_wp2
      go_ret2
      exact MapOut.no HB1.out
set_option maxHeartbeats 2000000 in
theorem strim_yes (a : Option Addr) (cap : Nat) (l : List Sx) (p n : Nat) (w : World) (hn : l.length ≤ 1048576) (hZ : Xs w.heap.size a l w) (hgm : goodM l = true) (hgx : inB p n = true) :
    Calls Try.prog 27 #[.slice a l.length cap, .int .i64 p, .int .i64 n] w fun e w' => MapOut (mapF (cutF (plN l) p n) 16) true w e w' := by
  have HP := hid (sgood_any a cap l _ hn hZ)
  rw [hgm] at HP
  unfold inB at hgx
  rw [decide_eq_true_iff] at hgx
  have HZ : Hid (∀ v, Below w.heap.size w v → Xs v.heap.size a l v) := fun v g => hZ.go g
  have HGA : Hid (∀ x ∈ l, goodX x = true) := chain_all none l hgm
  have HM : Hid (∀ a cap v, Is v.heap.size a (tab (cutF (plN l) p n)) v → Calls Try.prog 37 #[.slice a 16 cap] v fun e w' => ∃ u, e = .returned u ∧ w'.ownsRow v.heap.size 36 3 u (mapF (cutF (plN l) p n) 16).length (xflat (mapF (cutF (plN l) p n) 16)) ∧ Below v.heap.size v w') := fun a cap v hv => l4Map_any a cap _ (cutF_range _ _ _ (plN_range l hgm)) v hv
  obtain ⟨g0, g1, g2⟩ := hgx
  have g3 : (n : Int) ≤ 16 := by omega
  clear hZ hgm
  generalize mapF (cutF (plN l) p n) 16 = V at *
  go_enter Try.func27, Try.ntmps27
  go_wp2_with fail
  refine (HP.out).mono ?_
  rintro e w1 ⟨rfl, b1⟩
  have HB1 : Hid (Below w.heap.size w w1) := b1
  clear b1 HP
  go_wp2_with fail
  refine (l1In_yes _ _ _ _ g0 g3).mono ?_
  rintro e w2 ⟨rfl, hw2⟩
  rw [hw2]
  clear hw2
  go_wp2_with fail
  refine (l1In_yes _ _ _ _ g1 g2).mono ?_
  rintro e w3 ⟨rfl, hw3⟩
  rw [hw3]
  clear hw3
  go_wp2_with fail
  refine (l4Places_any a cap l _ hn HGA.out (HZ.out _ HB1.out)).mono ?_
  rintro e w4 ⟨R, c4, rfl, hR, hrow, b4⟩
  have HB4 : Hid (Below w.heap.size w w4) := HB1.out.trans (b4.mono HB1.out.size)
  have hs1 := HB1.out.size
  have HROW : Hid (IRow R (tab (plN l)) w4) := hrow
  clear b4 hrow HB1
  generalize plN l = F at *
  go_wp2
  go_loopw [9] (fun i wi => ∃ (j : Nat), j ≤ n ∧ i = .int .i64 j ∧ IRow R (tab (cutF F p j)) wi ∧ Below w.heap.size w wi) (fun i _ => n - (intOf i).toNat)
  case atStart => exact ⟨0, Nat.zero_le _, rfl, by rw [cutF_zero]; exact HROW.out, HB4.out⟩
  case round =>
    clear HROW HB4
    obtain ⟨j, hj, rfl, hrow, hbel⟩ := hrel
    have HROW : Hid (IRow R (tab (cutF F p j)) wr) := hrow
    have HBEL : Hid (Below w.heap.size w wr) := hbel
    by_cases hjl : j < n
    · have y0 := hrow.cell (p + j) (by rw [tab_len]; omega)
      have f0 := hrow.free (p + j) (by rw [tab_len]; omega)
      have hi1 : (0 : Int) ≤ (p : Int) + (j : Int) := by omega
      have hi2 : (p : Int) + (j : Int) < 16 := by omega
      have hi3 : ((p : Int) + (j : Int)).toNat = p + j := by omega
      clear hrow hbel
      go_wp2
      go_roundw
      case rel => exact ⟨j + 1, by omega, by go_num, by rw [← cutF_step F p j, ← tab_set]; exact HROW.out.set (p + j) (by rw [tab_len]; omega) _, HBEL.out.setCell (by show w.heap.size ≤ R; omega) _⟩
      case measure => simp [intOf]; omega
    · obtain rfl : j = n := by omega
      have hlt := hrow.lt
      clear hrow hbel
      go_wp2_with fail
      refine (HM.out _ _ _ (HROW.out.sl hlt)).mono ?_
      rintro e w5 ⟨u, rfl, hown, b5⟩
      have HB5 : Hid (Below w.heap.size w w5) := HBEL.out.trans (b5.mono HBEL.out.size)
      have HO : Hid (w5.ownsRow w.heap.size 36 3 u V.length (xflat V)) := own_le hown HBEL.out.size
      clear hown b5
      go_wp2
      go_ret2
      exact MapOut.of HO.out HB5.out
set_option maxHeartbeats 2000000 in
theorem splace_no (a : Option Addr) (cap : Nat) (l : List Sx) (b : Int) (w : World) (hn : l.length ≤ 1048576) (hZ : Xs w.heap.size a l w) (hg : ¬ (goodM l = true ∧ 0 ≤ b ∧ b ≤ 15)) :
    Calls Try.prog 18 #[.slice a l.length cap, .int .i64 b] w fun e w' => e = .returned (.tuple #[.int .i64 0, .bool false]) ∧ Below w.heap.size w w' := by
  have HP := hid (sgood_any a cap l _ hn hZ)
  cases hgm : goodM l
  · rw [hgm] at HP
    clear hZ hg hgm
    go_enter Try.func18, Try.ntmps18
    go_wp2_with fail
    refine (HP.out).mono ?_
    rintro e w1 ⟨rfl, b1⟩
    have HB1 : Hid (Below w.heap.size w w1) := b1
    clear b1 HP
    go_wp2
    go_ret2
    exact ⟨rfl, HB1.out⟩
  · rw [hgm] at HP
    have h2 : b < 0 ∨ 15 < b := by
      rcases Classical.em (b < 0 ∨ 15 < b) with h | h
      · exact h
      · exact absurd ⟨hgm, by omega, by omega⟩ hg
    clear hZ hg hgm
    go_enter Try.func18, Try.ntmps18
    go_wp2_with fail
    refine (HP.out).mono ?_
    rintro e w1 ⟨rfl, b1⟩
    have HB1 : Hid (Below w.heap.size w w1) := b1
    clear b1 HP
    go_wp2_with fail
    refine (l1In_no _ _ _ _ h2).mono ?_
    rintro e w2 ⟨rfl, hw2⟩
    rw [hw2]
    clear hw2
    go_wp2
    go_ret2
    exact ⟨rfl, HB1.out⟩
set_option maxHeartbeats 2000000 in
theorem splace_in (a : Option Addr) (cap : Nat) (l : List Sx) (b : Nat) (w : World) (hn : l.length ≤ 1048576) (hZ : Xs w.heap.size a l w) (hgm : goodM l = true) (hb : b < 16) :
    Calls Try.prog 18 #[.slice a l.length cap, .int .i64 b] w fun e w' => e = .returned (.tuple (if 0 ≤ plN l b then #[.int .i64 (plN l b), .bool true] else #[.int .i64 0, .bool false])) ∧ Below w.heap.size w w' := by
  have HP := hid (sgood_any a cap l _ hn hZ)
  rw [hgm] at HP
  have HZ : Hid (∀ v, Below w.heap.size w v → Xs v.heap.size a l v) := fun v g => hZ.go g
  have HGA : Hid (∀ x ∈ l, goodX x = true) := chain_all none l hgm
  have h0 : (0 : Int) ≤ (b : Int) := by omega
  have h1 : (b : Int) ≤ 15 := by omega
  have hi2 : (b : Int) < 16 := by omega
  clear hZ hgm
  by_cases hp : 0 ≤ plN l b
  · rw [if_pos hp]
    have hd : decide (plN l b < 0) = false := decide_eq_false (by omega)
    clear hp
    go_enter Try.func18, Try.ntmps18
    go_wp2_with fail
    refine (HP.out).mono ?_
    rintro e w1 ⟨rfl, b1⟩
    have HB1 : Hid (Below w.heap.size w w1) := b1
    clear b1 HP
    go_wp2_with fail
    refine (l1In_yes _ _ _ _ h0 h1).mono ?_
    rintro e w2 ⟨rfl, hw2⟩
    rw [hw2]
    clear hw2
    go_wp2_with fail
    refine (l4Places_any a cap l _ hn HGA.out (HZ.out _ HB1.out)).mono ?_
    rintro e w4 ⟨R, c4, rfl, hR, hrow, b4⟩
    have HB4 : Hid (Below w.heap.size w w4) := HB1.out.trans (b4.mono HB1.out.size)
    have y0 := hrow.cell b (by rw [tab_len]; exact hb)
    rw [tab_at] at y0
    clear b4 hrow HB1
    go_wp2
    go_ret2
    exact ⟨rfl, HB4.out⟩
  · rw [if_neg hp]
    have hd : decide (plN l b < 0) = true := decide_eq_true (by omega)
    clear hp
    go_enter Try.func18, Try.ntmps18
    go_wp2_with fail
    refine (HP.out).mono ?_
    rintro e w1 ⟨rfl, b1⟩
    have HB1 : Hid (Below w.heap.size w w1) := b1
    clear b1 HP
    go_wp2_with fail
    refine (l1In_yes _ _ _ _ h0 h1).mono ?_
    rintro e w2 ⟨rfl, hw2⟩
    rw [hw2]
    clear hw2
    go_wp2_with fail
    refine (l4Places_any a cap l _ hn HGA.out (HZ.out _ HB1.out)).mono ?_
    rintro e w4 ⟨R, c4, rfl, hR, hrow, b4⟩
    have HB4 : Hid (Below w.heap.size w w4) := HB1.out.trans (b4.mono HB1.out.size)
    have y0 := hrow.cell b (by rw [tab_len]; exact hb)
    rw [tab_at] at y0
    clear b4 hrow HB1
    go_wp2
    go_ret2
    exact ⟨rfl, HB4.out⟩
end Go.Proofs.Ytgipkpldlkmdkaa
