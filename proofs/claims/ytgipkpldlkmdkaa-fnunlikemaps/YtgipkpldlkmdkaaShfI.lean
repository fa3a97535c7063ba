/- Walk of the program's ShiftMap. -/
import Derived.Test.YtgipkpldlkmdkaaShf
namespace Go.Proofs.Ytgipkpldlkmdkaa
set_option maxRecDepth 100000
open Go.ChangeShapes Go.WideShapes Go.ChangeAt Go.RowKit G00541
theorem isPlace_yes (p : Int) (w : World) (h0 : 0 ≤ p) (h1 : p ≤ 10000) : Calls Try.prog 34 #[.int .i64 p] w fun e w' => e = .returned (.bool true) ∧ w' = w := by
  have := isPlace_any p w
  rw [decide_eq_true ⟨h0, h1⟩] at this
  exact this
theorem isPlace_no (p : Int) (w : World) (h : ¬ (0 ≤ p ∧ p ≤ 10000)) : Calls Try.prog 34 #[.int .i64 p] w fun e w' => e = .returned (.bool false) ∧ w' = w := by
  have := isPlace_any p w
  rw [decide_eq_false h] at this
  exact this
set_option maxHeartbeats 4000000 in
theorem ishift_no (a : Option Addr) (cap : Nat) (l : List Sx) (p q d : Int) (w : World) (hn : l.length ≤ 1048576) (hfit : FitM l) (hZ : Xs w.heap.size a l w) (hg : ¬ (goodM l = true ∧ argS p q d)) :
    Calls Try.prog 29 #[.slice a l.length cap, .int .i64 p, .int .i64 q, .int .i64 d] w fun e w' => MapOut [] false w e w' := by
  cases hgm : goodM l
  · have HP' := hid (placesIn_no a cap l _ hn hfit hZ hgm)
    clear hZ hg hgm
    go_enter Try.func29, Try.ntmps29
    go_wp2_with fail
    refine (HP'.out).mono ?_
    rintro e w1 ⟨⟨F, rfl⟩, b1⟩
    have HA : Hid (Ar w1.heap.size (fun _ => 0) (w1.alloc (.cells (arr fun _ => 0) 61))) := Ar.new w1 _ 61
    have HB1 : Hid (Below w.heap.size w w1) := b1
    clear b1 HP'
    go_wp2_with (refine wpList_store_ar HA.out rfl _ _ rfl rfl rfl ?_; intro w2 ha2 hb2)
    have HB2 : Hid (Below w.heap.size w w2) := (HB1.out.alloc HB1.out.size _).trans (hb2.out.below HB1.out.size (by have := HB1.out.size; simp; omega))
    clear ha2 hb2
    go_ret2
    exact MapOut.no HB2.out
  · have HP' := hid (placesIn_yes a cap l _ hfit hZ hgm)
    have hgx : ¬ argS p q d := fun h => hg ⟨hgm, h⟩
    unfold argS at hgx
    clear hZ hg hgm
    by_cases h1 : 0 ≤ p ∧ p ≤ 10000
    · obtain ⟨h10, h11⟩ := h1
      by_cases h2 : 0 ≤ q ∧ q ≤ 10000
      · obtain ⟨h20, h21⟩ := h2
        by_cases h3 : q < p
        · have hd3 : decide (q < p) = true := decide_eq_true h3
          clear hgx h3
          go_enter Try.func29, Try.ntmps29
          go_wp2_with fail
          refine (HP'.out).mono ?_
          rintro e w1 ⟨rfl, b1⟩
          have HA : Hid (Ar w1.heap.size (fun _ => 0) (w1.alloc (.cells (arr fun _ => 0) 61))) := Ar.new w1 _ 61
          have HB1 : Hid (Below w.heap.size w w1) := b1
          clear b1 HP'
          go_wp2_with (first | (refine wpList_store_ar HA.out rfl _ _ rfl rfl rfl ?_; intro w2 ha2 hb2) | fail)
          have HB2 : Hid (Below w.heap.size w w2) := (HB1.out.alloc HB1.out.size _).trans (hb2.out.below HB1.out.size (by have := HB1.out.size; simp; omega))
          clear ha2 hb2
          refine (isPlace_yes _ _ h10 h11).mono ?_
          rintro e w3 ⟨rfl, hw3⟩
          rw [hw3]
          clear hw3
          go_wp2_with fail
          refine (isPlace_yes _ _ h20 h21).mono ?_
          rintro e w3 ⟨rfl, hw3⟩
          rw [hw3]
          clear hw3
          go_wp2
          go_ret2
          exact MapOut.no HB2.out
        · have hd3 : decide (q < p) = false := decide_eq_false h3
          by_cases h4 : d < -10000
          · have hd4 : decide (d < -10000) = true := decide_eq_true h4
            clear hgx h3 h4
            go_enter Try.func29, Try.ntmps29
            go_wp2_with fail
            refine (HP'.out).mono ?_
            rintro e w1 ⟨rfl, b1⟩
            have HA : Hid (Ar w1.heap.size (fun _ => 0) (w1.alloc (.cells (arr fun _ => 0) 61))) := Ar.new w1 _ 61
            have HB1 : Hid (Below w.heap.size w w1) := b1
            clear b1 HP'
            go_wp2_with (first | (refine wpList_store_ar HA.out rfl _ _ rfl rfl rfl ?_; intro w2 ha2 hb2) | fail)
            have HB2 : Hid (Below w.heap.size w w2) := (HB1.out.alloc HB1.out.size _).trans (hb2.out.below HB1.out.size (by have := HB1.out.size; simp; omega))
            clear ha2 hb2
            refine (isPlace_yes _ _ h10 h11).mono ?_
            rintro e w3 ⟨rfl, hw3⟩
            rw [hw3]
            clear hw3
            go_wp2_with fail
            refine (isPlace_yes _ _ h20 h21).mono ?_
            rintro e w3 ⟨rfl, hw3⟩
            rw [hw3]
            clear hw3
            go_wp2
            go_ret2
            exact MapOut.no HB2.out
          · have hd4 : decide (d < -10000) = false := decide_eq_false h4
            have hd5 : decide (10000 < d) = true := decide_eq_true (by omega)
            clear hgx h3 h4
            go_enter Try.func29, Try.ntmps29
            go_wp2_with fail
            refine (HP'.out).mono ?_
            rintro e w1 ⟨rfl, b1⟩
            have HA : Hid (Ar w1.heap.size (fun _ => 0) (w1.alloc (.cells (arr fun _ => 0) 61))) := Ar.new w1 _ 61
            have HB1 : Hid (Below w.heap.size w w1) := b1
            clear b1 HP'
            go_wp2_with (first | (refine wpList_store_ar HA.out rfl _ _ rfl rfl rfl ?_; intro w2 ha2 hb2) | fail)
            have HB2 : Hid (Below w.heap.size w w2) := (HB1.out.alloc HB1.out.size _).trans (hb2.out.below HB1.out.size (by have := HB1.out.size; simp; omega))
            clear ha2 hb2
            refine (isPlace_yes _ _ h10 h11).mono ?_
            rintro e w3 ⟨rfl, hw3⟩
            rw [hw3]
            clear hw3
            go_wp2_with fail
            refine (isPlace_yes _ _ h20 h21).mono ?_
            rintro e w3 ⟨rfl, hw3⟩
            rw [hw3]
            clear hw3
            go_wp2
            go_ret2
            exact MapOut.no HB2.out
      · clear hgx
        go_enter Try.func29, Try.ntmps29
        go_wp2_with fail
        refine (HP'.out).mono ?_
        rintro e w1 ⟨rfl, b1⟩
        have HA : Hid (Ar w1.heap.size (fun _ => 0) (w1.alloc (.cells (arr fun _ => 0) 61))) := Ar.new w1 _ 61
        have HB1 : Hid (Below w.heap.size w w1) := b1
        clear b1 HP'
        go_wp2_with (first | (refine wpList_store_ar HA.out rfl _ _ rfl rfl rfl ?_; intro w2 ha2 hb2) | fail)
        have HB2 : Hid (Below w.heap.size w w2) := (HB1.out.alloc HB1.out.size _).trans (hb2.out.below HB1.out.size (by have := HB1.out.size; simp; omega))
        clear ha2 hb2
        refine (isPlace_yes _ _ h10 h11).mono ?_
        rintro e w3 ⟨rfl, hw3⟩
        rw [hw3]
        clear hw3
        go_wp2_with fail
        refine (isPlace_no _ _ h2).mono ?_
        rintro e w3 ⟨rfl, hw3⟩
        rw [hw3]
        clear hw3
        go_wp2
        go_ret2
        exact MapOut.no HB2.out
    · clear hgx
      go_enter Try.func29, Try.ntmps29
      go_wp2_with fail
      refine (HP'.out).mono ?_
      rintro e w1 ⟨rfl, b1⟩
      have HA : Hid (Ar w1.heap.size (fun _ => 0) (w1.alloc (.cells (arr fun _ => 0) 61))) := Ar.new w1 _ 61
      have HB1 : Hid (Below w.heap.size w w1) := b1
      clear b1 HP'
      go_wp2_with (first | (refine wpList_store_ar HA.out rfl _ _ rfl rfl rfl ?_; intro w2 ha2 hb2) | fail)
      have HB2 : Hid (Below w.heap.size w w2) := (HB1.out.alloc HB1.out.size _).trans (hb2.out.below HB1.out.size (by have := HB1.out.size; simp; omega))
      clear ha2 hb2
      refine (isPlace_no _ _ h1).mono ?_
      rintro e w3 ⟨rfl, hw3⟩
      rw [hw3]
      clear hw3
      go_wp2
      go_ret2
      exact MapOut.no HB2.out
set_option maxHeartbeats 4000000 in
theorem ishift_in (a : Option Addr) (cap : Nat) (l : List Sx) (p q d : Int) (w : World) (hfit : FitM l) (hZ : Xs w.heap.size a l w) (hgm : goodM l = true) (ha : argS p q d) :
    Calls Try.prog 29 #[.slice a l.length cap, .int .i64 p, .int .i64 q, .int .i64 d] w fun e w' => ShOut (plN l) p q d w e w' := by
  have HP' := hid (placesIn_yes a cap l _ hfit hZ hgm)
  have HR := hid (plN_range l hgm)
  obtain ⟨g0, g1, g2, g3, g4, g5⟩ := ha
  have g6 : 0 ≤ q := by omega
  have hd3 : decide (q < p) = false := decide_eq_false (by omega)
  have hd4 : decide (d < -10000) = false := decide_eq_false (by omega)
  have hd5 : decide (10000 < d) = false := decide_eq_false (by omega)
  clear hZ hgm
  generalize plN l = F at *
  have hix := index_ar F
  go_enter Try.func29, Try.ntmps29
  go_wp2_with fail
  refine (HP'.out).mono ?_
  rintro e w1 ⟨rfl, b1⟩
  have HA : Hid (Ar w1.heap.size (fun _ => 0) (w1.alloc (.cells (arr fun _ => 0) 61))) := Ar.new w1 _ 61
  have HB1 : Hid (Below w.heap.size w w1) := b1
  clear b1 HP'
  have hs1 := HB1.out.size
  go_wp2_with (first | (refine wpList_store_ar HA.out rfl _ _ rfl rfl rfl ?_; intro w2 ha2 hb2) | fail)
  have HB2 : Hid (Below w.heap.size w w2) := (HB1.out.alloc HB1.out.size _).trans (hb2.out.below HB1.out.size (by have := HB1.out.size; simp; omega))
  clear hb2 HB1 HA
  refine (isPlace_yes _ _ g0 g1).mono ?_
  rintro e w3 ⟨rfl, hw3⟩
  rw [hw3]
  clear hw3
  go_wp2_with fail
  refine (isPlace_yes _ _ g6 g3).mono ?_
  rintro e w3 ⟨rfl, hw3⟩
  rw [hw3]
  clear hw3
  go_wp2_with (first | refine wpList_load_ar ha2.out rfl _ rfl rfl ?_ | fail)
  generalize w1.heap.size = B at *
  go_loopw [45] (fun i wi => ∃ (k : Nat), k ≤ 16 ∧ i = .int .i64 k ∧ Ar B (shF F p q d k) wi ∧ (∀ b, b < k → okAt F p q d b = true) ∧ Below w.heap.size w wi) (fun i _ => 16 - (intOf i).toNat)
  case atStart => exact ⟨0, Nat.zero_le _, rfl, by rw [shF_zero]; exact ha2.out, (fun _ h => absurd h (Nat.not_lt_zero _)), HB2.out⟩
  case round =>
    clear ha2 HB2
    obtain ⟨k, hk, rfl, hrow, hall, hbel⟩ := hrel
    have HROW : Hid (Ar B (shF F p q d k) wr) := hrow
    have HBEL : Hid (Below w.heap.size w wr) := hbel
    have HALL := hid hall
    clear hall
    by_cases hlt : k < 16
    · have y0 := hrow.cell k hlt
      have f0 := hrow.free k
      rw [shF_at] at y0
      have hFr := HR.out k hlt
      have hx := hix k hlt
      have hi2 : (k : Int) < 16 := by omega
      clear hrow hbel hix
      by_cases hin : p ≤ F k ∧ F k ≤ q
      · have HST : Hid (upd (shF F p q d k) k (F k + d) = shF F p q d (k + 1)) := shF_step F p q d k hin
        have hd6 : decide (F k < p) = false := decide_eq_false (by omega)
        have hd7 : decide (q < F k) = false := decide_eq_false (by omega)
        by_cases hok : 0 ≤ F k + d ∧ F k + d ≤ 10000
        · have HL : Hid (∀ b, b < k + 1 → okAt F p q d b = true) := fun b hb => by
            by_cases e : b = k
            · subst e; unfold okAt; exact decide_eq_true (Or.inr hok)
            · exact HALL.out b (by omega)
          obtain ⟨i0, i1⟩ := hin
          obtain ⟨o0, o1⟩ := hok
          generalize F k = x at *
          go_wp2_with fail
          refine (isPlace_yes _ _ o0 o1).mono ?_
          rintro e w2 ⟨rfl, hw2⟩
          rw [hw2]
          clear hw2
          go_wp2
          go_roundw
          case rel => exact ⟨k + 1, by omega, by go_num, by rw [← HST.out]; exact HROW.out.set k _, HL.out, HBEL.out.setCell hs1 _⟩
          case measure => simp [intOf]; omega
        · have HV : Hid (okS F p q d = false) := okS_bad F p q d k hlt hin hok
          obtain ⟨i0, i1⟩ := hin
          generalize F k = x at *
          go_wp2_with fail
          refine (isPlace_no _ _ hok).mono ?_
          rintro e w2 ⟨rfl, hw2⟩
          rw [hw2]
          clear hw2
          go_wp2
          go_ret2
          exact Or.inr ⟨HV.out, MapOut.no HBEL.out⟩
      · have HST : Hid (shF F p q d k = shF F p q d (k + 1)) := shF_skip F p q d k hin
        have HL : Hid (∀ b, b < k + 1 → okAt F p q d b = true) := fun b hb => by
          by_cases e : b = k
          · subst e; unfold okAt; exact decide_eq_true (Or.inl hin)
          · exact HALL.out b (by omega)
        by_cases h6 : F k < p
        · have hd6 : decide (F k < p) = true := decide_eq_true h6
          clear hin h6
          generalize F k = x at *
          go_wp2
          go_roundw
          case rel => exact ⟨k + 1, by omega, by go_num, by rw [← HST.out]; exact HROW.out, HL.out, HBEL.out⟩
          case measure => simp [intOf]; omega
        · have hd6 : decide (F k < p) = false := decide_eq_false h6
          have hd7 : decide (q < F k) = true := decide_eq_true (by omega)
          clear hin h6
          generalize F k = x at *
          go_wp2
          go_roundw
          case rel => exact ⟨k + 1, by omega, by go_num, by rw [← HST.out]; exact HROW.out, HL.out, HBEL.out⟩
          case measure => simp [intOf]; omega
    · obtain rfl : k = 16 := by omega
      have HV : Hid (okS F p q d = true) := okS_good F p q d HALL.out
      have HS := hid (stretchesOf_any (shF F p q d 16) (shF_range F p q d HR.out HALL.out))
      clear hrow hbel hix
      go_wp2_with (first | refine wpList_load_ar HROW.out rfl _ rfl rfl ?_ | fail)
      refine (HS.out _).mono ?_
      rintro e w5 ⟨u, rfl, hown, b5⟩
      have HB5 : Hid (Below w.heap.size w w5) := HBEL.out.trans (b5.mono HBEL.out.size)
      have HO : Hid (w5.ownsRow w.heap.size 36 3 u (mapF (shF F p q d 16) 16).length (xflat (mapF (shF F p q d 16) 16))) := own_le hown HBEL.out.size
      clear hown b5
      go_wp2
      go_ret2
      exact Or.inl ⟨HV.out, MapOut.of HO.out HB5.out⟩
end Go.Proofs.Ytgipkpldlkmdkaa
