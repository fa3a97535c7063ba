/- Walks of ShiftMap: the model's and the program's. -/
import Derived.Test.YtgipkpldlkmdkaaSMap2
namespace Go.Proofs.Ytgipkpldlkmdkaa
set_option maxRecDepth 100000
open Go.ChangeShapes Go.WideShapes Go.ChangeAt Go.RowKit G00541
def okAt (F : Nat → Int) (p q d : Int) (b : Nat) : Bool := decide (¬ (p ≤ F b ∧ F b ≤ q) ∨ (0 ≤ F b + d ∧ F b + d ≤ 10000))
def okS (F : Nat → Int) (p q d : Int) : Bool := (List.range 16).all (okAt F p q d)
theorem okS_bad (F : Nat → Int) (p q d : Int) (k : Nat) (hk : k < 16) (h1 : p ≤ F k ∧ F k ≤ q) (h2 : ¬ (0 ≤ F k + d ∧ F k + d ≤ 10000)) : okS F p q d = false := by
  unfold okS
  rw [List.all_eq_false]
  refine ⟨k, List.mem_range.2 hk, ?_⟩
  unfold okAt
  rw [decide_eq_false (by omega)]; decide
theorem okS_good (F : Nat → Int) (p q d : Int) (h : ∀ b, b < 16 → okAt F p q d b = true) : okS F p q d = true := by
  unfold okS
  rw [List.all_eq_true]
  exact fun b hb => h b (List.mem_range.1 hb)
/-- the first k places shifted -/
def shF (F : Nat → Int) (p q d : Int) (k : Nat) : Nat → Int := fun b => if b < k ∧ p ≤ F b ∧ F b ≤ q then F b + d else F b
theorem shF_zero (F : Nat → Int) (p q d : Int) : shF F p q d 0 = F := by
  funext b; unfold shF; rw [if_neg (by omega)]
theorem shF_step (F : Nat → Int) (p q d : Int) (k : Nat) (h : p ≤ F k ∧ F k ≤ q) : upd (shF F p q d k) k (F k + d) = shF F p q d (k + 1) := by
  funext b
  unfold upd shF
  by_cases e : b = k
  · subst e; rw [if_pos rfl, if_pos ⟨by omega, h⟩]
  · rw [if_neg e]
    by_cases g : b < k ∧ p ≤ F b ∧ F b ≤ q
    · rw [if_pos g, if_pos ⟨by omega, g.2⟩]
    · rw [if_neg g, if_neg (by omega)]
theorem shF_skip (F : Nat → Int) (p q d : Int) (k : Nat) (h : ¬ (p ≤ F k ∧ F k ≤ q)) : shF F p q d k = shF F p q d (k + 1) := by
  funext b
  unfold shF
  by_cases e : b = k
  · subst e; rw [if_neg (by omega), if_neg (by omega)]
  · by_cases g : b < k ∧ p ≤ F b ∧ F b ≤ q
    · rw [if_pos g, if_pos ⟨by omega, g.2⟩]
    · rw [if_neg g, if_neg (by omega)]
theorem shF_at (F : Nat → Int) (p q d : Int) (k : Nat) : shF F p q d k k = F k := by unfold shF; rw [if_neg (by omega)]
theorem shF_range (F : Nat → Int) (p q d : Int) (hF : ∀ b, b < 16 → -1 ≤ F b ∧ F b ≤ 10000) (h : ∀ b, b < 16 → okAt F p q d b = true) : ∀ b, b < 16 → -1 ≤ shF F p q d 16 b ∧ shF F p q d 16 b ≤ 10000 := fun b hb => by
  have := of_decide_eq_true (h b hb)
  have h2 := hF b hb
  unfold shF
  split <;> omega
/-- what ShiftMap tells of places F -/
def ShOut (F : Nat → Int) (p q d : Int) (w : World) (e : Ending) (w' : World) : Prop := (okS F p q d = true ∧ MapOut (mapF (shF F p q d 16) 16) true w e w') ∨ (okS F p q d = false ∧ MapOut [] false w e w')
def argS (p q d : Int) : Prop := 0 ≤ p ∧ p ≤ 10000 ∧ p ≤ q ∧ q ≤ 10000 ∧ -10000 ≤ d ∧ d ≤ 10000
set_option maxHeartbeats 2000000 in
theorem sshift_no (a : Option Addr) (cap : Nat) (l : List Sx) (p q d : Int) (w : World) (hn : l.length ≤ 1048576) (hZ : Xs w.heap.size a l w) (hg : ¬ (goodM l = true ∧ argS p q d)) :
    Calls Try.prog 30 #[.slice a l.length cap, .int .i64 p, .int .i64 q, .int .i64 d] w fun e w' => MapOut [] false w e w' := by
  have HP := hid (sgood_any a cap l _ hn hZ)
  cases hgm : goodM l
  · rw [hgm] at HP
    clear hZ hg hgm
    go_enter Try.func30, Try.ntmps30
    go_wp2_with fail
    refine (HP.out).mono ?_
    rintro e w1 ⟨rfl, b1⟩
    have HB1 : Hid (Below w.heap.size w w1) := b1
    clear b1 HP
    go_wp2
    go_ret2
    exact MapOut.no HB1.out
  · have hgx : ¬ argS p q d := fun h => hg ⟨hgm, h⟩
    unfold argS at hgx
    rw [hgm] at HP
    by_cases h1 : 0 ≤ p ∧ p ≤ 10000
    · obtain ⟨h10, h11⟩ := h1
      by_cases h2 : p ≤ q ∧ q ≤ 10000
      · obtain ⟨h20, h21⟩ := h2
        have h3 : d < -10000 ∨ 10000 < d := by omega
        clear hZ hg hgm hgx
        go_enter Try.func30, Try.ntmps30
        go_wp2_with fail
        refine (HP.out).mono ?_
        rintro e w1 ⟨rfl, b1⟩
        have HB1 : Hid (Below w.heap.size w w1) := b1
        clear b1 HP
        go_wp2_with fail
        refine (l1In_yes _ _ _ _ h10 h11).mono ?_
        rintro e w2 ⟨rfl, hw2⟩
        rw [hw2]
        clear hw2
        go_wp2_with fail
        refine (l1In_yes _ _ _ _ h20 h21).mono ?_
        rintro e w2 ⟨rfl, hw2⟩
        rw [hw2]
        clear hw2
        go_wp2_with fail
        refine (l1In_no _ _ _ _ h3).mono ?_
        rintro e w2 ⟨rfl, hw2⟩
        rw [hw2]
        clear hw2
        go_wp2
        go_ret2
        exact MapOut.no HB1.out
      · have h3 : q < p ∨ 10000 < q := by omega
        clear hZ hg hgm hgx h2
        go_enter Try.func30, Try.ntmps30
        go_wp2_with fail
        refine (HP.out).mono ?_
        rintro e w1 ⟨rfl, b1⟩
        have HB1 : Hid (Below w.heap.size w w1) := b1
        clear b1 HP
        go_wp2_with fail
        refine (l1In_yes _ _ _ _ h10 h11).mono ?_
        rintro e w2 ⟨rfl, hw2⟩
        rw [hw2]
        clear hw2
        go_wp2_with fail
        refine (l1In_no _ _ _ _ h3).mono ?_
        rintro e w2 ⟨rfl, hw2⟩
        rw [hw2]
        clear hw2
        go_wp2
        go_ret2
        exact MapOut.no HB1.out
    · have h3 : p < 0 ∨ 10000 < p := by omega
      clear hZ hg hgm hgx h1
      go_enter Try.func30, Try.ntmps30
      go_wp2_with fail
      refine (HP.out).mono ?_
      rintro e w1 ⟨rfl, b1⟩
      have HB1 : Hid (Below w.heap.size w w1) := b1
      clear b1 HP
      go_wp2_with fail
      refine (l1In_no _ _ _ _ h3).mono ?_
      rintro e w2 ⟨rfl, hw2⟩
      rw [hw2]
      clear hw2
      go_wp2
      go_ret2
      exact MapOut.no HB1.out
set_option maxHeartbeats 4000000 in
theorem sshift_in (a : Option Addr) (cap : Nat) (l : List Sx) (p q d : Int) (w : World) (hn : l.length ≤ 1048576) (hZ : Xs w.heap.size a l w) (hgm : goodM l = true) (ha : argS p q d) :
    Calls Try.prog 30 #[.slice a l.length cap, .int .i64 p, .int .i64 q, .int .i64 d] w fun e w' => ShOut (plN l) p q d w e w' := by
  have HP := hid (sgood_any a cap l _ hn hZ)
  rw [hgm] at HP
  have HR := hid (plN_range l hgm)
  have HLP := hid (fun v (g : Below w.heap.size w v) => l4Places_any a cap l v hn (chain_all none l hgm) (hZ.go g))
  obtain ⟨g0, g1, g2, g3, g4, g5⟩ := ha
  clear hZ hgm
  generalize plN l = F at *
  go_enter Try.func30, Try.ntmps30
  go_wp2_with fail
  refine (HP.out).mono ?_
  rintro e w1 ⟨rfl, b1⟩
  have HB1 : Hid (Below w.heap.size w w1) := b1
  clear b1 HP
  go_wp2_with fail
  refine (l1In_yes _ _ _ _ g0 g1).mono ?_
  rintro e w2 ⟨rfl, hw2⟩
  rw [hw2]
  clear hw2
  go_wp2_with fail
  refine (l1In_yes _ _ _ _ g2 g3).mono ?_
  rintro e w2 ⟨rfl, hw2⟩
  rw [hw2]
  clear hw2
  go_wp2_with fail
  refine (l1In_yes _ _ _ _ g4 g5).mono ?_
  rintro e w2 ⟨rfl, hw2⟩
  rw [hw2]
  clear hw2
  go_wp2_with fail
  refine (HLP.out _ HB1.out).mono ?_
  rintro e w4 ⟨R, c4, rfl, hR, hrow, b4⟩
  have HB4 : Hid (Below w.heap.size w w4) := HB1.out.trans (b4.mono HB1.out.size)
  have hs1 := HB1.out.size
  have HROW : Hid (IRow R (tab F) w4) := hrow
  clear b4 hrow HB1 HLP
  go_wp2
  go_loopw [36] (fun i wi => ∃ (k : Nat), k ≤ 16 ∧ i = .int .i64 k ∧ IRow R (tab (shF F p q d k)) wi ∧ (∀ b, b < k → okAt F p q d b = true) ∧ Below w.heap.size w wi) (fun i _ => 16 - (intOf i).toNat)
  case atStart => exact ⟨0, Nat.zero_le _, rfl, by rw [shF_zero]; exact HROW.out, (fun _ h => absurd h (Nat.not_lt_zero _)), HB4.out⟩
  case round =>
    clear HROW HB4
    obtain ⟨k, hk, rfl, hrow, hall, hbel⟩ := hrel
    have HROW : Hid (IRow R (tab (shF F p q d k)) wr) := hrow
    have HBEL : Hid (Below w.heap.size w wr) := hbel
    have HALL := hid hall
    clear hall
    by_cases hlt : k < 16
    · have y0 := hrow.cell k (by rw [tab_len]; exact hlt)
      have f0 := hrow.free k (by rw [tab_len]; exact hlt)
      rw [tab_at, shF_at] at y0
      have hFr := HR.out k hlt
      have hi2 : (k : Int) < 16 := by omega
      clear hrow hbel
      by_cases hin : p ≤ F k ∧ F k ≤ q
      · have HST : Hid (upd (shF F p q d k) k (F k + d) = shF F p q d (k + 1)) := shF_step F p q d k hin
        by_cases hok : 0 ≤ F k + d ∧ F k + d ≤ 10000
        · have HL : Hid (∀ b, b < k + 1 → okAt F p q d b = true) := fun b hb => by
            by_cases e : b = k
            · subst e; unfold okAt; exact decide_eq_true (Or.inr hok)
            · exact HALL.out b (by omega)
          obtain ⟨i0, i1⟩ := hin
          obtain ⟨o0, o1⟩ := hok
          generalize F k = x at *
          go_wp2_with fail
          refine (l1In_yes _ _ _ _ i0 i1).mono ?_
          rintro e w2 ⟨rfl, hw2⟩
          rw [hw2]
          clear hw2
          go_wp2_with fail
          refine (l1In_yes _ _ _ _ o0 o1).mono ?_
          rintro e w2 ⟨rfl, hw2⟩
          rw [hw2]
          clear hw2
          go_wp2
          go_roundw
          case rel => exact ⟨k + 1, by omega, by go_num, by rw [← HST.out, ← tab_set]; exact HROW.out.set k (by rw [tab_len]; omega) _, HL.out, HBEL.out.setCell (by show w.heap.size ≤ R; omega) _⟩
          case measure => simp [intOf]; omega
        · have HV : Hid (okS F p q d = false) := okS_bad F p q d k hlt hin hok
          have h3 : F k + d < 0 ∨ 10000 < F k + d := by omega
          obtain ⟨i0, i1⟩ := hin
          clear hok
          generalize F k = x at *
          go_wp2_with fail
          refine (l1In_yes _ _ _ _ i0 i1).mono ?_
          rintro e w2 ⟨rfl, hw2⟩
          rw [hw2]
          clear hw2
          go_wp2_with fail
          refine (l1In_no _ _ _ _ h3).mono ?_
          rintro e w2 ⟨rfl, hw2⟩
          rw [hw2]
          clear hw2
          go_wp2
          go_ret2
          exact Or.inr ⟨HV.out, MapOut.no HBEL.out⟩
      · have HST : Hid (shF F p q d k = shF F p q d (k + 1)) := shF_skip F p q d k hin
        have HL : Hid (∀ b, b < k + 1 → okAt F p q d b = true) := fun b hb => by
          by_cases e : b = k
          · subst e; unfold okAt; exact decide_eq_true (Or.inl hin)
          · exact HALL.out b (by omega)
        have h3 : F k < p ∨ q < F k := by omega
        clear hin
        generalize F k = x at *
        go_wp2_with fail
        refine (l1In_no _ _ _ _ h3).mono ?_
        rintro e w2 ⟨rfl, hw2⟩
        rw [hw2]
        clear hw2
        go_wp2
        go_roundw
        case rel => exact ⟨k + 1, by omega, by go_num, by rw [← HST.out]; exact HROW.out, HL.out, HBEL.out⟩
        case measure => simp [intOf]; omega
    · obtain rfl : k = 16 := by omega
      have hlt2 := hrow.lt
      have HV : Hid (okS F p q d = true) := okS_good F p q d HALL.out
      have HM := hid (fun a cap v (hv : Is v.heap.size a (tab (shF F p q d 16)) v) => l4Map_any a cap _ (shF_range F p q d HR.out HALL.out) v hv)
      clear hrow hbel
      go_wp2_with fail
      refine (HM.out _ _ _ (HROW.out.sl hlt2)).mono ?_
      rintro e w5 ⟨u, rfl, hown, b5⟩
      have HB5 : Hid (Below w.heap.size w w5) := HBEL.out.trans (b5.mono HBEL.out.size)
      have HO : Hid (w5.ownsRow w.heap.size 36 3 u (mapF (shF F p q d 16) 16).length (xflat (mapF (shF F p q d 16) 16))) := own_le hown HBEL.out.size
      clear hown b5
      go_wp2
      go_ret2
      exact Or.inl ⟨HV.out, MapOut.of HO.out HB5.out⟩
end Go.Proofs.Ytgipkpldlkmdkaa
