/- Walks of MapOf: the model's and the program's. -/
import Derived.Test.YtgipkpldlkmdkaaSMap
import Derived.Test.YtgipkpldlkmdkaaIMap
namespace Go.Proofs.Ytgipkpldlkmdkaa
set_option maxRecDepth 100000
open Go.ChangeShapes Go.WideShapes Go.ChangeAt Go.RowKit G00541
theorem ret_b2 {a b : Bool} (h : a = b) : Ending.returned (.bool a) = .returned (.bool b) := by rw [h]
/-- each number in lo .. hi -/
def allIn (l : List Int) (lo hi : Int) : Bool := l.all fun x => decide (lo ≤ x ∧ x ≤ hi)
theorem allIn_bad (l : List Int) (lo hi : Int) (k : Nat) (h : k < l.length) (hb : ¬ (lo ≤ l[k] ∧ l[k] ≤ hi)) : allIn l lo hi = false := by
  unfold allIn
  rw [List.all_eq_false]
  exact ⟨l[k], List.getElem_mem h, by rw [decide_eq_false hb]; decide⟩
theorem allIn_all (l : List Int) (lo hi : Int) (h : ∀ j (hj : j < l.length), lo ≤ l[j] ∧ l[j] ≤ hi) : allIn l lo hi = true := by
  unfold allIn
  rw [List.all_eq_true]
  intro x hx
  obtain ⟨j, hj, rfl⟩ := List.getElem_of_mem hx
  exact decide_eq_true (h j hj)
theorem allIn_at (l : List Int) (lo hi : Int) (h : allIn l lo hi = true) (j : Nat) (hj : j < l.length) : lo ≤ l[j] ∧ l[j] ≤ hi := by
  unfold allIn at h
  rw [List.all_eq_true] at h
  exact of_decide_eq_true (h _ (List.getElem_mem hj))
set_option maxHeartbeats 1000000 in
theorem l1All_any (a : Option Addr) (cap : Nat) (l : List Int) (lo hi : Int) (w : World) (hn : l.length ≤ 1048576) (hZ : Is w.heap.size a l w) :
    Calls Try.prog 36 #[.slice a l.length cap, .int .i64 lo, .int .i64 hi] w fun e w' => e = .returned (.bool (allIn l lo hi)) ∧ Below w.heap.size w w' := by
  have HZ : Hid (Is w.heap.size a l w) := hZ
  clear hZ
  go_enter Try.func36, Try.ntmps36
  go_wp2
  go_loopw [11] (fun i wr => ∃ k : Nat, k ≤ l.length ∧ i = .int .i64 k ∧ (∀ j (hj : j < l.length), j < k → lo ≤ l[j] ∧ l[j] ≤ hi) ∧ Below w.heap.size w wr) (fun i _ => l.length - (intOf i).toNat)
  case atStart => exact ⟨0, Nat.zero_le _, rfl, (fun _ _ h => absurd h (Nat.not_lt_zero _)), Below.refl _ _⟩
  case round =>
    obtain ⟨k, hk, rfl, hall, hbel⟩ := hrel
    have HBEL : Hid (Below w.heap.size w wr) := hbel
    have HALL : Hid (∀ j (hj : j < l.length), j < k → lo ≤ l[j] ∧ l[j] ≤ hi) := hall
    clear hall
    by_cases hlt : k < l.length
    · obtain ⟨b, off, rfl, hb, hc⟩ := HZ.out.cell (by omega)
      have x0 := (hbel.cell (p := ⟨b, off + k, none⟩) hb).trans (hc k hlt)
      clear hc hbel
      by_cases hin : lo ≤ l[k] ∧ l[k] ≤ hi
      · have HL : Hid (∀ j (hj : j < l.length), j < k + 1 → lo ≤ l[j] ∧ l[j] ≤ hi) := fun j hj hjk => by
          by_cases e : j = k
          · subst e; exact hin
          · exact HALL.out j hj (by omega)
        obtain ⟨i0, i1⟩ := hin
        generalize l[k] = x at *
        go_wp2_with fail
        refine (l1In_yes _ _ _ _ i0 i1).mono ?_
        rintro e w2 ⟨rfl, hw2⟩
        rw [hw2]
        clear hw2
        go_wp2
        go_roundw
        case rel => exact ⟨k + 1, by omega, by go_num, HL.out, HBEL.out⟩
        case measure => simp [intOf]; omega
      · have HV : Hid (allIn l lo hi = false) := allIn_bad l lo hi k hlt hin
        have h2 : l[k] < lo ∨ hi < l[k] := by omega
        clear hin
        generalize l[k] = x at *
        go_wp2_with fail
        refine (l1In_no _ _ _ _ h2).mono ?_
        rintro e w2 ⟨rfl, hw2⟩
        rw [hw2]
        clear hw2
        go_wp2
        go_ret
        exact ⟨ret_b2 HV.out.symm, HBEL.out⟩
    · obtain rfl : k = l.length := by omega
      have HV : Hid (allIn l lo hi = true) := allIn_all l lo hi fun j hj => HALL.out j hj hj
      clear hbel
      go_wp2
      go_ret
      exact ⟨ret_b2 HV.out.symm, HBEL.out⟩
/-- the places that a list of sixteen tells -/
def fOf (l : List Int) : Nat → Int := fun b => l.getD b 0
theorem fOf_at (l : List Int) (k : Nat) (h : k < l.length) : fOf l k = l[k] := by
  unfold fOf; rw [List.getD_eq_getElem?_getD, List.getElem?_eq_getElem h]; rfl
theorem fOf_tab (l : List Int) (h : l.length = 16) : l = tab (fOf l) := tab_of l h
theorem fOf_range (l : List Int) (h : l.length = 16) (ha : allIn l (-1) 10000 = true) : ∀ b, b < 16 → -1 ≤ fOf l b ∧ fOf l b ≤ 10000 := fun b hb => by
  rw [fOf_at l b (by omega)]
  exact allIn_at l _ _ ha b (by omega)
set_option maxHeartbeats 1000000 in
theorem smap_no (a : Option Addr) (cap : Nat) (l : List Int) (w : World) (hn : l.length ≤ 1048576) (hZ : Is w.heap.size a l w) (hg : ¬ (l.length = 16 ∧ allIn l (-1) 10000 = true)) :
    Calls Try.prog 7 #[.slice a l.length cap] w fun e w' => MapOut [] false w e w' := by
  by_cases h6 : l.length = 16
  · have hv : allIn l (-1) 10000 = false := by
      cases h : allIn l (-1) 10000
      · rfl
      · exact absurd ⟨h6, h⟩ hg
    have HA := hid (l1All_any a cap l (-1) 10000 w hn hZ)
    rw [hv] at HA
    rw [h6] at HA ⊢
    clear hZ hg hv h6
    go_enter Try.func7, Try.ntmps7
    go_wp2_with fail
    refine (HA.out).mono ?_
    rintro e w1 ⟨rfl, b1⟩
    have HB1 : Hid (Below w.heap.size w w1) := b1
    clear b1 HA
    go_wp2
    go_ret2
    exact MapOut.no HB1.out
  · have hd : ((l.length : Int) != 16) = true := by simp; omega
    clear hZ hg
    go_enter Try.func7, Try.ntmps7
    go_wp2
    go_ret2
    exact MapOut.no (Below.refl _ _)
set_option maxHeartbeats 1000000 in
theorem smap_yes (a : Option Addr) (cap : Nat) (l : List Int) (w : World) (hZ : Is w.heap.size a l w) (h6 : l.length = 16) (ha : allIn l (-1) 10000 = true) :
    Calls Try.prog 7 #[.slice a l.length cap] w fun e w' => MapOut (mapF (fOf l) 16) true w e w' := by
  have HA := hid (l1All_any a cap l (-1) 10000 w (by omega) hZ)
  rw [ha] at HA
  have HM : Hid (∀ v, Below w.heap.size w v → Calls Try.prog 37 #[.slice a 16 cap] v fun e w' => ∃ u, e = .returned u ∧ w'.ownsRow v.heap.size 36 3 u (mapF (fOf l) 16).length (xflat (mapF (fOf l) 16)) ∧ Below v.heap.size v w') := fun v g => by
    have h2 : Is v.heap.size a l v := (hZ.below g).mono g.size
    rw [fOf_tab l h6] at h2
    exact l4Map_any a cap _ (fOf_range l h6 ha) v h2
  rw [h6] at HA ⊢
  clear hZ
  generalize mapF (fOf l) 16 = V at *
  go_enter Try.func7, Try.ntmps7
  go_wp2_with fail
  refine (HA.out).mono ?_
  rintro e w1 ⟨rfl, b1⟩
  have HB1 : Hid (Below w.heap.size w w1) := b1
  clear b1 HA
  go_wp2_with fail
  refine (HM.out _ HB1.out).mono ?_
  rintro e w5 ⟨u, rfl, hown, b5⟩
  have HB5 : Hid (Below w.heap.size w w5) := HB1.out.trans (b5.mono HB1.out.size)
  have HO : Hid (w5.ownsRow w.heap.size 36 3 u V.length (xflat V)) := own_le hown HB1.out.size
  clear hown b5
  go_wp2
  go_ret2
  exact MapOut.of HO.out HB5.out
/-- the first k places of f -/
def mixF (f : Nat → Int) (k : Nat) : Nat → Int := fun b => if b < k then f b else -1
theorem mixF_step (f : Nat → Int) (k : Nat) : upd (mixF f k) k (f k) = mixF f (k + 1) := by
  funext b
  unfold upd mixF
  by_cases e : b = k
  · subst e; rw [if_pos rfl, if_pos (by omega)]
  · rw [if_neg e]
    by_cases g : b < k
    · rw [if_pos g, if_pos (by omega)]
    · rw [if_neg g, if_neg (by omega)]
set_option maxHeartbeats 2000000 in
theorem imap_any (a : Option Addr) (cap : Nat) (l : List Int) (w : World) (hZ : Is w.heap.size a l w) (h6 : l.length = 16) :
    Calls Try.prog 6 #[.slice a l.length cap] w fun e w' => (allIn l (-1) 10000 = true ∧ MapOut (mapF (fOf l) 16) true w e w') ∨ (allIn l (-1) 10000 = false ∧ MapOut [] false w e w') := by
  obtain ⟨ba, off, rfl, hba, hcells⟩ := hZ.cell (by omega)
  have HC : Hid (∀ i, i < 16 → w.cell? ⟨ba, off + i, none⟩ = some (.int .i64 (fOf l i))) := fun i hi => by
    have := hcells i (by omega)
    rw [← fOf_at] at this
    exact this
  have HBAD : Hid (∀ k, k < 16 → ¬ (-1 ≤ fOf l k ∧ fOf l k ≤ 10000) → allIn l (-1) 10000 = false) := fun k hk h => allIn_bad l _ _ k (by omega) (by rw [← fOf_at]; exact h)
  have HGOOD : Hid ((∀ k, k < 16 → -1 ≤ fOf l k ∧ fOf l k ≤ 10000) → allIn l (-1) 10000 = true) := fun h => allIn_all l _ _ fun j hj => by rw [← fOf_at l j hj]; exact h j (by omega)
  rw [h6]
  clear hZ hcells h6
  generalize fOf l = f at *
  generalize allIn l (-1) 10000 = v at *
  go_enter Try.func6, Try.ntmps6
  go_wp2_with fail
  refine (none_any _).mono ?_
  rintro e w1 ⟨rfl, b1⟩
  have HB1 : Hid (Below w.heap.size w w1) := b1
  have HA : Hid (Ar w1.heap.size (fun _ => 0) (w1.alloc (.cells (arr fun _ => 0) 61))) := Ar.new w1 _ 61
  have hs1 := b1.size
  clear b1
  go_wp2_with (first | (refine wpList_store_ar HA.out rfl _ _ rfl rfl rfl ?_; intro w2 ha2 hb2) | fail)
  have HB2 : Hid (Below w.heap.size w w2) := (HB1.out.alloc HB1.out.size _).trans (hb2.out.below hs1 (by simp; omega))
  clear HB1 HA hb2
  generalize w1.heap.size = B at *
  have h0 : mixF f 0 = fun _ => -1 := by funext b; unfold mixF; rw [if_neg (by omega)]
  go_loopw [13] (fun i wr => ∃ k : Nat, k ≤ 16 ∧ i = .int .i64 k ∧ Ar B (mixF f k) wr ∧ (∀ j, j < k → -1 ≤ f j ∧ f j ≤ 10000) ∧ Below w.heap.size w wr) (fun i _ => 16 - (intOf i).toNat)
  case atStart => exact ⟨0, Nat.zero_le _, rfl, by rw [h0]; exact ha2.out, (fun _ h => absurd h (Nat.not_lt_zero _)), HB2.out⟩
  case round =>
    clear ha2 HB2 h0
    obtain ⟨k, hk, rfl, ha, hall, hbel⟩ := hrel
    have HA : Hid (Ar B (mixF f k) wr) := ha
    have HALL : Hid (∀ j, j < k → -1 ≤ f j ∧ f j ≤ 10000) := hall
    have HBEL : Hid (Below w.heap.size w wr) := hbel
    clear hall
    by_cases hlt : k < 16
    · have x0 := (hbel.cell (p := ⟨ba, off + k, none⟩) hba).trans (HC.out k hlt)
      have y0 := ha.cell k hlt
      have f0 := ha.free k
      have HS : Hid (upd (mixF f k) k (f k) = mixF f (k + 1)) := mixF_step f k
      have hi2 : (k : Int) < 16 := by omega
      clear ha hbel
      by_cases hin : -1 ≤ f k ∧ f k ≤ 10000
      · have HL : Hid (∀ j, j < k + 1 → -1 ≤ f j ∧ f j ≤ 10000) := fun j hj => by
          by_cases e : j = k
          · subst e; exact hin
          · exact HALL.out j (by omega)
        by_cases hm : f k = -1
        · have hd : (f k != -1) = false := by rw [hm]; rfl
          clear hin hm
          generalize f k = x at *
          go_wp2
          go_roundw
          case rel => exact ⟨k + 1, by omega, by go_num, by rw [← HS.out]; exact HA.out.set k x, HL.out, HBEL.out.setCell hs1 _⟩
          case measure => simp [intOf]; omega
        · have hd : (f k != -1) = true := by simp [hm]
          have HP : Hid (∀ v, Calls Try.prog 34 #[.int .i64 (f k)] v fun e w' => e = .returned (.bool true) ∧ w' = v) := fun v => by
            have := isPlace_any (f k) v
            rw [decide_eq_true ⟨by omega, hin.2⟩] at this
            exact this
          clear hin hm
          generalize f k = x at *
          go_wp2_with fail
          refine (HP.out _).mono ?_
          rintro e w5 ⟨rfl, hw5⟩
          rw [hw5]
          clear hw5
          go_wp2
          go_roundw
          case rel => exact ⟨k + 1, by omega, by go_num, by rw [← HS.out]; exact HA.out.set k x, HL.out, HBEL.out.setCell hs1 _⟩
          case measure => simp [intOf]; omega
      · have HV : Hid (v = false) := HBAD.out k hlt hin
        have hd : (f k != -1) = true := by
          have : f k ≠ -1 := by omega
          simp [this]
        have HP : Hid (∀ v, Calls Try.prog 34 #[.int .i64 (f k)] v fun e w' => e = .returned (.bool false) ∧ w' = v) := fun v => by
          have := isPlace_any (f k) v
          rw [decide_eq_false (by omega)] at this
          exact this
        clear hin
        generalize f k = x at *
        go_wp2_with fail
        refine (HP.out _).mono ?_
        rintro e w5 ⟨rfl, hw5⟩
        rw [hw5]
        clear hw5
        go_wp2
        go_ret2
        exact Or.inr ⟨HV.out, MapOut.no HBEL.out⟩
    · obtain rfl : k = 16 := by omega
      have HV : Hid (v = true) := HGOOD.out HALL.out
      have HA2 : Hid (Ar B f wr) := ha.ext fun b hb => by unfold mixF; rw [if_pos hb]
      have HS : Hid (∀ v, Calls Try.prog 35 #[.agg (arr f)] v fun e w' => ∃ u, e = .returned u ∧ w'.ownsRow v.heap.size 36 3 u (mapF f 16).length (xflat (mapF f 16)) ∧ Below v.heap.size v w') := fun v => stretchesOf_any _ HALL.out v
      clear ha hbel HA
      go_wp2_with (first | refine wpList_load_ar HA2.out rfl _ rfl rfl ?_ | fail)
      refine (HS.out _).mono ?_
      rintro e w5 ⟨u, rfl, hown, b5⟩
      have HB5 : Hid (Below w.heap.size w w5) := HBEL.out.trans (b5.mono HBEL.out.size)
      have HO : Hid (w5.ownsRow w.heap.size 36 3 u (mapF f 16).length (xflat (mapF f 16))) := own_le hown HBEL.out.size
      clear hown b5
      go_wp2
      go_ret2
      exact Or.inl ⟨HV.out, MapOut.of HO.out HB5.out⟩
set_option maxHeartbeats 400000 in
theorem imap_short (a : Option Addr) (cap : Nat) (l : List Int) (w : World) (h6 : l.length ≠ 16) :
    Calls Try.prog 6 #[.slice a l.length cap] w fun e w' => MapOut [] false w e w' := by
  have hd : ((l.length : Int) != 16) = true := by simp; omega
  go_enter Try.func6, Try.ntmps6
  go_wp2
  go_ret2
  exact MapOut.no (Below.refl _ _)
end Go.Proofs.Ytgipkpldlkmdkaa
