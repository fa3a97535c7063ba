/- The program's lists in order: turned, put together, parted. -/
import Derived.Test.YtpjmblhfahbopaaAItr
import Derived.Test.YtpjmblhfahbopaaAShR
import Derived.Test.YtpjmblhfahbopaaAShG
import Derived.Test.YtpjmblhfahbopaaASwp
namespace Go.Proofs.Ytpjmblhfahbopaa
set_option maxRecDepth 100000
open Go Go.ChangeShapes Go.WideShapes Go.ChangeAt Go.RowKit Go.Shelf
/-- a list of one's own, turned where it lies -/
theorem revAL (lo : Nat) (v : Value) (l : List Int) (w : World) (hn : l.length ≤ 9000) (h : AL lo v l w) (hlo : lo ≤ w.heap.size) :
    Calls Try.prog 62 #[v] w fun e w' => e = .returned (.tuple #[]) ∧ AL lo v l.reverse w' ∧ Below lo w w' := by
  have h9 : w.ownsRow lo 3 1 v l.length (ivals l) := h
  rcases h9.2 with ⟨rfl, hz⟩ | ⟨gb, cap, cur, rfl, hbase, hgb, r1, r2, r3, r4⟩
  · obtain rfl : l = [] := List.eq_nil_of_length_eq_zero hz
    exact (revI_none none 0 w).mono fun e w' ⟨he, hw⟩ => ⟨he, by rw [hw]; exact h, by rw [hw]; exact Below.refl _ _⟩
  · have hH : Go.Sort.Holds (Value.int .i64) w gb 0 l.toArray := holds_of_block_i hgb (by rw [Nat.mul_one] at r4; exact r4)
    refine (revI_row gb 0 cap l w hH (by omega)).mono ?_
    rintro e w' ⟨he, nn, hw⟩
    rw [← Go.Sort.grow_empty (Go.Sort.putRow _ _ _ _ _)] at hw
    subst hw
    refine ⟨he, ?_, below_of_grown (grownBy_sorted_i _) hlo (fun k hk => by cases hk; exact hbase)⟩
    have := ownsRow_sorted_i (n := nn) (os := #[]) (ts := l.reverse) (by simp) hbase hgb r1 r2 r3
    unfold AL
    rw [List.length_reverse]
    exact this
set_option maxHeartbeats 400000 in
theorem falling_any (a : Option Addr) (cap : Nat) (l : List Int) (w : World) (hn : l.length ≤ 9000) (hG : Is w.heap.size a l w) :
    Calls Try.prog 50 #[.slice a l.length cap] w fun e w' => ∃ v, e = .returned v ∧ AL w.heap.size v (sortN l).reverse w' ∧ Below w.heap.size w w' := by
  have H := hid (rising_any a cap l w hn hG)
  clear hG
  go_enter Try.func50, Try.ntmps50
  go_wp2_with fail
  refine H.out.mono ?_
  rintro e w1 ⟨v, rfl, o1, b1⟩
  have HS := hid (revAL w.heap.size v (sortN l) w1 (by rw [sortN_len]; exact hn) o1 b1.size)
  have HB := hid b1
  clear o1 b1 H
  go_wp2_with fail
  refine HS.out.mono ?_
  rintro e w2 ⟨rfl, o2, b2⟩
  have HO := hid o2
  have HB2 : Hid (Below w.heap.size w w2) := HB.out.trans b2
  clear o2 b2 HS HB
  go_wp2
  go_ret
  exact ⟨v, rfl, HO.out, HB2.out⟩
theorem growAL (n : Nat) (w : World) (hn : n ≤ 8000) : Calls Try.prog 61 #[.slice none 0 0, .int .i64 (n : Int)] w fun e w' => ∃ v, e = .returned v ∧ AL w.heap.size v [] w' ∧ Below w.heap.size w w' := by
  by_cases h0 : n = 0
  · subst h0
    exact (growI_room none 0 0 0 w (Nat.le_refl _) (by omega) (by omega) (Nat.le_refl _)).mono fun e w' ⟨he, hw⟩ => ⟨_, he, by rw [hw]; exact AL.nil _ _, by rw [hw]; exact Below.refl _ _⟩
  · obtain ⟨i0, hi, hz0, hz1, hz2⟩ := info_parts infoI
    refine (growI_grow i0 (.int .i64 0) hi hz0 (by omega) n w (by omega) (by rw [hz2]; omega) (by omega)).mono ?_
    rintro e w' ⟨he, hw⟩
    refine ⟨_, he, ?_, ?_⟩
    · rw [hw]
      have hge := grownCap_ge w (0 + n) 0 3
      have hle := grownCap_le_maxLen w (0 + n) 0 3 (by unfold maxLen; omega)
      generalize grownCap w (0 + n) 0 3 = C at *
      have := World.ownsRow_made w.drew (base := w.heap.size) (e := 3) (size := 1) (([] : List Value).toArray ++ Builtin.zeroCells (Value.int .i64 0).cells (0 + n - 0) ++ Builtin.zeroCells (Value.int .i64 0).cells (C - (0 + n))) C (Nat.le_refl _) hle (by
        rw [Array.size_append, Array.size_append, size_zeroCells, size_zeroCells]
        show ([] : List Value).toArray.size + _ * 1 + _ * 1 = _
        simp; omega)
      exact this
    · rw [hw]; exact (Below.refl _ w).drew.alloc (Nat.le_refl _) _
/-- how many the first k lists have; what they are -/
def szK (X Y : List Int) : Nat → Nat
  | 0 => 0
  | 1 => X.length
  | _ + 2 => X.length + Y.length
def partK (X Y : List Int) : Nat → List Int
  | 0 => []
  | 1 => X
  | _ + 2 => X ++ Y
set_option maxHeartbeats 2000000 in
theorem concat_two (R : Nat) (a1 a2 : Option Addr) (c1 c2 : Nat) (X Y : List Int) (w : World) (hX : X.length ≤ 4000) (hY : Y.length ≤ 4000) (hR : w.heap[R]? = some (.cells #[.slice a1 X.length c1, .slice a2 Y.length c2] 23)) (h1 : Is w.heap.size a1 X w) (h2 : Is w.heap.size a2 Y w) :
    Calls Try.prog 47 #[.slice (some ⟨R, 0, none⟩) 2 2] w fun e w' => ∃ v, e = .returned v ∧ AL w.heap.size v (X ++ Y) w' ∧ Below w.heap.size w w' := by
  have HR := hid hR
  have H1 := hid h1
  have H2 := hid h2
  have HG := hid (growAL (X.length + Y.length) w (by omega))
  have hRlt : R < w.heap.size := (Array.getElem?_eq_some_iff.1 hR).1
  clear hR h1 h2
  go_enter Try.func47, Try.ntmps47
  go_wp2_with fail
  go_loopw [3, 11] (fun z i wr => ∃ k : Nat, k ≤ 2 ∧ i = .int .i64 k ∧ z = .int .i64 (szK X Y k : Int) ∧ wr = w) (fun _ i _ => 2 - (intOf i).toNat)
  case atStart => exact ⟨0, by omega, rfl, rfl, rfl⟩
  case round =>
    obtain ⟨k, hk, rfl, rfl, hwr⟩ := hrel
    rw [hwr]
    clear hwr
    rcases (show k = 0 ∨ k = 1 ∨ k = 2 by omega) with rfl | rfl | rfl
    · have y0 : w.cell? ⟨R, 0, none⟩ = some (.slice a1 X.length c1) := box_cell HR.out 0
      have e0 : (szK X Y 0 : Int) = 0 := rfl
      have hd : decide ((X.length : Int) < 0) = false := decide_eq_false (by omega)
      rw [e0]
      go_wp2_with fail
      go_roundw
      case rel => exact ⟨1, by omega, by go_num, rfl, by trivial⟩
      case measure => simp [intOf]
    · have y0 : w.cell? ⟨R, 1, none⟩ = some (.slice a2 Y.length c2) := box_cell HR.out 1
      have e0 : (szK X Y 1 : Int) = (X.length : Int) := rfl
      have hd : decide ((X.length : Int) + (Y.length : Int) < 0) = false := decide_eq_false (by omega)
      rw [e0]
      go_wp2_with fail
      go_roundw
      case rel => exact ⟨2, by omega, by go_num, by show _ = Value.int .i64 ((X.length + Y.length : Nat) : Int); go_num, by trivial⟩
      case measure => simp [intOf]
    · have e0 : (szK X Y 2 : Int) = ((X.length + Y.length : Nat) : Int) := rfl
      rw [e0]
      go_wp2_with fail
      refine HG.out.mono ?_
      rintro e w1 ⟨v1, rfl, o1, b1⟩
      have HO := hid o1
      have HB := hid b1
      clear o1 b1 HG e0
      go_wp2_with fail
      go_loopw [6, 27] (fun o i wr2 => ∃ (k : Nat) (o1 : Value), k ≤ 2 ∧ i = .int .i64 k ∧ o = o1 ∧ AL w.heap.size o1 (partK X Y k) wr2 ∧ Below w.heap.size w wr2) (fun _ i _ => 2 - (intOf i).toNat)
      case atStart => exact ⟨0, _, by omega, rfl, rfl, HO.out, HB.out⟩
      case round =>
        obtain ⟨k, _, hk, rfl, rfl, hown, hbel⟩ := hrel
        clear HO HB
        have HOWN := hid hown
        have HBEL := hid hbel
        have hszr := hbel.size
        clear hown
        rcases (show k = 0 ∨ k = 1 ∨ k = 2 by omega) with rfl | rfl | rfl
        · have y0 : wr.cell? ⟨R, 0, none⟩ = some (.slice a1 X.length c1) := (hbel.cell (p := ⟨R, 0, none⟩) hRlt).trans (box_cell HR.out 0)
          obtain ⟨v', w', r1, o1, g1, -⟩ := HOWN.out.app hszr a1 c1 X ((H1.out.below hbel).mono hszr) (by show 0 + _ ≤ _; omega)
          have HO : Hid (AL w.heap.size v' (partK X Y 1) w') := o1
          have HB' : Hid (Below w.heap.size w w') := HBEL.out.trans g1
          clear o1 g1 hbel
          go_wp2_with (at_builtin; refine wpList_append_run rfl (.tmp 31) (.tmp 32) 23 rfl _ _ rfl rfl _ _ r1 ?_)
          go_roundw
          case rel => exact ⟨1, _, by omega, by go_num, rfl, HO.out, HB'.out⟩
          case measure => simp [intOf]
        · have y0 : wr.cell? ⟨R, 1, none⟩ = some (.slice a2 Y.length c2) := (hbel.cell (p := ⟨R, 1, none⟩) hRlt).trans (box_cell HR.out 1)
          obtain ⟨v', w', r1, o1, g1, -⟩ := HOWN.out.app hszr a2 c2 Y ((H2.out.below hbel).mono hszr) (by show X.length + _ ≤ _; omega)
          have HO : Hid (AL w.heap.size v' (partK X Y 2) w') := o1
          have HB' : Hid (Below w.heap.size w w') := HBEL.out.trans g1
          clear o1 g1 hbel
          go_wp2_with (at_builtin; refine wpList_append_run rfl (.tmp 31) (.tmp 32) 23 rfl _ _ rfl rfl _ _ r1 ?_)
          go_roundw
          case rel => exact ⟨2, _, by omega, by go_num, rfl, HO.out, HB'.out⟩
          case measure => simp [intOf]
        · clear hbel
          go_wp2_with fail
          go_ret
          exact ⟨_, rfl, HOWN.out, HBEL.out⟩
set_option maxHeartbeats 400000 in
theorem up1_any (s x : Int) (B : Nat) (w : World) (h : w.cell? ⟨B, 0, none⟩ = some (.int .i64 s)) : Calls Try.prog 49 #[.int .i64 x, .pointer (some ⟨B, 0, none⟩)] w fun e w' => e = .returned (.bool (decide (s ≤ x))) ∧ w' = w := by
  go_enter Try.func49, Try.ntmps49
  go_wp2
  go_ret
  exact ⟨rfl, rfl⟩
set_option maxHeartbeats 2000000 in
theorem parted_up1 (s : Int) (B : Nat) (a : Option Addr) (cap : Nat) (l : List Int) (w : World) (hn : l.length ≤ 4000) (hZ : Is w.heap.size a l w) (hB : B < w.heap.size) (hs : w.cell? ⟨B, 0, none⟩ = some (.int .i64 s)) :
    Calls Try.prog 45 #[.slice a l.length cap, .func (.func 49) #[] #[.pointer (some ⟨B, 0, none⟩)]] w fun e w' => ∃ u v, e = .returned (.tuple #[u, v]) ∧ AL2 w.heap.size u (l.filter fun x => decide (s ≤ x)) v (l.filter fun x => !decide (s ≤ x)) w' ∧ Below w.heap.size w w' := by
  have HZ := hid hZ
  have HC : Hid (∀ x v, Below w.heap.size w v → Calls Try.prog 49 #[.int .i64 x, .pointer (some ⟨B, 0, none⟩)] v fun e w' => e = .returned (.bool (decide (s ≤ x))) ∧ w' = v) := fun x v g => up1_any s x B v ((g.cell (p := ⟨B, 0, none⟩) hB).trans hs)
  clear hZ hs
  go_enter Try.func45, Try.ntmps45
  go_wp2_with fail
  go_loopw [6, 7, 12] (fun o p i wr => ∃ (k : Nat) (o1 p1 : Value), k ≤ l.length ∧ i = .int .i64 k ∧ o = o1 ∧ p = p1 ∧ AL2 w.heap.size o1 ((l.take k).filter fun x => decide (s ≤ x)) p1 ((l.take k).filter fun x => !decide (s ≤ x)) wr ∧ Below w.heap.size w wr) (fun _ _ i _ => l.length - (intOf i).toNat)
  case atStart => exact ⟨0, _, _, Nat.zero_le _, rfl, rfl, rfl, AL2.nil _ _, Below.refl _ _⟩
  case round =>
    obtain ⟨k, _, _, hk, rfl, rfl, rfl, hown, hbel⟩ := hrel
    have HOWN := hid hown
    have HBEL := hid hbel
    have hszr := hbel.size
    clear hown hbel
    by_cases hlt : k < l.length
    · obtain ⟨b, off, rfl, hb, hc⟩ := HZ.out.cell (by omega)
      have x0 := (HBEL.out.cell (p := ⟨b, off + k, none⟩) hb).trans (hc k hlt)
      have HY := hid (filter_snoc_yes (fun x => decide (s ≤ x)) l k hlt)
      have HN := hid (filter_snoc_no (fun x => decide (s ≤ x)) l k hlt)
      have HY2 := hid (filter_snoc_yes (fun x => !decide (s ≤ x)) l k hlt)
      have HN2 := hid (filter_snoc_no (fun x => !decide (s ≤ x)) l k hlt)
      have hl1 := filter_take_len (fun x => decide (s ≤ x)) l k
      have hl2 := filter_take_len (fun x => !decide (s ≤ x)) l k
      clear hc
      generalize l[k] = x at *
      go_wp2_with fail
      refine (HC.out x wr HBEL.out).mono ?_
      rintro e w2 ⟨rfl, hw2⟩
      rw [hw2]
      clear hw2
      cases hq : decide (s ≤ x)
      · have e1 := HN.out hq
        have e2 := HY2.out (by simp only [hq]; rfl)
        obtain ⟨v', w', r1, o1, g1⟩ := HOWN.out.swap.push hszr x (by omega)
        rw [← e1, ← e2] at o1
        have HO := hid o1.swap
        have HB' : Hid (Below w.heap.size w w') := HBEL.out.trans g1
        clear o1 g1 HOWN HY HN HY2 HN2 e1 e2 hl1 hl2 hq
        go_wp2_with (at_builtin; refine wpList_append_run rfl (.tmp 23) (.tmp 25) 23 rfl _ _ rfl rfl _ _ r1 ?_)
        go_roundw
        case rel => exact ⟨k + 1, _, _, by omega, by go_num, rfl, rfl, HO.out, HB'.out⟩
        case measure => simp [intOf]; omega
      · have e1 := HY.out hq
        have e2 := HN2.out (by simp only [hq]; rfl)
        obtain ⟨v', w', r1, o1, g1⟩ := HOWN.out.push hszr x (by omega)
        rw [← e1, ← e2] at o1
        have HO := hid o1
        have HB' : Hid (Below w.heap.size w w') := HBEL.out.trans g1
        clear o1 g1 HOWN HY HN HY2 HN2 e1 e2 hl1 hl2 hq
        go_wp2_with (at_builtin; refine wpList_append_run rfl (.tmp 19) (.tmp 21) 23 rfl _ _ rfl rfl _ _ r1 ?_)
        go_roundw
        case rel => exact ⟨k + 1, _, _, by omega, by go_num, rfl, rfl, HO.out, HB'.out⟩
        case measure => simp [intOf]; omega
    · obtain rfl : k = l.length := by omega
      rw [List.take_length] at HOWN
      go_wp2_with fail
      go_ret2
      exact ⟨_, _, rfl, HOWN.out, HBEL.out⟩
set_option maxHeartbeats 400000 in
theorem down1_any (s x : Int) (B : Nat) (w : World) (h : w.cell? ⟨B, 0, none⟩ = some (.int .i64 s)) : Calls Try.prog 51 #[.int .i64 x, .pointer (some ⟨B, 0, none⟩)] w fun e w' => e = .returned (.bool (decide (x ≤ s))) ∧ w' = w := by
  go_enter Try.func51, Try.ntmps51
  go_wp2
  go_ret
  exact ⟨rfl, rfl⟩
set_option maxHeartbeats 2000000 in
theorem parted_down1 (s : Int) (B : Nat) (a : Option Addr) (cap : Nat) (l : List Int) (w : World) (hn : l.length ≤ 4000) (hZ : Is w.heap.size a l w) (hB : B < w.heap.size) (hs : w.cell? ⟨B, 0, none⟩ = some (.int .i64 s)) :
    Calls Try.prog 45 #[.slice a l.length cap, .func (.func 51) #[] #[.pointer (some ⟨B, 0, none⟩)]] w fun e w' => ∃ u v, e = .returned (.tuple #[u, v]) ∧ AL2 w.heap.size u (l.filter fun x => decide (x ≤ s)) v (l.filter fun x => !decide (x ≤ s)) w' ∧ Below w.heap.size w w' := by
  have HZ := hid hZ
  have HC : Hid (∀ x v, Below w.heap.size w v → Calls Try.prog 51 #[.int .i64 x, .pointer (some ⟨B, 0, none⟩)] v fun e w' => e = .returned (.bool (decide (x ≤ s))) ∧ w' = v) := fun x v g => down1_any s x B v ((g.cell (p := ⟨B, 0, none⟩) hB).trans hs)
  clear hZ hs
  go_enter Try.func45, Try.ntmps45
  go_wp2_with fail
  go_loopw [6, 7, 12] (fun o p i wr => ∃ (k : Nat) (o1 p1 : Value), k ≤ l.length ∧ i = .int .i64 k ∧ o = o1 ∧ p = p1 ∧ AL2 w.heap.size o1 ((l.take k).filter fun x => decide (x ≤ s)) p1 ((l.take k).filter fun x => !decide (x ≤ s)) wr ∧ Below w.heap.size w wr) (fun _ _ i _ => l.length - (intOf i).toNat)
  case atStart => exact ⟨0, _, _, Nat.zero_le _, rfl, rfl, rfl, AL2.nil _ _, Below.refl _ _⟩
  case round =>
    obtain ⟨k, _, _, hk, rfl, rfl, rfl, hown, hbel⟩ := hrel
    have HOWN := hid hown
    have HBEL := hid hbel
    have hszr := hbel.size
    clear hown hbel
    by_cases hlt : k < l.length
    · obtain ⟨b, off, rfl, hb, hc⟩ := HZ.out.cell (by omega)
      have x0 := (HBEL.out.cell (p := ⟨b, off + k, none⟩) hb).trans (hc k hlt)
      have HY := hid (filter_snoc_yes (fun x => decide (x ≤ s)) l k hlt)
      have HN := hid (filter_snoc_no (fun x => decide (x ≤ s)) l k hlt)
      have HY2 := hid (filter_snoc_yes (fun x => !decide (x ≤ s)) l k hlt)
      have HN2 := hid (filter_snoc_no (fun x => !decide (x ≤ s)) l k hlt)
      have hl1 := filter_take_len (fun x => decide (x ≤ s)) l k
      have hl2 := filter_take_len (fun x => !decide (x ≤ s)) l k
      clear hc
      generalize l[k] = x at *
      go_wp2_with fail
      refine (HC.out x wr HBEL.out).mono ?_
      rintro e w2 ⟨rfl, hw2⟩
      rw [hw2]
      clear hw2
      cases hq : decide (x ≤ s)
      · have e1 := HN.out hq
        have e2 := HY2.out (by simp only [hq]; rfl)
        obtain ⟨v', w', r1, o1, g1⟩ := HOWN.out.swap.push hszr x (by omega)
        rw [← e1, ← e2] at o1
        have HO := hid o1.swap
        have HB' : Hid (Below w.heap.size w w') := HBEL.out.trans g1
        clear o1 g1 HOWN HY HN HY2 HN2 e1 e2 hl1 hl2 hq
        go_wp2_with (at_builtin; refine wpList_append_run rfl (.tmp 23) (.tmp 25) 23 rfl _ _ rfl rfl _ _ r1 ?_)
        go_roundw
        case rel => exact ⟨k + 1, _, _, by omega, by go_num, rfl, rfl, HO.out, HB'.out⟩
        case measure => simp [intOf]; omega
      · have e1 := HY.out hq
        have e2 := HN2.out (by simp only [hq]; rfl)
        obtain ⟨v', w', r1, o1, g1⟩ := HOWN.out.push hszr x (by omega)
        rw [← e1, ← e2] at o1
        have HO := hid o1
        have HB' : Hid (Below w.heap.size w w') := HBEL.out.trans g1
        clear o1 g1 HOWN HY HN HY2 HN2 e1 e2 hl1 hl2 hq
        go_wp2_with (at_builtin; refine wpList_append_run rfl (.tmp 19) (.tmp 21) 23 rfl _ _ rfl rfl _ _ r1 ?_)
        go_roundw
        case rel => exact ⟨k + 1, _, _, by omega, by go_num, rfl, rfl, HO.out, HB'.out⟩
        case measure => simp [intOf]; omega
    · obtain rfl : k = l.length := by omega
      rw [List.take_length] at HOWN
      go_wp2_with fail
      go_ret2
      exact ⟨_, _, rfl, HOWN.out, HBEL.out⟩
set_option maxHeartbeats 400000 in
theorem round1_any (s x : Int) (B : Nat) (w : World) (h : w.cell? ⟨B, 0, none⟩ = some (.int .i64 s)) : Calls Try.prog 46 #[.int .i64 x, .pointer (some ⟨B, 0, none⟩)] w fun e w' => e = .returned (.bool (decide (s ≤ x))) ∧ w' = w := by
  go_enter Try.func46, Try.ntmps46
  go_wp2
  go_ret
  exact ⟨rfl, rfl⟩
set_option maxHeartbeats 2000000 in
theorem parted_round1 (s : Int) (B : Nat) (a : Option Addr) (cap : Nat) (l : List Int) (w : World) (hn : l.length ≤ 4000) (hZ : Is w.heap.size a l w) (hB : B < w.heap.size) (hs : w.cell? ⟨B, 0, none⟩ = some (.int .i64 s)) :
    Calls Try.prog 45 #[.slice a l.length cap, .func (.func 46) #[] #[.pointer (some ⟨B, 0, none⟩)]] w fun e w' => ∃ u v, e = .returned (.tuple #[u, v]) ∧ AL2 w.heap.size u (l.filter fun x => decide (s ≤ x)) v (l.filter fun x => !decide (s ≤ x)) w' ∧ Below w.heap.size w w' := by
  have HZ := hid hZ
  have HC : Hid (∀ x v, Below w.heap.size w v → Calls Try.prog 46 #[.int .i64 x, .pointer (some ⟨B, 0, none⟩)] v fun e w' => e = .returned (.bool (decide (s ≤ x))) ∧ w' = v) := fun x v g => round1_any s x B v ((g.cell (p := ⟨B, 0, none⟩) hB).trans hs)
  clear hZ hs
  go_enter Try.func45, Try.ntmps45
  go_wp2_with fail
  go_loopw [6, 7, 12] (fun o p i wr => ∃ (k : Nat) (o1 p1 : Value), k ≤ l.length ∧ i = .int .i64 k ∧ o = o1 ∧ p = p1 ∧ AL2 w.heap.size o1 ((l.take k).filter fun x => decide (s ≤ x)) p1 ((l.take k).filter fun x => !decide (s ≤ x)) wr ∧ Below w.heap.size w wr) (fun _ _ i _ => l.length - (intOf i).toNat)
  case atStart => exact ⟨0, _, _, Nat.zero_le _, rfl, rfl, rfl, AL2.nil _ _, Below.refl _ _⟩
  case round =>
    obtain ⟨k, _, _, hk, rfl, rfl, rfl, hown, hbel⟩ := hrel
    have HOWN := hid hown
    have HBEL := hid hbel
    have hszr := hbel.size
    clear hown hbel
    by_cases hlt : k < l.length
    · obtain ⟨b, off, rfl, hb, hc⟩ := HZ.out.cell (by omega)
      have x0 := (HBEL.out.cell (p := ⟨b, off + k, none⟩) hb).trans (hc k hlt)
      have HY := hid (filter_snoc_yes (fun x => decide (s ≤ x)) l k hlt)
      have HN := hid (filter_snoc_no (fun x => decide (s ≤ x)) l k hlt)
      have HY2 := hid (filter_snoc_yes (fun x => !decide (s ≤ x)) l k hlt)
      have HN2 := hid (filter_snoc_no (fun x => !decide (s ≤ x)) l k hlt)
      have hl1 := filter_take_len (fun x => decide (s ≤ x)) l k
      have hl2 := filter_take_len (fun x => !decide (s ≤ x)) l k
      clear hc
      generalize l[k] = x at *
      go_wp2_with fail
      refine (HC.out x wr HBEL.out).mono ?_
      rintro e w2 ⟨rfl, hw2⟩
      rw [hw2]
      clear hw2
      cases hq : decide (s ≤ x)
      · have e1 := HN.out hq
        have e2 := HY2.out (by simp only [hq]; rfl)
        obtain ⟨v', w', r1, o1, g1⟩ := HOWN.out.swap.push hszr x (by omega)
        rw [← e1, ← e2] at o1
        have HO := hid o1.swap
        have HB' : Hid (Below w.heap.size w w') := HBEL.out.trans g1
        clear o1 g1 HOWN HY HN HY2 HN2 e1 e2 hl1 hl2 hq
        go_wp2_with (at_builtin; refine wpList_append_run rfl (.tmp 23) (.tmp 25) 23 rfl _ _ rfl rfl _ _ r1 ?_)
        go_roundw
        case rel => exact ⟨k + 1, _, _, by omega, by go_num, rfl, rfl, HO.out, HB'.out⟩
        case measure => simp [intOf]; omega
      · have e1 := HY.out hq
        have e2 := HN2.out (by simp only [hq]; rfl)
        obtain ⟨v', w', r1, o1, g1⟩ := HOWN.out.push hszr x (by omega)
        rw [← e1, ← e2] at o1
        have HO := hid o1
        have HB' : Hid (Below w.heap.size w w') := HBEL.out.trans g1
        clear o1 g1 HOWN HY HN HY2 HN2 e1 e2 hl1 hl2 hq
        go_wp2_with (at_builtin; refine wpList_append_run rfl (.tmp 19) (.tmp 21) 23 rfl _ _ rfl rfl _ _ r1 ?_)
        go_roundw
        case rel => exact ⟨k + 1, _, _, by omega, by go_num, rfl, rfl, HO.out, HB'.out⟩
        case measure => simp [intOf]; omega
    · obtain rfl : k = l.length := by omega
      rw [List.take_length] at HOWN
      go_wp2_with fail
      go_ret2
      exact ⟨_, _, rfl, HOWN.out, HBEL.out⟩
end Go.Proofs.Ytpjmblhfahbopaa
