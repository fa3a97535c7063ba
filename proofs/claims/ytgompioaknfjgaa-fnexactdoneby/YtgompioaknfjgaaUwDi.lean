/- The program's DoneBy. -/
import Derived.Test.YtgompioaknfjgaaUwDp
import Derived.Test.YtgompioaknfjgaaUwGi
import Derived.Test.YtgompioaknfjgaaASrt
import Derived.Test.YtgompioaknfjgaaAShC
namespace Go.Proofs.Ytgompioaknfjgaa
set_option maxRecDepth 100000
open Go Go.ChangeShapes Go.WideShapes Go.ChangeAt Go.RowKit Go.Sort
/-- a list of one's own, sorted where it lies -/
theorem sortAL (lo : Nat) (v : Value) (l : List Int) (w : World) (hn : l.length ≤ 9000) (h : AL lo v l w) (hlo : lo ≤ w.heap.size) :
    Calls Try.prog 64 #[v] w fun e w' => e = .returned (.tuple #[]) ∧ AL lo v (sortN l) w' ∧ Below lo w w' := by
  have h9 : w.ownsRow lo 3 1 v l.length (ivals l) := h
  rcases h9.2 with ⟨rfl, hz⟩ | ⟨gb, cap, cur, rfl, hbase, hgb, r1, r2, r3, r4⟩
  · obtain rfl : l = [] := List.eq_nil_of_length_eq_zero hz
    exact (sortI_none none 0 w).mono fun e w' ⟨he, hw⟩ => ⟨he, by rw [hw]; exact h, by rw [hw]; exact Below.refl _ _⟩
  · have hH : Go.Sort.Holds (Value.int .i64) w gb 0 l.toArray := holds_of_block_i hgb (by rw [Nat.mul_one] at r4; exact r4)
    have hgl : gb < w.heap.size := (Array.getElem?_eq_some_iff.1 hgb).1
    refine (sortI_row gb 0 cap l w hH hgl (by omega)).mono ?_
    rintro e w' ⟨he, nn, os, rfl⟩
    refine ⟨he, ?_, below_of_grown (grownBy_sorted_i _) hlo (fun k hk => by cases hk; exact hbase)⟩
    have := ownsRow_sorted_i (n := nn) (os := os) (ts := l.mergeSort fun x y => decide (x ≤ y)) (by simp) hbase hgb r1 r2 r3
    unfold AL
    rw [sortN_len, ← merge_eq]
    exact this
/-- a list of one's own, made compact where it lies -/
theorem compAL (lo : Nat) (v : Value) (l : List Int) (w : World) (hn : l.length ≤ 9000) (h : AL lo v l w) (hlo : lo ≤ w.heap.size) :
    Calls Try.prog 65 #[v] w fun e w' => ∃ v', e = .returned v' ∧ AL lo v' (Lib.compact l) w' ∧ Below lo w w' := by
  have h9 : w.ownsRow lo 3 1 v l.length (ivals l) := h
  rcases h9.2 with ⟨rfl, hz⟩ | ⟨gb, cap, cur, rfl, hbase, hgb, r1, r2, r3, r4⟩
  · obtain rfl : l = [] := List.eq_nil_of_length_eq_zero hz
    exact (comI_none none 0 w).mono fun e w' ⟨he, hw⟩ => ⟨_, he, by rw [hw]; exact h, by rw [hw]; exact Below.refl _ _⟩
  · have hH : Go.Sort.Holds (Value.int .i64) w gb 0 l.toArray := holds_of_block_i hgb (by rw [Nat.mul_one] at r4; exact r4)
    have hcl := comp_len l
    refine (comI_row gb 0 cap l w hH (by omega) r1).mono ?_
    rintro e w' ⟨he, q, rfl⟩
    have hg0 := grownBy_sorted_i (w := w) (g := gb) (n := q) (os := #[]) (Lib.compact l ++ List.replicate (l.length - (Lib.compact l).length) 0).toArray
    have hh0 := heap_sorted_i (w := w) (g := gb) (n := q) (os := #[]) (Lib.compact l ++ List.replicate (l.length - (Lib.compact l).length) 0).toArray hgb
    have hgr : ∀ X : World, grow X #[] = X := fun X => by simp [grow]
    rw [hgr] at hg0 hh0
    refine ⟨_, he, ⟨by simp [ivals], Or.inr ⟨gb, cap, _, rfl, hbase, hh0, by omega, r2, by simp [putCells, r3], ?_⟩⟩, below_of_grown hg0 hlo (fun k hk => by cases hk; exact hbase)⟩
    have ht := take_putCells_i cur (Lib.compact l ++ List.replicate (l.length - (Lib.compact l).length) 0) (by simp; omega)
    have hlen : (Lib.compact l ++ List.replicate (l.length - (Lib.compact l).length) (0 : Int)).length = l.length := by simp; omega
    rw [hlen] at ht
    have ht2 := congrArg (List.take (Lib.compact l).length) ht
    rw [List.take_take, Nat.min_eq_left hcl, List.map_append, List.take_left' (by simp)] at ht2
    rw [Nat.mul_one]
    exact ht2
set_option maxHeartbeats 2000000 in
theorem idone_any (a : Option Addr) (ka : Nat) (l : List Nt) (w : World) (hn : l.length ≤ 1048576) (hZ : Nts w.heap.size a l w) :
    Calls Try.prog 35 #[.slice a l.length ka] w (LOut (doneV l) (doneOk l) w) := by
  have HZ := hid hZ
  have HG := hid (goodNotes_any a ka l w hn hZ)
  have EO : Hid (doneOk l = (decide (l.length ≤ 60) && l.all noteB)) := rfl
  have EV : Hid (doneV l = if doneOk l then dnF [] l else []) := rfl
  clear hZ
  rw [← EO.out] at HG
  cases hok : doneOk l
  · rw [hok] at HG
    have E1 : Hid (doneV l = []) := by show doneV l = []; rw [EV.out, hok]; rfl
    rw [E1.out]
    clear hok
    go_enter Try.func35, Try.ntmps35
    go_wp2_with fail
    refine HG.out.mono ?_
    rintro e w2 ⟨rfl, b2⟩
    have HB := hid b2
    clear b2 HG
    go_wp2_with fail
    go_ret2
    exact LOut.no (show Below w.heap.size w w2 from HB.out)
  · rw [hok] at HG
    have E1 : Hid (doneV l = dnF [] l) := by show doneV l = _; rw [EV.out, hok]; rfl
    have h60 : l.length ≤ 60 := by
      have := EO.out
      rw [hok] at this
      have h2 := this.symm
      rw [Bool.and_eq_true] at h2
      exact of_decide_eq_true h2.1
    rw [E1.out]
    clear hok
    go_enter Try.func35, Try.ntmps35
    go_wp2_with fail
    refine HG.out.mono ?_
    rintro e w2 ⟨rfl, b2⟩
    have HB := hid b2
    clear b2 HG
    go_wp2_with fail
    go_loopw [4, 12] (fun s i wr => ∃ (k : Nat) (v : Value), k ≤ l.length ∧ i = .int .i64 k ∧ s = v ∧ AL w.heap.size v (whoD (l.take k)) wr ∧ Below w.heap.size w wr) (fun _ i _ => l.length - (intOf i).toNat)
    case atStart => exact ⟨0, _, Nat.zero_le _, rfl, rfl, AL.nil _ _, HB.out⟩
    case round =>
      obtain ⟨k, v, hk, rfl, rfl, hal, hbel⟩ := hrel
      have HAL := hid hal
      have HBEL := hid hbel
      clear hal
      by_cases hlt : k < l.length
      · obtain ⟨b, off, rfl, hb, hc⟩ := (HZ.out.below hbel).cell (by omega)
        obtain ⟨y0, y1, y2, y3, y4⟩ := hc k hlt
        have HT := hid (whoD_take l k hlt)
        have hwl : (whoD (l.take k)).length ≤ 60 := by have := whoD_len (l.take k); rw [List.length_take] at this; omega
        have HWL := hid hwl
        clear hc hbel hwl
        generalize l[k].kd = p0 at *
        generalize l[k].wh = p1 at *
        generalize l[k].cl = p2 at *
        generalize l[k].ws = p3 at *
        generalize l[k].is = p4 at *
        have hbx := boxB wr (.cells #[.int .i64 p0, .int .i64 p1, .int .i64 p2, .int .i64 p3, .int .i64 p4] 67)
        have HL2 := hid (heap_last wr (.cells #[.int .i64 p0, .int .i64 p1, .int .i64 p2, .int .i64 p3, .int .i64 p4] 67))
        have HA2 := hid (HAL.out.below hbx)
        have HB2 := hid (HBEL.out.trans (hbx.mono HBEL.out.size))
        clear hbx
        go_upto_region 7 with fail
        generalize wr.alloc (.cells #[.int .i64 p0, .int .i64 p1, .int .i64 p2, .int .i64 p3, .int .i64 p4] 67) = W2 at *
        have z0 := box_cell HL2.out 0
        have z1 := box_cell HL2.out 1
        clear y0 y1 y2 y3 y4
        by_cases q : p0 = 3
        · have e1 : (p0 == 3) = true := beq_iff_eq.2 q
          have HT2 : Hid (whoD (l.take (k + 1)) = whoD (l.take k) ++ [p1]) := by show _ = _; rw [HT.out, if_pos q]
          clear q HT
          obtain ⟨v', w', r1, o1, g1', zz1, gb, -⟩ := HA2.out.push HB2.out.size p1 (by have := HWL.out; omega)
          have HO := hid o1
          have HBY := hid (HB2.out.trans g1')
          clear o1 g1' zz1 gb
          go_wp2_with (refine wpList_append_run rfl _ _ 22 rfl _ _ rfl rfl _ _ r1 ?_)
          go_roundw
          case rel => exact ⟨k + 1, v', by omega, by go_num, rfl, by rw [HT2.out]; exact HO.out, HBY.out⟩
          case measure => simp [intOf]; omega
        · have e1 : (p0 == 3) = false := beq_eq_false_iff_ne.2 q
          have HT2 : Hid (whoD (l.take (k + 1)) = whoD (l.take k)) := by show _ = _; rw [HT.out, if_neg q]
          clear q HT
          go_wp2_with fail
          go_roundw
          case rel => exact ⟨k + 1, _, by omega, by go_num, rfl, by rw [HT2.out]; exact HA2.out, HB2.out⟩
          case measure => simp [intOf]; omega
      obtain rfl : k = l.length := by omega
      rw [List.take_length] at HAL
      have hwl : (whoD l).length ≤ 60 := by have := whoD_len l; omega
      have HS := hid (sortAL w.heap.size _ (whoD l) wr (by omega) HAL.out HBEL.out.size)
      have HCE := hid (done_comp l)
      have hsl : (sortN (whoD l)).length ≤ 9000 := by rw [sortN_len]; omega
      have HSL := hid hsl
      clear hbel hwl hsl
      generalize sortN (whoD l) = SL at *
      go_wp2_with fail
      refine HS.out.mono ?_
      rintro e w3 ⟨rfl, o3, b3⟩
      have HB3 := hid (HBEL.out.trans b3)
      have HC := hid (compAL w.heap.size _ SL w3 HSL.out o3 HB3.out.size)
      clear o3 b3 HS
      go_wp2_with fail
      refine HC.out.mono ?_
      rintro e w4 ⟨v4, rfl, o4, b4⟩
      have HO4 := hid o4
      have HB4 := hid (HB3.out.trans b4)
      rw [HCE.out] at HO4
      clear o4 b4 HC
      go_wp2_with fail
      go_ret2
      exact LOut.yes HO4.out HB4.out
end Go.Proofs.Ytgompioaknfjgaa
