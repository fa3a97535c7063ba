/- SumsOf: the program and the model. -/
import Derived.Test.YtipeillhafcliaaJPow
namespace Go.Proofs.Ytipeillhafcliaa
set_option maxRecDepth 100000
open Go Go.ChangeShapes Go.WideShapes Go.ChangeAt Go.RowKit
/-- the sum of the products of each k unlike ones (of a list turned round) -/
def symR : List Int → Nat → Int
  | _, 0 => 1
  | [], _ + 1 => 0
  | x :: r, k + 1 => symR r (k + 1) + x * symR r k
def sym (l : List Int) (k : Nat) : Int := symR l.reverse k
theorem sym_zero (l : List Int) : sym l 0 = 1 := by unfold sym; cases l.reverse <;> rfl
theorem sym_nil (k : Nat) : sym [] (k + 1) = 0 := rfl
theorem sym_snoc (l : List Int) (x : Int) (k : Nat) : sym (l ++ [x]) (k + 1) = sym l (k + 1) + x * sym l k := by
  unfold sym; rw [List.reverse_append]; rfl
theorem sym_take (l : List Int) (i k : Nat) (h : i < l.length) : sym (l.take (i + 1)) (k + 1) = sym (l.take i) (k + 1) + l[i] * sym (l.take i) k := by rw [take_snoc l i h, sym_snoc]
theorem sym_bnd {l : List Int} (h : few60 l) : ∀ i, i ≤ l.length →
    (0 ≤ sym (l.take i) 1 ∧ sym (l.take i) 1 ≤ 60 * (i : Int)) ∧ (0 ≤ sym (l.take i) 2 ∧ sym (l.take i) 2 ≤ 72000 * (i : Int)) ∧
    (0 ≤ sym (l.take i) 3 ∧ sym (l.take i) 3 ≤ 86400000 * (i : Int)) ∧ (0 ≤ sym (l.take i) 4 ∧ sym (l.take i) 4 ≤ 103680000000 * (i : Int))
  | 0, _ => by rw [List.take_zero]; exact ⟨by decide, by decide, by decide, by decide⟩
  | i + 1, hi => by
    obtain ⟨h1, h2, h3, h4⟩ := sym_bnd h i (by omega)
    have hl := h.1
    obtain ⟨a, b⟩ := h.2 i (by omega)
    have e1 : sym (l.take (i + 1)) 1 = sym (l.take i) 1 + l[i] * sym (l.take i) 0 := sym_take l i 0 (by omega)
    have e2 : sym (l.take (i + 1)) 2 = sym (l.take i) 2 + l[i] * sym (l.take i) 1 := sym_take l i 1 (by omega)
    have e3 : sym (l.take (i + 1)) 3 = sym (l.take i) 3 + l[i] * sym (l.take i) 2 := sym_take l i 2 (by omega)
    have e4 : sym (l.take (i + 1)) 4 = sym (l.take i) 4 + l[i] * sym (l.take i) 3 := sym_take l i 3 (by omega)
    rw [sym_zero] at e1
    rw [e1, e2, e3, e4]
    have m1 := mul60' (v := sym (l.take i) 1) (x := l[i]) (M := 1200) h1.1 (by omega) (by omega) b
    have m2 := mul60' (v := sym (l.take i) 2) (x := l[i]) (M := 1440000) h2.1 (by omega) (by omega) b
    have m3 := mul60' (v := sym (l.take i) 3) (x := l[i]) (M := 1728000000) h3.1 (by omega) (by omega) b
    rw [Int.mul_comm (sym (l.take i) 1)] at m1
    rw [Int.mul_comm (sym (l.take i) 2)] at m2
    rw [Int.mul_comm (sym (l.take i) 3)] at m3
    omega
theorem sym_small {l : List Int} (h : few60 l) (i k : Nat) (hi : i ≤ l.length) (hk : k ≤ 4) : 0 ≤ sym (l.take i) k ∧ sym (l.take i) k ≤ 2073600000000 := by
  obtain ⟨h1, h2, h3, h4⟩ := sym_bnd h i hi
  have hl := h.1
  have : k = 0 ∨ k = 1 ∨ k = 2 ∨ k = 3 ∨ k = 4 := by omega
  rcases this with rfl | rfl | rfl | rfl | rfl
  · rw [sym_zero]; omega
  · omega
  · omega
  · omega
  · omega
def symL (l : List Int) (n : Nat) : List Int := (List.range (n + 1)).map fun k => sym l k
def symT (l : List Int) (n : Nat) : List Int := (List.range n).map fun k => sym l (k + 1)
theorem symL_len (l : List Int) (n : Nat) : (symL l n).length = n + 1 := by simp [symL]
theorem symT_len (l : List Int) (n : Nat) : (symT l n).length = n := by simp [symT]
theorem symL_cons (l : List Int) (n : Nat) : symL l n = 1 :: symT l n := by
  unfold symL symT
  rw [List.range_succ_eq_map, List.map_cons, List.map_map, sym_zero]
  rfl
theorem symL_nil (n : Nat) : (List.replicate (n + 1) (0 : Int)).set 0 1 = symL [] n := by
  rw [symL_cons, List.replicate_succ, List.set_cons_zero]
  congr 1
  apply List.ext_getElem
  · simp [symT]
  · intro m h1 h2
    simp [symT, sym_nil]
/-- the sums when number i has been put in down to place j -/
def symM (l : List Int) (n i j : Nat) : List Int := (List.range (n + 1)).map fun k => sym (l.take (if j < k then i + 1 else i)) k
theorem symM_len (l : List Int) (n i j : Nat) : (symM l n i j).length = n + 1 := by simp [symM]
theorem symM_start (l : List Int) (n i : Nat) : symM l n i n = symL (l.take i) n := by
  unfold symM symL
  refine List.map_congr_left fun k hk => ?_
  rw [if_neg (by have := List.mem_range.1 hk; omega)]
theorem symM_end (l : List Int) (n i : Nat) : symM l n i 0 = symL (l.take (i + 1)) n := by
  unfold symM symL
  refine List.map_congr_left fun k hk => ?_
  cases k with
  | zero => rw [sym_zero, sym_zero]
  | succ k => rw [if_pos (by omega)]
theorem symM_at (l : List Int) (n i j k : Nat) (hk : k ≤ j) (h : k < (symM l n i j).length) : (symM l n i j)[k] = sym (l.take i) k := by
  simp only [symM, List.getElem_map, List.getElem_range]
  rw [if_neg (by omega)]
theorem symM_set (l : List Int) (n i m : Nat) (hi : i < l.length) : (symM l n i (m + 1)).set (m + 1) (sym (l.take i) (m + 1) + l[i] * sym (l.take i) m) = symM l n i m := by
  apply List.ext_getElem
  · simp [symM]
  · intro k h1 h2
    rw [List.getElem_set]
    by_cases e : m + 1 = k
    · subst e
      rw [if_pos rfl, ← sym_take l i m hi]
      simp [symM]
    · rw [if_neg e]
      simp only [symM, List.getElem_map, List.getElem_range]
      by_cases e2 : m + 1 < k
      · rw [if_pos e2, if_pos (by omega)]
      · rw [if_neg e2, if_neg (by omega)]
def symV (l : List Int) (n : Int) : List Int := bif powOk l n then symT l n.toNat else []
theorem symV_yes {l : List Int} {n : Int} (h : powOk l n = true) : symV l n = symT l n.toNat := by unfold symV; rw [h]; rfl
theorem symV_no {l : List Int} {n : Int} (h : powOk l n = false) : symV l n = [] := by unfold symV; rw [h]; rfl
theorem symV_len (l : List Int) (n : Int) : (symV l n).length ≤ 4 := by
  cases h : powOk l n
  · rw [symV_no h]; exact Nat.zero_le _
  · rw [symV_yes h, symT_len]
    unfold powOk at h
    rw [Bool.and_eq_true] at h
    have := uptoB_iff.1 h.2
    omega
theorem JOut.tail {V : List Int} {R n : Nat} {x : Int} {w w' : World} (h : IRow R (x :: V) w') (hR : w.heap.size ≤ R) (g : Below w.heap.size w w') (hn : V.length = n) : JOut V true w (.returned (.tuple #[.slice (some ⟨R, 1, none⟩) n n, .bool true])) w' :=
  ⟨some ⟨R, 1, none⟩, n, by rw [hn], Or.inr ⟨R, 1, [x], hR, h.lt, rfl, rfl, h⟩, g, by omega⟩
theorem JOut.nil {a : Option Addr} {n c : Nat} {w w' : World} (g : Below w.heap.size w w') (h : n = 0) : JOut [] true w (.returned (.tuple #[.slice a n c, .bool true])) w' := by
  subst h
  exact ⟨a, c, rfl, Or.inl rfl, g, Nat.zero_le _⟩
set_option maxHeartbeats 1000000 in
theorem iSums_no (a : Option Addr) (cap : Nat) (l : List Int) (n : Int) (w : World) (hn : l.length ≤ 1048576) (hZ : Is w.heap.size a l w) (hg : powOk l n = false) :
    Calls Try.prog 8 #[.slice a l.length cap, .int .i64 n] w (JOut [] false w) := by
  have HG := hid (igoodS_any a cap l w hn hZ)
  have HU := hid (isUpto_any n w)
  cases h1 : goodS l
  · rw [h1] at HG
    go_enter Try.func8, Try.ntmps8
    go_wp2_with fail
    refine HG.out.mono ?_
    rintro e w2 ⟨rfl, hw2⟩
    rw [hw2]
    clear hw2
    go_wp2
    go_ret2
    exact JOut.no (Below.refl _ _)
  · cases h2 : uptoB n
    · rw [h1] at HG
      rw [h2] at HU
      go_enter Try.func8, Try.ntmps8
      go_wp2_with fail
      refine HG.out.mono ?_
      rintro e w2 ⟨rfl, hw2⟩
      rw [hw2]
      clear hw2
      go_wp2_with fail
      refine HU.out.mono ?_
      rintro e w2 ⟨rfl, hw2⟩
      rw [hw2]
      clear hw2
      go_wp2
      go_ret2
      exact JOut.no (Below.refl _ _)
    · rw [powOk_yes h1 h2] at hg; cases hg
set_option maxHeartbeats 4000000 in
theorem iSums_yes (a : Option Addr) (cap : Nat) (l : List Int) (n : Nat) (w : World) (hn : l.length ≤ 1048576) (hZ : Is w.heap.size a l w) (hg : goodS l = true) (h4 : n ≤ 4) :
    Calls Try.prog 8 #[.slice a l.length cap, .int .i64 (n : Int)] w (JOut (symT l n) true w) := by
  have HG := hid (igoodS_any a cap l w hn hZ)
  have HU := hid (isUpto_any (n : Int) w)
  rw [hg] at HG
  rw [uptoB_iff.2 (show (0 : Int) ≤ (n : Int) ∧ (n : Int) ≤ 4 by omega)] at HU
  have HF := hid (goodS_few hg)
  have hl20 := HF.out.1
  have HZ := hid hZ
  have hmk := make_ints (n + 1) (by omega)
  have hr0 := IRow.made w (n + 1)
  have e1 : ((n + 1 : Nat) : Int) = (n : Int) + 1 := by omega
  rw [e1] at hmk
  generalize madeCells (Value.int .i64 0).cells (n + 1) = M at *
  have c0 := hr0.cell 0 (by simp)
  have f0 := hr0.free 0 (by simp)
  have hr1 := hr0.set 0 (by simp) 1
  rw [symL_nil] at hr1
  have HR := hid hr1
  have HB0 : Hid (Below w.heap.size w (w.alloc (.cells M 3))) := (Below.refl _ _).alloc (Nat.le_refl _) _
  generalize hW : w.alloc (.cells M 3) = W at *
  have hi0 : (0 : Int) < (n : Int) + 1 := by omega
  clear hr0 hr1 hg hZ e1
  rw [List.getElem_replicate] at c0
  go_enter Try.func8, Try.ntmps8
  go_wp2_with fail
  refine HG.out.mono ?_
  rintro e w2 ⟨rfl, hw2⟩
  rw [hw2]
  clear hw2
  go_wp2_with fail
  refine HU.out.mono ?_
  rintro e w2 ⟨rfl, hw2⟩
  rw [hw2]
  clear hw2 HG HU
  go_wp2
  clear c0 f0
  go_loopw [25] (fun i wr => ∃ k : Nat, k ≤ l.length ∧ i = .int .i64 k ∧ IRow w.heap.size (symL (l.take k) n) wr ∧ Below w.heap.size w wr) (fun i _ => l.length - (intOf i).toNat)
  case atStart => exact ⟨0, Nat.zero_le _, rfl, HR.out, HB0.out.setCell (Nat.le_refl _) _⟩
  case round =>
    obtain ⟨i, hi, rfl, hrow, hbel⟩ := hrel
    have HROW := hid hrow
    have HBEL := hid hbel
    by_cases hlt : i < l.length
    · obtain ⟨b, off, rfl, hb, hc⟩ := HZ.out.cell (by omega)
      have x0 := (hbel.cell (p := ⟨b, off + i, none⟩) hb).trans (hc i hlt)
      have HX := hid (HF.out.2 i hlt)
      have HXX := hid (symM_set l n i · hlt)
      clear hc hrow hbel
      generalize l[i] = x at *
      go_wp2
      go_loopw [9] (fun j wr2 => ∃ k : Nat, k ≤ n ∧ j = .int .i64 k ∧ IRow w.heap.size (symM l n i k) wr2 ∧ Below w.heap.size w wr2) (fun j _ => (intOf j).toNat)
      case atStart => exact ⟨n, Nat.le_refl _, rfl, by rw [symM_start]; exact HROW.out, HBEL.out⟩
      case round =>
        obtain ⟨j, hj, rfl, hrow2, hbel2⟩ := hrel
        have HROW2 := hid hrow2
        have HBEL2 := hid hbel2
        rcases Nat.eq_zero_or_pos j with rfl | hj0
        · rw [symM_end] at HROW2
          clear hrow2 hbel2
          go_wp2
          go_roundw
          case rel => exact ⟨i + 1, by omega, by go_num, HROW2.out, HBEL2.out⟩
          case measure => simp [intOf]; omega
        · obtain ⟨m, rfl⟩ : ∃ m, j = m + 1 := ⟨j - 1, by omega⟩
          have hlen := symM_len l n i (m + 1)
          have y0 := hrow2.cell (m + 1) (by omega)
          have y1 := hrow2.cell m (by omega)
          have f0 := hrow2.free (m + 1) (by omega)
          rw [symM_at l n i (m + 1) (m + 1) (Nat.le_refl _)] at y0
          rw [symM_at l n i (m + 1) m (by omega)] at y1
          have HB1 := hid (sym_small HF.out i (m + 1) (by omega) (by omega))
          have HB2 := hid (sym_small HF.out i m (by omega) (by omega))
          have HM := hid (mul60' HB2.out.1 HB2.out.2 (show 0 ≤ x by have := HX.out; omega) HX.out.2)
          rw [Int.mul_comm] at HM
          have hs : (symM l n i (m + 1)).set (m + 1) (sym (l.take i) (m + 1) + x * sym (l.take i) m) = symM l n i m := HXX.out m
          have q := hrow2.set (m + 1) (by omega) (sym (l.take i) (m + 1) + x * sym (l.take i) m)
          rw [hs] at q
          have HQ := hid q
          clear q hs hrow2 hbel2 hlen
          generalize sym (l.take i) (m + 1) = s1 at *
          generalize sym (l.take i) m = s0 at *
          have hw1 : IntKind.i64.wrap (x * s0) = x * s0 := by rw [IntKind.wrap_i64]; have := HM.out; omega
          have hw2 : IntKind.i64.wrap (s1 + x * s0) = s1 + x * s0 := by rw [IntKind.wrap_i64]; have := HM.out; have := HB1.out; omega
          have hjw : IntKind.i64.wrap (((m + 1 : Nat) : Int) - 1) = (m : Int) := by rw [IntKind.wrap_i64]; omega
          have hjw2 : IntKind.i64.wrap ((m : Int) + 1 - 1) = (m : Int) := by rw [IntKind.wrap_i64]; omega
          have hm0 : (m : Int) + 1 - 1 = (m : Int) := by omega
          have i1 : (m : Int) < (n : Int) + 1 := by omega
          have i2 : (m : Int) + 1 < (n : Int) + 1 := by omega
          have i3 : m + 1 < n + 1 := by omega
          have i4 : m < n + 1 := by omega
          have d1 : decide ((0 : Int) < ((m + 1 : Nat) : Int)) = true := decide_eq_true (by omega)
          have d2 : decide ((1 : Int) ≤ ((m + 1 : Nat) : Int)) = true := decide_eq_true (by omega)
          have hwm : IntKind.i64.wrap (m : Int) = (m : Int) := by rw [IntKind.wrap_i64]; omega
          clear HB1 HB2 HM
          go_wp2_with fail
          go_big_region
          go_wp2
          go_roundw
          case rel => exact ⟨m, by omega, by go_num, HQ.out.drewI, (HBEL2.out.setCell (Nat.le_refl _) _).drew⟩
          case measure => simp [intOf] <;> omega
    · obtain rfl : i = l.length := by omega
      rw [List.take_length, symL_cons] at HROW
      clear hrow hbel
      rcases Nat.eq_zero_or_pos n with rfl | hn0
      · go_wp2
        go_ret2
        exact JOut.nil HBEL.out rfl
      · have i5 : ¬ n + 1 = 1 := by omega
        have i6 : n + 1 - 1 = n := by omega
        have i7 : (1 : Int) ≤ (n : Int) + 1 := by omega
        go_wp2
        go_ret2
        first
          | exact JOut.tail HROW.out (Nat.le_refl _) HBEL.out (symT_len l n)
          | (simp only [Nat.add_sub_cancel]; exact JOut.tail HROW.out (Nat.le_refl _) HBEL.out (symT_len l n))
theorem iSums_any (a : Option Addr) (cap : Nat) (l : List Int) (n : Int) (w : World) (hn : l.length ≤ 1048576) (hZ : Is w.heap.size a l w) :
    Calls Try.prog 8 #[.slice a l.length cap, .int .i64 n] w (JOut (symV l n) (powOk l n) w) := by
  cases h : powOk l n
  · rw [symV_no h]; exact iSums_no a cap l n w hn hZ h
  · rw [symV_yes h]
    have h' := h
    unfold powOk at h'
    rw [Bool.and_eq_true] at h'
    have h2 := uptoB_iff.1 h'.2
    obtain ⟨m, rfl⟩ : ∃ m : Nat, n = (m : Int) := ⟨n.toNat, by omega⟩
    exact iSums_yes a cap l m w hn hZ h'.1 (by omega)
set_option maxHeartbeats 1000000 in
theorem sSums_no (a : Option Addr) (cap : Nat) (l : List Int) (n : Int) (w : World) (hn : l.length ≤ 1048576) (hZ : Is w.heap.size a l w) (hg : powOk l n = false) :
    Calls Try.prog 10 #[.slice a l.length cap, .int .i64 n] w (JOut [] false w) := by
  have HG := hid (sgoodS_any a cap l w hn hZ)
  have HU := hid (l12Upto_any n w)
  cases h1 : goodS l
  · rw [h1] at HG
    go_enter Try.func10, Try.ntmps10
    go_wp2_with fail
    refine HG.out.mono ?_
    rintro e w2 ⟨rfl, hw2⟩
    rw [hw2]
    clear hw2
    go_wp2
    go_ret2
    exact JOut.no (Below.refl _ _)
  · cases h2 : uptoB n
    · rw [h1] at HG
      rw [h2] at HU
      go_enter Try.func10, Try.ntmps10
      go_wp2_with fail
      refine HG.out.mono ?_
      rintro e w2 ⟨rfl, hw2⟩
      rw [hw2]
      clear hw2
      go_wp2_with fail
      refine HU.out.mono ?_
      rintro e w2 ⟨rfl, hw2⟩
      rw [hw2]
      clear hw2
      go_wp2
      go_ret2
      exact JOut.no (Below.refl _ _)
    · rw [powOk_yes h1 h2] at hg; cases hg
set_option maxHeartbeats 4000000 in
theorem sSums_yes (a : Option Addr) (cap : Nat) (l : List Int) (n : Nat) (w : World) (hn : l.length ≤ 1048576) (hZ : Is w.heap.size a l w) (hg : goodS l = true) (h4 : n ≤ 4) :
    Calls Try.prog 10 #[.slice a l.length cap, .int .i64 (n : Int)] w (JOut (symT l n) true w) := by
  have HG := hid (sgoodS_any a cap l w hn hZ)
  have HU := hid (l12Upto_any (n : Int) w)
  rw [hg] at HG
  rw [uptoB_iff.2 (show (0 : Int) ≤ (n : Int) ∧ (n : Int) ≤ 4 by omega)] at HU
  have HF := hid (goodS_few hg)
  have hl20 := HF.out.1
  have HZ := hid hZ
  have hmk := make_ints (n + 1) (by omega)
  have hr0 := IRow.made w (n + 1)
  have e1 : ((n + 1 : Nat) : Int) = (n : Int) + 1 := by omega
  rw [e1] at hmk
  generalize madeCells (Value.int .i64 0).cells (n + 1) = M at *
  have c0 := hr0.cell 0 (by simp)
  have f0 := hr0.free 0 (by simp)
  have hr1 := hr0.set 0 (by simp) 1
  rw [symL_nil] at hr1
  have HR := hid hr1
  have HB0 : Hid (Below w.heap.size w (w.alloc (.cells M 3))) := (Below.refl _ _).alloc (Nat.le_refl _) _
  generalize hW : w.alloc (.cells M 3) = W at *
  have hi0 : (0 : Int) < (n : Int) + 1 := by omega
  clear hr0 hr1 hg hZ e1
  rw [List.getElem_replicate] at c0
  go_enter Try.func10, Try.ntmps10
  go_wp2_with fail
  refine HG.out.mono ?_
  rintro e w2 ⟨rfl, hw2⟩
  rw [hw2]
  clear hw2
  go_wp2_with fail
  refine HU.out.mono ?_
  rintro e w2 ⟨rfl, hw2⟩
  rw [hw2]
  clear hw2 HG HU
  go_wp2
  clear c0 f0
  go_loopw [25] (fun i wr => ∃ k : Nat, k ≤ l.length ∧ i = .int .i64 k ∧ IRow w.heap.size (symL (l.take k) n) wr ∧ Below w.heap.size w wr) (fun i _ => l.length - (intOf i).toNat)
  case atStart => exact ⟨0, Nat.zero_le _, rfl, HR.out, HB0.out.setCell (Nat.le_refl _) _⟩
  case round =>
    obtain ⟨i, hi, rfl, hrow, hbel⟩ := hrel
    have HROW := hid hrow
    have HBEL := hid hbel
    by_cases hlt : i < l.length
    · obtain ⟨b, off, rfl, hb, hc⟩ := HZ.out.cell (by omega)
      have x0 := (hbel.cell (p := ⟨b, off + i, none⟩) hb).trans (hc i hlt)
      have HX := hid (HF.out.2 i hlt)
      have HXX := hid (symM_set l n i · hlt)
      clear hc hrow hbel
      generalize l[i] = x at *
      go_wp2
      go_loopw [9] (fun j wr2 => ∃ k : Nat, k ≤ n ∧ j = .int .i64 k ∧ IRow w.heap.size (symM l n i k) wr2 ∧ Below w.heap.size w wr2) (fun j _ => (intOf j).toNat)
      case atStart => exact ⟨n, Nat.le_refl _, rfl, by rw [symM_start]; exact HROW.out, HBEL.out⟩
      case round =>
        obtain ⟨j, hj, rfl, hrow2, hbel2⟩ := hrel
        have HROW2 := hid hrow2
        have HBEL2 := hid hbel2
        rcases Nat.eq_zero_or_pos j with rfl | hj0
        · rw [symM_end] at HROW2
          clear hrow2 hbel2
          go_wp2
          go_roundw
          case rel => exact ⟨i + 1, by omega, by go_num, HROW2.out, HBEL2.out⟩
          case measure => simp [intOf]; omega
        · obtain ⟨m, rfl⟩ : ∃ m, j = m + 1 := ⟨j - 1, by omega⟩
          have hlen := symM_len l n i (m + 1)
          have y0 := hrow2.cell (m + 1) (by omega)
          have y1 := hrow2.cell m (by omega)
          have f0 := hrow2.free (m + 1) (by omega)
          rw [symM_at l n i (m + 1) (m + 1) (Nat.le_refl _)] at y0
          rw [symM_at l n i (m + 1) m (by omega)] at y1
          have HB1 := hid (sym_small HF.out i (m + 1) (by omega) (by omega))
          have HB2 := hid (sym_small HF.out i m (by omega) (by omega))
          have HM := hid (mul60' HB2.out.1 HB2.out.2 (show 0 ≤ x by have := HX.out; omega) HX.out.2)
          rw [Int.mul_comm] at HM
          have hs : (symM l n i (m + 1)).set (m + 1) (sym (l.take i) (m + 1) + x * sym (l.take i) m) = symM l n i m := HXX.out m
          have q := hrow2.set (m + 1) (by omega) (sym (l.take i) (m + 1) + x * sym (l.take i) m)
          rw [hs] at q
          have HQ := hid q
          clear q hs hrow2 hbel2 hlen
          generalize sym (l.take i) (m + 1) = s1 at *
          generalize sym (l.take i) m = s0 at *
          have hw1 : IntKind.i64.wrap (x * s0) = x * s0 := by rw [IntKind.wrap_i64]; have := HM.out; omega
          have hw2 : IntKind.i64.wrap (s1 + x * s0) = s1 + x * s0 := by rw [IntKind.wrap_i64]; have := HM.out; have := HB1.out; omega
          have hjw : IntKind.i64.wrap (((m + 1 : Nat) : Int) - 1) = (m : Int) := by rw [IntKind.wrap_i64]; omega
          have hjw2 : IntKind.i64.wrap ((m : Int) + 1 - 1) = (m : Int) := by rw [IntKind.wrap_i64]; omega
          have hm0 : (m : Int) + 1 - 1 = (m : Int) := by omega
          have i1 : (m : Int) < (n : Int) + 1 := by omega
          have i2 : (m : Int) + 1 < (n : Int) + 1 := by omega
          have i3 : m + 1 < n + 1 := by omega
          have i4 : m < n + 1 := by omega
          have d1 : decide ((0 : Int) < ((m + 1 : Nat) : Int)) = true := decide_eq_true (by omega)
          have d2 : decide ((1 : Int) ≤ ((m + 1 : Nat) : Int)) = true := decide_eq_true (by omega)
          have hwm : IntKind.i64.wrap (m : Int) = (m : Int) := by rw [IntKind.wrap_i64]; omega
          clear HB1 HB2 HM
          go_wp2_with fail
          go_big_region
          go_wp2
          go_roundw
          case rel => exact ⟨m, by omega, by go_num, HQ.out.drewI, (HBEL2.out.setCell (Nat.le_refl _) _).drew⟩
          case measure => simp [intOf] <;> omega
    · obtain rfl : i = l.length := by omega
      rw [List.take_length, symL_cons] at HROW
      clear hrow hbel
      have hszr := HBEL.out.size
      have hW1 := boxB wr (.cells #[] 3)
      rcases Nat.eq_zero_or_pos n with rfl | hn0
      · have hT : symT l 0 = [] := rfl
        rw [hT]
        obtain ⟨v1, w1, r1, o1, g1, -⟩ := (AL.lit wr).app hW1.size (some ⟨w.heap.size, 0, none⟩) 0 [] (is_nil _ _ _) (by simp)
        have HO1 : Hid (AL w.heap.size v1 [] w1) := o1.mono hszr
        have HB1 : Hid (Below w.heap.size w w1) := HBEL.out.trans ((hW1.trans g1).mono hszr)
        rw [List.length_nil] at r1
        clear o1 g1 hW1 HROW HBEL
        go_wp2_with (at_builtin; refine wpList_append_run rfl (.tmp 48) (.tmp 50) 23 rfl _ _ rfl rfl _ _ r1 ?_)
        go_ret2
        exact JOut.yes HO1.out HB1.out
      · have i5 : ¬ n + 1 = 1 := by omega
        have i6 : n + 1 - 1 = n := by omega
        have i7 : (1 : Int) ≤ (n : Int) + 1 := by omega
        have hD := is_drop (HROW.out.sl HROW.out.lt) 1
        rw [List.drop_one, List.tail_cons, Nat.zero_add] at hD
        obtain ⟨v1, w1, r1, o1, g1, -⟩ := (AL.lit wr).app hW1.size (some ⟨w.heap.size, 1, none⟩) n (symT l n) ((hD.below hW1).mono hW1.size) (by rw [symT_len]; simp; omega)
        have HO1 : Hid (AL w.heap.size v1 (symT l n) w1) := o1.mono hszr
        have HB1 : Hid (Below w.heap.size w w1) := HBEL.out.trans ((hW1.trans g1).mono hszr)
        rw [symT_len] at r1
        clear o1 g1 hW1 HROW HBEL hD
        go_wp2_with (at_builtin; refine wpList_append_run rfl (.tmp 48) (.tmp 50) 23 rfl _ _ rfl rfl _ _ r1 ?_)
        go_ret2
        exact JOut.yes HO1.out HB1.out
theorem sSums_any (a : Option Addr) (cap : Nat) (l : List Int) (n : Int) (w : World) (hn : l.length ≤ 1048576) (hZ : Is w.heap.size a l w) :
    Calls Try.prog 10 #[.slice a l.length cap, .int .i64 n] w (JOut (symV l n) (powOk l n) w) := by
  cases h : powOk l n
  · rw [symV_no h]; exact sSums_no a cap l n w hn hZ h
  · rw [symV_yes h]
    have h' := h
    unfold powOk at h'
    rw [Bool.and_eq_true] at h'
    have h2 := uptoB_iff.1 h'.2
    obtain ⟨m, rfl⟩ : ∃ m : Nat, n = (m : Int) := ⟨n.toNat, by omega⟩
    exact sSums_yes a cap l m w hn hZ h'.1 (by omega)
end Go.Proofs.Ytipeillhafcliaa
