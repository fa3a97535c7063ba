/- PowerSums: the program and the model. -/
import Derived.Test.YtipeillhafcliaaJLess
namespace Go.Proofs.Ytipeillhafcliaa
set_option maxRecDepth 100000
open Go Go.ChangeShapes Go.WideShapes Go.ChangeAt Go.RowKit
theorem wrap_in64 (n : Int) (h : -9223372036854775808 ≤ n ∧ n ≤ 9223372036854775807) : wrap64 n = n := by unfold wrap64; omega
/-- the sum of all numbers to the k -/
def psum (l : List Int) (k : Nat) : Int := (l.map fun x => x ^ k).sum
def powL (l : List Int) (n : Nat) : List Int := (List.range n).map fun k => psum l (k + 1)
theorem powL_len (l : List Int) (n : Nat) : (powL l n).length = n := by simp [powL]
theorem powL_at (l : List Int) (n k : Nat) (h : k < (powL l n).length) : (powL l n)[k] = psum l (k + 1) := by simp [powL]
theorem psum_nil (k : Nat) : psum [] k = 0 := rfl
theorem psum_snoc (l : List Int) (x : Int) (k : Nat) : psum (l ++ [x]) k = psum l k + x ^ k := by simp [psum]
theorem psum_take (l : List Int) (i k : Nat) (h : i < l.length) : psum (l.take (i + 1)) k = psum (l.take i) k + l[i] ^ k := by rw [take_snoc l i h, psum_snoc]
/-- numbers of 1 to 60 -/
def few60 (l : List Int) : Prop := l.length ≤ 20 ∧ ∀ j (h : j < l.length), 1 ≤ l[j] ∧ l[j] ≤ 60
theorem upB_all : ∀ (l : List Int) (lo : Int), 0 ≤ lo → upB lo l = true → ∀ j (h : j < l.length), 1 ≤ l[j] ∧ l[j] ≤ 60
  | [], _, _, _, j, h => absurd h (Nat.not_lt_zero _)
  | x :: l, lo, h0, hu, j, h => by
    have hu' : ((decide (lo < x) && decide (x ≤ 60)) && upB x l) = true := hu
    simp only [Bool.and_eq_true, decide_eq_true_eq] at hu'
    cases j with
    | zero => exact ⟨by show 1 ≤ x; omega, hu'.1.2⟩
    | succ j => exact upB_all l x (by omega) hu'.2 j (by simpa using h)
theorem goodS_few {l : List Int} (h : goodS l = true) : few60 l := by
  unfold goodS at h
  simp only [Bool.and_eq_true, decide_eq_true_eq] at h
  exact ⟨h.1, upB_all l 0 (Int.le_refl _) h.2⟩
theorem mul60' {v x M : Int} (h1 : 0 ≤ v) (h2 : v ≤ M) (h3 : 0 ≤ x) (h4 : x ≤ 60) : 0 ≤ v * x ∧ v * x ≤ 60 * M := by
  have hM : 0 ≤ M := by omega
  have a := Int.mul_le_mul_of_nonneg_right h2 h3
  have b := Int.mul_le_mul_of_nonneg_left h4 hM
  have c := Int.mul_nonneg h1 h3
  omega
theorem pow_bnd {x : Int} (h1 : 1 ≤ x) (h2 : x ≤ 60) {k : Nat} (hk : k ≤ 4) : 1 ≤ x ^ k ∧ x ^ k ≤ 12960000 := by
  have h0 : 0 ≤ x := by omega
  have a1 : 1 ≤ x ^ 1 ∧ x ^ 1 ≤ 60 := by rw [Int.pow_succ, Int.pow_zero]; omega
  have st : ∀ m M, (1 ≤ x ^ m ∧ x ^ m ≤ M) → (1 ≤ x ^ (m + 1) ∧ x ^ (m + 1) ≤ 60 * M) := fun m M ⟨p, q⟩ => by
    obtain ⟨_, q2⟩ := mul60' (v := x ^ m) (M := M) (by omega) q h0 h2
    have q3 := Int.mul_le_mul_of_nonneg_left h1 (show 0 ≤ x ^ m by omega)
    rw [Int.pow_succ]
    omega
  have a2 := st 1 60 a1
  have a3 := st 2 _ a2
  have a4 := st 3 _ a3
  have : k = 0 ∨ k = 1 ∨ k = 2 ∨ k = 3 ∨ k = 4 := by omega
  rcases this with rfl | rfl | rfl | rfl | rfl
  · rw [Int.pow_zero]; omega
  · omega
  · exact ⟨a2.1, Int.le_trans a2.2 (by decide)⟩
  · exact ⟨a3.1, Int.le_trans a3.2 (by decide)⟩
  · exact ⟨a4.1, Int.le_trans a4.2 (by decide)⟩
theorem psum_bnd {l : List Int} (h : few60 l) {k : Nat} (hk : k ≤ 4) : ∀ i, i ≤ l.length → 0 ≤ psum (l.take i) k ∧ psum (l.take i) k ≤ 12960000 * (i : Int)
  | 0, _ => by rw [List.take_zero, psum_nil]; omega
  | i + 1, hi => by
    have h2 := psum_bnd h hk i (by omega)
    obtain ⟨a, b⟩ := h.2 i (by omega)
    have h3 := pow_bnd a b hk
    rw [psum_take l i k (by omega)]
    omega
def powOk (l : List Int) (n : Int) : Bool := goodS l && uptoB n
def powV (l : List Int) (n : Int) : List Int := bif powOk l n then powL l n.toNat else []
theorem powV_yes {l : List Int} {n : Int} (h : powOk l n = true) : powV l n = powL l n.toNat := by unfold powV; rw [h]; rfl
theorem powV_no {l : List Int} {n : Int} (h : powOk l n = false) : powV l n = [] := by unfold powV; rw [h]; rfl
theorem powOk_no1 {l : List Int} {n : Int} (h : goodS l = false) : powOk l n = false := by unfold powOk; rw [h]; rfl
theorem powOk_no2 {l : List Int} {n : Int} (h : uptoB n = false) : powOk l n = false := by unfold powOk; rw [h, Bool.and_false]
theorem powOk_yes {l : List Int} {n : Int} (h : goodS l = true) (h2 : uptoB n = true) : powOk l n = true := by unfold powOk; rw [h, h2]; rfl
theorem powV_len (l : List Int) (n : Int) : (powV l n).length ≤ 4 := by
  cases h : powOk l n
  · rw [powV_no h]; exact Nat.zero_le _
  · rw [powV_yes h, powL_len]
    unfold powOk at h
    rw [Bool.and_eq_true] at h
    have := uptoB_iff.1 h.2
    omega
/-- the sums when number i has been put in up to its power j -/
def powM (l : List Int) (n i j : Nat) : List Int := (List.range n).map fun k => psum (l.take (if k < j then i + 1 else i)) (k + 1)
theorem powM_len (l : List Int) (n i j : Nat) : (powM l n i j).length = n := by simp [powM]
theorem powM_zero (l : List Int) (n i : Nat) : powM l n i 0 = powL (l.take i) n := by simp [powM, powL]
theorem powM_end (l : List Int) (n i : Nat) : powM l n i n = powL (l.take (i + 1)) n := by
  unfold powM powL
  refine List.map_congr_left fun k hk => ?_
  rw [if_pos (List.mem_range.1 hk)]
theorem powM_at (l : List Int) (n i j : Nat) (h : j < (powM l n i j).length) : (powM l n i j)[j] = psum (l.take i) (j + 1) := by simp [powM]
theorem powM_set (l : List Int) (n i j : Nat) (hi : i < l.length) : (powM l n i j).set j (psum (l.take i) (j + 1) + l[i] ^ (j + 1)) = powM l n i (j + 1) := by
  apply List.ext_getElem
  · simp [powM]
  · intro m h1 h2
    rw [List.getElem_set]
    by_cases e : j = m
    · subst e
      rw [if_pos rfl, ← psum_take l i (j + 1) hi]
      simp [powM]
    · rw [if_neg e]
      simp only [powM, List.getElem_map, List.getElem_range]
      by_cases e2 : m < j
      · rw [if_pos e2, if_pos (by omega)]
      · rw [if_neg e2, if_neg (by omega)]
theorem powL_nil (n : Nat) : powL [] n = List.replicate n 0 := by
  unfold powL
  apply List.ext_getElem
  · simp
  · intro m h1 h2
    simp [psum]
set_option maxHeartbeats 4000000 in
theorem iPow_yes (a : Option Addr) (cap : Nat) (l : List Int) (n : Nat) (w : World) (hn : l.length ≤ 1048576) (hZ : Is w.heap.size a l w) (hg : goodS l = true) (h4 : n ≤ 4) :
    Calls Try.prog 7 #[.slice a l.length cap, .int .i64 (n : Int)] w (JOut (powL l n) true w) := by
  have HG := hid (igoodS_any a cap l w hn hZ)
  have HU := hid (isUpto_any (n : Int) w)
  rw [hg] at HG
  rw [uptoB_iff.2 (show (0 : Int) ≤ (n : Int) ∧ (n : Int) ≤ 4 by omega)] at HU
  have HF := hid (goodS_few hg)
  have hl20 := HF.out.1
  have HZ := hid hZ
  have hmk := make_ints n (by omega)
  have hr0 := IRow.made w n
  generalize madeCells (Value.int .i64 0).cells n = M at *
  have HR := hid hr0
  clear hr0 hg hZ
  go_enter Try.func7, Try.ntmps7
  go_wp2_with fail
  refine HG.out.mono ?_
  rintro e w2 ⟨rfl, hw2⟩
  rw [hw2]
  clear hw2
  go_wp2_with fail
  refine HU.out.mono ?_
  rintro e w2 ⟨rfl, hw2⟩
  rw [hw2]
  clear hw2 HG HU
  go_wp2
  go_loopw [23] (fun i wr => ∃ k : Nat, k ≤ l.length ∧ i = .int .i64 k ∧ IRow w.heap.size (powL (l.take k) n) wr ∧ Below w.heap.size w wr) (fun i _ => l.length - (intOf i).toNat)
  case atStart => exact ⟨0, Nat.zero_le _, rfl, by rw [List.take_zero, powL_nil]; exact HR.out, (Below.refl _ _).alloc (Nat.le_refl _) _⟩
  case round =>
    obtain ⟨i, hi, rfl, hrow, hbel⟩ := hrel
    have HROW := hid hrow
    have HBEL := hid hbel
    by_cases hlt : i < l.length
    · obtain ⟨b, off, rfl, hb, hc⟩ := HZ.out.cell (by omega)
      have x0 := (hbel.cell (p := ⟨b, off + i, none⟩) hb).trans (hc i hlt)
      have HX := hid (HF.out.2 i hlt)
      clear hc hrow hbel
      generalize hxx : l[i] = x at *
      have HXX := hid hxx
      clear hxx
      go_wp2
      go_loopw [9, 29] (fun p j wr2 => ∃ k : Nat, k ≤ n ∧ j = .int .i64 k ∧ p = .int .i64 (x ^ k) ∧ IRow w.heap.size (powM l n i k) wr2 ∧ Below w.heap.size w wr2) (fun _ j _ => n - (intOf j).toNat)
      case atStart => exact ⟨0, Nat.zero_le _, rfl, by rw [Int.pow_zero], by rw [powM_zero]; exact HROW.out, HBEL.out⟩
      case round =>
        obtain ⟨j, hj, rfl, rfl, hrow2, hbel2⟩ := hrel
        have HROW2 := hid hrow2
        have HBEL2 := hid hbel2
        by_cases hjn : j < n
        · have hlen := powM_len l n i j
          have y0 := hrow2.cell j (by omega)
          have f0 := hrow2.free j (by omega)
          rw [powM_at] at y0
          have HP1 := hid (pow_bnd HX.out.1 HX.out.2 (k := j + 1) (by omega))
          have HP2 := hid (psum_bnd HF.out (k := j + 1) (by omega) i (by omega))
          have hw1 : wrap64 (x ^ j * x) = x ^ (j + 1) := by rw [← Int.pow_succ]; exact wrap_in64 _ ⟨Int.le_trans (by decide) HP1.out.1, Int.le_trans HP1.out.2 (by decide)⟩
          have hw2 : wrap64 (psum (l.take i) (j + 1) + x ^ (j + 1)) = psum (l.take i) (j + 1) + x ^ (j + 1) := by have h1 := HP1.out; have h2 := HP2.out; generalize x ^ (j + 1) = y at *; unfold wrap64; omega
          have HS := hid (powM_set l n i j hlt)
          rw [HXX.out] at HS
          clear hrow2 hbel2 hlen
          generalize psum (l.take i) (j + 1) = ps at *
          go_wp2
          go_roundw
          case rel =>
            have q := HROW2.out.set j (by rw [powM_len]; exact hjn) (ps + x ^ (j + 1))
            rw [HS.out] at q
            refine ⟨j + 1, by omega, by go_num, ?_, ?_, ?_⟩
            · simp only [hw1]
            · first | exact q | (simp only [hw1, hw2]; exact q)
            · first | exact HBEL2.out.setCell (Nat.le_refl _) _ | (simp only [hw1, hw2]; exact HBEL2.out.setCell (Nat.le_refl _) _)
          case measure => simp [intOf]; omega
        · obtain rfl : j = n := by omega
          clear hrow2 hbel2
          rw [powM_end] at HROW2
          go_wp2
          go_roundw
          case rel => exact ⟨i + 1, by omega, by go_num, HROW2.out, HBEL2.out⟩
          case measure => simp [intOf]; omega
    · obtain rfl : i = l.length := by omega
      rw [List.take_length] at HROW
      clear hrow hbel
      go_wp2
      go_ret2
      exact JOut.row HROW.out (Nat.le_refl _) HBEL.out (powL_len l n)
set_option maxHeartbeats 1000000 in
theorem iPow_no (a : Option Addr) (cap : Nat) (l : List Int) (n : Int) (w : World) (hn : l.length ≤ 1048576) (hZ : Is w.heap.size a l w) (hg : powOk l n = false) :
    Calls Try.prog 7 #[.slice a l.length cap, .int .i64 n] w (JOut [] false w) := by
  have HG := hid (igoodS_any a cap l w hn hZ)
  have HU := hid (isUpto_any n w)
  cases h1 : goodS l
  · rw [h1] at HG
    go_enter Try.func7, Try.ntmps7
    go_wp2_with fail
    refine HG.out.mono ?_
    rintro e w2 ⟨rfl, hw2⟩
    rw [hw2]
    clear hw2
    go_wp2
    go_ret2
    exact JOut.no (Below.refl _ _)
  · cases h2 : uptoB n
    · rw [h1] at HG
      rw [h2] at HU
      go_enter Try.func7, Try.ntmps7
      go_wp2_with fail
      refine HG.out.mono ?_
      rintro e w2 ⟨rfl, hw2⟩
      rw [hw2]
      clear hw2
      go_wp2_with fail
      refine HU.out.mono ?_
      rintro e w2 ⟨rfl, hw2⟩
      rw [hw2]
      clear hw2
      go_wp2
      go_ret2
      exact JOut.no (Below.refl _ _)
    · rw [powOk_yes h1 h2] at hg; cases hg
theorem iPow_any (a : Option Addr) (cap : Nat) (l : List Int) (n : Int) (w : World) (hn : l.length ≤ 1048576) (hZ : Is w.heap.size a l w) :
    Calls Try.prog 7 #[.slice a l.length cap, .int .i64 n] w (JOut (powV l n) (powOk l n) w) := by
  cases h : powOk l n
  · rw [powV_no h]; exact iPow_no a cap l n w hn hZ h
  · rw [powV_yes h]
    have h' := h
    unfold powOk at h'
    rw [Bool.and_eq_true] at h'
    have h2 := uptoB_iff.1 h'.2
    obtain ⟨m, rfl⟩ : ∃ m : Nat, n = (m : Int) := ⟨n.toNat, by omega⟩
    exact iPow_yes a cap l m w hn hZ h'.1 (by omega)
theorem powL_take (l : List Int) (n k : Nat) (h : k < n) : (powL l n).take (k + 1) = (powL l n).take k ++ [psum l (k + 1)] := by
  have h2 : k < (powL l n).length := by rw [powL_len]; exact h
  rw [take_snoc _ k h2, powL_at]
set_option maxHeartbeats 4000000 in
theorem l12Powers_any (a : Option Addr) (cap : Nat) (l : List Int) (n : Nat) (w : World) (hZ : Is w.heap.size a l w) (hF : few60 l) (h4 : n ≤ 4) :
    Calls Try.prog 34 #[.slice a l.length cap, .int .i64 (n : Int)] w fun e w' => ∃ v, e = .returned v ∧ AL w.heap.size v (powL l n) w' ∧ Below w.heap.size w w' := by
  have HF := hid hF
  have hl20 := hF.1
  have HZ := hid hZ
  clear hZ hF
  go_enter Try.func34, Try.ntmps34
  go_wp2
  go_loopw [5, 6] (fun o i wr => ∃ (k : Nat) (o1 : Value), k ≤ n ∧ i = .int .i64 ((k : Int) + 1) ∧ o = o1 ∧ AL w.heap.size o1 ((powL l n).take k) wr ∧ Below w.heap.size w wr) (fun _ i _ => (n + 1) - (intOf i).toNat)
  case atStart => exact ⟨0, _, Nat.zero_le _, rfl, rfl, AL.nil _ _, Below.refl _ _⟩
  case round =>
    obtain ⟨k, _, hk, rfl, rfl, hown, hbel⟩ := hrel
    have HOWN := hid hown
    have HBEL := hid hbel
    have hszr := hbel.size
    by_cases hlt : k < n
    · have HZr : Hid (Is w.heap.size a l wr) := HZ.out.below hbel
      have hd : decide ((k : Int) + 1 ≤ (n : Int)) = true := decide_eq_true (by omega)
      have HT := hid (powL_take l n k hlt)
      have hlen : ((powL l n).take k).length ≤ 4 := by rw [List.length_take]; omega
      obtain ⟨v', w', r1, o1, g1, -⟩ := hown.push hszr (psum l (k + 1)) (by omega)
      rw [← HT.out] at o1
      have HO := hid o1
      have HB' : Hid (Below w.heap.size w w') := hbel.trans g1
      clear o1 g1 hown hbel hlen
      go_wp2
      go_loop [7, 19] (fun s i => ∃ j : Nat, j ≤ l.length ∧ i = .int .i64 j ∧ s = .int .i64 (psum (l.take j) (k + 1))) (fun _ i => l.length - (intOf i).toNat)
      case atStart => exact ⟨0, Nat.zero_le _, rfl, by rw [List.take_zero, psum_nil]⟩
      case round =>
        obtain ⟨j, hj, rfl, rfl⟩ := hrel
        by_cases hjl : j < l.length
        · obtain ⟨b, off, rfl, hb, hc⟩ := HZr.out.cell (by omega)
          have x0 := hc j hjl
          have HX := hid (HF.out.2 j hjl)
          have HPS := hid (psum_take l j (k + 1) hjl)
          have HP2 := hid (psum_bnd HF.out (k := k + 1) (by omega) j (by omega))
          have HP1 := hid (pow_bnd HX.out.1 HX.out.2 (k := k + 1) (by omega))
          have hw2 : wrap64 (psum (l.take j) (k + 1) + l[j] ^ (k + 1)) = psum (l.take (j + 1)) (k + 1) := by
            rw [HPS.out]
            have h1 := HP1.out; have h2 := HP2.out
            generalize l[j] ^ (k + 1) = y at *
            unfold wrap64; omega
          clear hc HPS HP2 HP1
          generalize l[j] = x at *
          generalize psum (l.take j) (k + 1) = ps at *
          go_wp2
          go_loop [10, 11] (fun p i => ∃ m : Nat, m ≤ k + 1 ∧ i = .int .i64 m ∧ p = .int .i64 (x ^ m)) (fun _ i => (k + 1) - (intOf i).toNat)
          case atStart => exact ⟨0, Nat.zero_le _, rfl, by rw [Int.pow_zero]⟩
          case round =>
            obtain ⟨m, hm, rfl, rfl⟩ := hrel
            by_cases hmk : m < k + 1
            · have hd2 : decide ((m : Int) < (k : Int) + 1) = true := decide_eq_true (by omega)
              have HP1 := hid (pow_bnd HX.out.1 HX.out.2 (k := m + 1) (by omega))
              have hw1 : wrap64 (x ^ m * x) = x ^ (m + 1) := by rw [← Int.pow_succ]; exact wrap_in64 _ ⟨Int.le_trans (by decide) HP1.out.1, Int.le_trans HP1.out.2 (by decide)⟩
              go_wp2
              go_round
              · exact ⟨m + 1, by omega, by go_num, by simp only [hw1]⟩
              · simp [intOf]; omega
            · obtain rfl : m = k + 1 := by omega
              have hd2 : decide (((k + 1 : Nat) : Int) < (k : Int) + 1) = false := decide_eq_false (by omega)
              have hd3 : decide ((k : Int) + 1 < (k : Int) + 1) = false := decide_eq_false (by omega)
              go_wp2
              go_round
              · exact ⟨j + 1, by omega, by go_num, by simp only [hw2]⟩
              · simp [intOf]; omega
        · obtain rfl : j = l.length := by omega
          rw [List.take_length]
          generalize psum l (k + 1) = ps at *
          go_wp2_with (at_builtin; refine wpList_append_run rfl (.tmp 35) (.tmp 37) 23 rfl _ _ rfl rfl _ _ r1 ?_)
          go_roundw
          case rel => exact ⟨k + 1, _, by omega, by go_num, rfl, HO.out, HB'.out⟩
          case measure => simp [intOf]; omega
    · obtain rfl : k = n := by omega
      have hd : decide ((k : Int) + 1 ≤ (k : Int)) = false := decide_eq_false (by omega)
      have hall : (powL l k).take k = powL l k := List.take_of_length_le (by rw [powL_len]; exact Nat.le_refl _)
      rw [hall] at HOWN
      clear hown hbel hall
      go_wp2
      go_ret
      exact ⟨_, rfl, HOWN.out, HBEL.out⟩
set_option maxHeartbeats 1000000 in
theorem sPow_any (a : Option Addr) (cap : Nat) (l : List Int) (n : Int) (w : World) (hn : l.length ≤ 1048576) (hZ : Is w.heap.size a l w) :
    Calls Try.prog 9 #[.slice a l.length cap, .int .i64 n] w (JOut (powV l n) (powOk l n) w) := by
  have HG := hid (sgoodS_any a cap l w hn hZ)
  have HU := hid (l12Upto_any n w)
  cases h1 : goodS l
  · rw [powV_no (powOk_no1 h1), powOk_no1 h1]
    rw [h1] at HG
    go_enter Try.func9, Try.ntmps9
    go_wp2_with fail
    refine HG.out.mono ?_
    rintro e w2 ⟨rfl, hw2⟩
    rw [hw2]
    clear hw2
    go_wp2
    go_ret2
    exact JOut.no (Below.refl _ _)
  · cases h2 : uptoB n
    · rw [powV_no (powOk_no2 h2), powOk_no2 h2]
      rw [h1] at HG
      rw [h2] at HU
      go_enter Try.func9, Try.ntmps9
      go_wp2_with fail
      refine HG.out.mono ?_
      rintro e w2 ⟨rfl, hw2⟩
      rw [hw2]
      clear hw2
      go_wp2_with fail
      refine HU.out.mono ?_
      rintro e w2 ⟨rfl, hw2⟩
      rw [hw2]
      clear hw2
      go_wp2
      go_ret2
      exact JOut.no (Below.refl _ _)
    · rw [powV_yes (powOk_yes h1 h2), powOk_yes h1 h2]
      rw [h1] at HG
      rw [h2] at HU
      have h3 := uptoB_iff.1 h2
      obtain ⟨m, rfl⟩ : ∃ m : Nat, n = (m : Int) := ⟨n.toNat, by omega⟩
      have HP := hid (l12Powers_any a cap l m w hZ (goodS_few h1) (by omega))
      rw [Int.toNat_natCast]
      clear h3
      go_enter Try.func9, Try.ntmps9
      go_wp2_with fail
      refine HG.out.mono ?_
      rintro e w2 ⟨rfl, hw2⟩
      rw [hw2]
      clear hw2
      go_wp2_with fail
      refine HU.out.mono ?_
      rintro e w2 ⟨rfl, hw2⟩
      rw [hw2]
      clear hw2
      go_wp2_with fail
      refine HP.out.mono ?_
      rintro e w2 ⟨v, rfl, o2, b2⟩
      have HO := hid o2
      have HB := hid b2
      clear o2 b2
      go_wp2
      go_ret2
      exact JOut.yes HO.out HB.out
end Go.Proofs.Ytipeillhafcliaa
