/- BlockSums of both sides. -/
import Derived.Test.YtfkcfachbfbmpaaTRn
import Derived.Test.YtfkcfachbfbmpaaAApp
namespace Go.Proofs.Ytfkcfachbfbmpaa
set_option maxRecDepth 100000
open Go Go.ChangeShapes Go.WideShapes Go.ChangeAt Go.RowKit
/-- the sum of block k of a text -/
def sumAt (s : ByteArray) (k : Nat) : Int := ((rollT (s.extract (4 * k) (4 * k + 4)) : Nat) : Int)
/-- the sums of all blocks -/
def sumsT (s : ByteArray) : List Int := (List.range (s.size / 4)).map (sumAt s)
theorem sumsT_len (s : ByteArray) : (sumsT s).length = s.size / 4 := by simp [sumsT]
theorem sumsT_at (s : ByteArray) (k : Nat) (h : k < (sumsT s).length) : (sumsT s)[k] = sumAt s k := by simp [sumsT]
/-- what BlockSums answers -/
def sumsV (s : ByteArray) : List Int := cond (decide (s.size ≤ 120)) (sumsT s) []
theorem sumsV_yes {s : ByteArray} (h : s.size ≤ 120) : sumsV s = sumsT s := by unfold sumsV; rw [decide_eq_true h]; rfl
theorem sumsV_no {s : ByteArray} (h : ¬ s.size ≤ 120) : sumsV s = [] := by unfold sumsV; rw [decide_eq_false h]; rfl
set_option maxHeartbeats 1000000 in
theorem sBlock_any (s : ByteArray) (w : World) : Calls Try.prog 24 #[.string s] w (LOut (sumsV s) (decide (s.size ≤ 120)) w) := by
  have HL := hid (long_any s w)
  by_cases h : s.size ≤ 120
  · rw [sumsV_yes h, decide_eq_true h]
    rw [decide_eq_true h] at HL
    have hn := sumsT_len s
    have HA := hid (sumsT_at s)
    have HS : Hid (∀ k v, 4 * k + 4 ≤ s.size → Calls Try.prog 46 #[.string (s.extract (4 * k) (4 * k + 4))] v fun e w' => e = .returned (.int .i64 (sumAt s k)) ∧ w' = v) := fun k v hk => sroll_any _ v (by rw [ext_size _ _ _ (by omega) hk]; omega)
    have HC : Hid (∀ k, 4 * k + 4 ≤ s.size → ∀ v, Sem.run Try.prog (Instr.slice 9 (.string s) (some (.int .i64 ((4 * k : Nat) : Int))) (some (.int .i64 (((4 * k : Nat) : Int) + 4))) none) v = .ok (.string (s.extract (4 * k) (4 * k + 4))) v) := fun k hk v => cut_at s (4 * k) (4 * k + 4) _ _ rfl (by omega) (by omega) hk v
    have HN := hid hn
    clear hn
    go_enter Try.func24, Try.ntmps24
    go_wp2_with fail
    refine HL.out.mono ?_
    rintro e w1 ⟨rfl, hw1⟩
    rw [hw1]
    clear hw1 HL
    go_wp2_with fail
    go_loopw [4, 5] (fun o i wr => ∃ (k : Nat) (o1 : Value), 4 * k ≤ s.size ∧ i = .int .i64 (4 * k : Nat) ∧ o = o1 ∧ AL w.heap.size o1 ((sumsT s).take k) wr ∧ Below w.heap.size w wr) (fun _ i _ => s.size - (intOf i).toNat)
    case atStart => exact ⟨0, _, Nat.zero_le _, rfl, rfl, AL.nil _ _, Below.refl _ _⟩
    case round =>
      obtain ⟨k, _, hk, rfl, rfl, hown, hbel⟩ := hrel
      have HOWN := hid hown
      have HBEL := hid hbel
      clear hown hbel
      by_cases hlt : 4 * k + 4 ≤ s.size
      · have hlk : k < (sumsT s).length := by have := HN.out; omega
        have HTK := hid (take_snoc (sumsT s) k hlk)
        rw [HA.out k hlk] at HTK
        have HSk := hid (fun v => HS.out k v hlt)
        have hck := HC.out k hlt
        obtain ⟨v', w', r1, o1, g1⟩ := HOWN.out.push HBEL.out.size (sumAt s k) (by rw [List.length_take]; have := HN.out; omega)
        have HO : Hid (AL w.heap.size v' ((sumsT s).take (k + 1)) w') := by
          show AL _ _ _ _
          rw [HTK.out]
          exact o1
        have HB' : Hid (Below w.heap.size w w') := HBEL.out.trans g1.1
        have hd : decide (((4 * k : Nat) : Int) + 4 ≤ (s.size : Int)) = true := decide_eq_true (by omega)
        have hq2 : 4 * k ≤ 120 := by omega
        clear o1 g1 hlk HTK
        have HL4 := hid hlt
        generalize s.extract (4 * k) (4 * k + 4) = E at *
        generalize sumAt s k = x at *
        generalize hq : 4 * k = q at *
        have HQ2 := hid hq
        clear hq hlt
        go_wp2_with fail
        refine (HSk.out _).mono ?_
        rintro e w9 ⟨rfl, hw9⟩
        rw [hw9]
        clear hw9
        go_wp2_with (at_builtin; refine wpList_append_run rfl (.tmp 16) (.tmp 23) 43 rfl _ _ rfl rfl _ _ r1 ?_)
        go_roundw
        case rel => exact ⟨k + 1, _, by have := HQ2.out; have := HL4.out; omega, congrArg (Value.int .i64) (by have := HQ2.out; omega), rfl, HO.out, HB'.out⟩
        case measure => have := HL4.out; simp [intOf]; omega
      · have hd : decide (((4 * k : Nat) : Int) + 4 ≤ (s.size : Int)) = false := decide_eq_false (by omega)
        have hq2 : 4 * k ≤ 120 := by omega
        have e : (sumsT s).take k = sumsT s := List.take_of_length_le (by have := HN.out; omega)
        rw [e] at HOWN
        generalize 4 * k = q at *
        go_wp2_with fail
        go_ret2
        exact LOut.yes HOWN.out HBEL.out
  · rw [sumsV_no h, decide_eq_false h]
    rw [decide_eq_false h] at HL
    go_enter Try.func24, Try.ntmps24
    go_wp2_with fail
    refine HL.out.mono ?_
    rintro e w1 ⟨rfl, hw1⟩
    rw [hw1]
    clear hw1
    go_wp2_with fail
    go_ret2
    exact LOut.no (Below.refl _ _)
set_option maxHeartbeats 400000 in
theorem blockOf_any (s : ByteArray) (k : Nat) (w : World) (hs : s.size ≤ 1048576) (hk : 4 * k + 4 ≤ s.size) : Calls Try.prog 34 #[.string s, .int .i64 k] w fun e w' => e = .returned (.string (s.extract (4 * k) (4 * k + 4))) ∧ w' = w := by
  have hc := cut_at s (4 * k) (4 * k + 4) ((k : Int) * 4) (((k : Int) + 1) * 4) (by omega) (by omega) (by omega) hk
  generalize s.extract (4 * k) (4 * k + 4) = E at *
  go_enter Try.func34, Try.ntmps34
  go_wp2
  go_ret
  exact ⟨rfl, rfl⟩
theorem rollT_eq (s : ByteArray) : ((rollT s : Nat) : Int) = ((256 * (sumB (byN s) % 251) + sumA (byN s) % 251 : Nat) : Int) := rfl
set_option maxHeartbeats 1000000 in
theorem iBlock_any (s : ByteArray) (w : World) : Calls Try.prog 23 #[.string s] w (LOut (sumsV s) (decide (s.size ≤ 120)) w) := by
  have HL := hid (isText_any s w)
  by_cases h : s.size ≤ 120
  · rw [sumsV_yes h, decide_eq_true h]
    rw [decide_eq_true h] at HL
    have hn := sumsT_len s
    have HA := hid (sumsT_at s)
    have HBk := hid (fun k v => blockOf_any s k v (by omega))
    have HS := hid (fun (k : Nat) (v : World) (hk : 4 * k + 4 ≤ s.size) => rollOf_any (s.extract (4 * k) (4 * k + 4)) v (by rw [ext_size _ _ _ (by omega) hk]; omega))
    have hmk := make_ints (s.size / 4) (by omega)
    have hr0 := IRow.made w (s.size / 4)
    have e4 : ((s.size / 4 : Nat) : Int) = (s.size : Int) / 4 := by omega
    rw [e4] at hmk
    generalize madeCells (Value.int .i64 0).cells (s.size / 4) = M at *
    have HR := hid hr0
    have HN := hid hn
    have HB0 := hid (boxB w (.cells M 3))
    clear hn hr0 e4
    have hm4 : s.size / 4 ≤ 30 := by omega
    have HM : Hid (∀ k, k < s.size / 4 → 4 * k + 4 ≤ s.size) := fun k hk => by omega
    generalize s.size / 4 = m at *
    go_enter Try.func23, Try.ntmps23
    go_wp2_with fail
    refine HL.out.mono ?_
    rintro e w1 ⟨rfl, hw1⟩
    rw [hw1]
    clear hw1 HL
    go_wp2_with fail
    go_loopw [16] (fun i wr => ∃ (k : Nat) (ys : List Int), k ≤ m ∧ i = .int .i64 k ∧ ys.length = m ∧ ys.take k = (sumsT s).take k ∧ IRow w.heap.size ys wr ∧ Below w.heap.size w wr) (fun i _ => m - (intOf i).toNat)
    case atStart => exact ⟨0, List.replicate m 0, Nat.zero_le _, rfl, by simp, rfl, HR.out, HB0.out⟩
    case round =>
      obtain ⟨k, ys, hk, rfl, hy, htk, hrow, hbel⟩ := hrel
      have HROW := hid hrow
      have HBEL := hid hbel
      have HTK := hid htk
      have HY := hid hy
      clear hrow hbel htk hy
      by_cases hlt : k < m
      · have hl4 := HM.out k hlt
        have HBk1 := hid (fun v => HBk.out k v hl4)
        have HS1 := hid (fun v => HS.out k v hl4)
        have hlk : k < (sumsT s).length := by rw [HN.out]; exact hlt
        have HV : Hid ((sumsT s)[k] = (((256 * (sumB (byN (s.extract (4 * k) (4 * k + 4))) % 251) + sumA (byN (s.extract (4 * k) (4 * k + 4))) % 251) : Nat) : Int)) := (HA.out k hlk).trans (rollT_eq _)
        have HM1 := hid (fun R v => rsum_any R (sumA (byN (s.extract (4 * k) (4 * k + 4))) % 251) (sumB (byN (s.extract (4 * k) (4 * k + 4))) % 251) v (Nat.mod_lt _ (by decide)) (Nat.mod_lt _ (by decide)))
        generalize s.extract (4 * k) (4 * k + 4) = E at *
        generalize sumA (byN E) % 251 = ra at *
        generalize sumB (byN E) % 251 = rb at *
        go_wp2_with fail
        refine (HBk1.out _).mono ?_
        rintro e w1 ⟨rfl, hw1⟩
        rw [hw1]
        clear hw1
        go_wp2_with fail
        refine (HS1.out _).mono ?_
        rintro e w1 ⟨rfl, b1⟩
        have g1 := boxB w1 (.cells #[.int .i64 ra, .int .i64 rb] 69)
        have k1 := heap_last w1 (.cells #[.int .i64 ra, .int .i64 rb] 69)
        generalize hW1 : w1.alloc (.cells #[.int .i64 ra, .int .i64 rb] 69) = w2 at *
        have HB2 := hid (b1.trans (g1.mono b1.size))
        have HK := hid (HM1.out _ _ k1)
        clear b1 g1 k1
        go_wp2_with fail
        refine HK.out.mono ?_
        rintro e w3 ⟨rfl, b3, _⟩
        have HB3 := hid (HB2.out.trans (b3.mono HB2.out.size))
        have r3 := HROW.out.below HB3.out
        have y0 := r3.cell k (by have := HY.out; omega)
        have f0 := r3.free k (by have := HY.out; omega)
        have HR3 := hid r3
        clear b3 r3
        go_wp2_with fail
        go_roundw
        case rel =>
          refine ⟨k + 1, ys.set k (sumsT s)[k], by omega, by go_num, by rw [List.length_set]; exact HY.out, ?_, ?_, ?_⟩
          · have hky : k < ys.length := by rw [HY.out]; exact hlt
            rw [take_snoc _ k (by rw [List.length_set]; exact hky), take_snoc _ k hlk, List.take_set_of_le (Nat.le_refl _), HTK.out, List.getElem_set_self]
          · have := HR3.out.set k (by rw [HY.out]; exact hlt) (sumsT s)[k]
            rw [HV.out] at this ⊢
            exact this
          · exact setB (HBEL.out.trans (HB3.out.mono HBEL.out.size)) _ _ (Nat.le_refl _) _
        case measure => simp [intOf]; omega
      · obtain rfl : k = m := by omega
        have e : ys = sumsT s := by
          have := HTK.out
          rw [List.take_of_length_le (by rw [HY.out]; exact Nat.le_refl _), List.take_of_length_le (by rw [HN.out]; exact Nat.le_refl _)] at this
          exact this
        subst e
        go_wp2_with fail
        go_ret2
        refine ⟨_, k, ?_, Or.inr ⟨_, Nat.le_refl _, HROW.out.lt, rfl, HROW.out⟩, HBEL.out⟩
        rw [HN.out]
        rfl
  · rw [sumsV_no h, decide_eq_false h]
    rw [decide_eq_false h] at HL
    go_enter Try.func23, Try.ntmps23
    go_wp2_with fail
    refine HL.out.mono ?_
    rintro e w1 ⟨rfl, hw1⟩
    rw [hw1]
    clear hw1
    go_wp2_with fail
    go_ret2
    exact LOut.no (Below.refl _ _)
end Go.Proofs.Ytfkcfachbfbmpaa
