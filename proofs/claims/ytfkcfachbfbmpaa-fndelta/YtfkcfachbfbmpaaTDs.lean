/- sumsAlong of the program. -/
import Derived.Test.YtfkcfachbfbmpaaTDa
import Derived.Deep.RegionHeldLaw
namespace Go.Proofs.Ytfkcfachbfbmpaa
set_option maxRecDepth 100000
open Go Go.ChangeShapes Go.WideShapes Go.ChangeAt Go.RowKit
/-- the sums at each place of a text -/
def winA (s : ByteArray) (j : Nat) : Nat := sumA (byN (s.extract j (j + 4))) % 251
def winB (s : ByteArray) (j : Nat) : Nat := sumB (byN (s.extract j (j + 4))) % 251
def winR (s : ByteArray) (j : Nat) : Nat := rollT (s.extract j (j + 4))
theorem win_roll (s : ByteArray) (j : Nat) : 256 * winB s j + winA s j = winR s j := rfl
def alongT (s : ByteArray) : List Int := (List.range (s.size - 3)).map fun k => ((winR s k : Nat) : Int)
theorem alongT_len (s : ByteArray) : (alongT s).length = s.size - 3 := by simp [alongT]
theorem alongT_at (s : ByteArray) (k : Nat) (h : k < (alongT s).length) : (alongT s)[k] = ((winR s k : Nat) : Int) := by simp [alongT]
/-- a window goes on by one byte -/
theorem win_step (s : ByteArray) (j : Nat) (h : j + 5 ≤ s.size) : ∃ mid : List Nat, mid.length = 3 ∧ byN (s.extract j (j + 4)) = s[j].toNat :: mid ∧ byN (s.extract (j + 1) (j + 1 + 4)) = mid ++ [s[j + 4].toNat] := by
  refine ⟨((byN s).drop (j + 1)).take 3, ?_, ?_, ?_⟩
  · rw [List.length_take, List.length_drop, byN_len]; omega
  · rw [byN_ext, byN_drop s j (by omega), show j + 4 - j = 3 + 1 by omega, List.take_succ_cons]
  · rw [byN_ext, show j + 1 + 4 - (j + 1) = 3 + 1 by omega, List.take_succ_eq_append_getElem (by rw [List.length_drop, byN_len]; omega), List.getElem_drop]
    congr 2
    simp only [byN, List.getElem_map, show j + 1 + 3 = j + 4 by omega]
    rfl
theorem AL.one (w : World) (lo : Nat) (h : lo ≤ w.heap.size) (x : Int) : AL lo (.slice (some ⟨w.heap.size, 0, none⟩) 1 1) [x] (w.alloc (.cells #[.int .i64 x] 3)) := by
  exact ⟨rfl, .inr ⟨w.heap.size, 1, #[.int .i64 x], rfl, h, heap_last w _, Nat.le_refl _, by unfold maxLen; omega, rfl, rfl⟩⟩
theorem step_append_run {P : Program} {ops : Array Oper} {o : Oper} {a : Act} {w : World} {K : Act → World → Prop} {Q : Exit → Act → World → Prop} {E : Prop}
    (hg : o.guard = none) (s x : Operand) (t : TypeId) (hop : o.op = Op.call { callee := Callee.builtin Builtin.append, args := #[s, x], argTypes := #[t, t] })
    (v y : Value) (hs : a.eval s = v) (hx : a.eval x = y) (v' : Value) (w' : World) (hrun : ∀ ty, (Builtin.append_ #[t, t] ty #[v, y]).run P w = .ok v' w') (hK : K (a.put o.dst v') w') :
    if Region.wanted o (yielded ops a.tmps) = true then Oper.wp P o a w K Q else E := by
  have hw : Region.wanted o (yielded ops a.tmps) = true := by simp [Region.wanted, hg]
  rw [if_pos hw]
  unfold Oper.wp
  simp [execOp, hop, resolve, invoke, builtin, hs, hx, hrun, Result.andThen]
  exact hK
theorem al_but {R : Nat} {v : Value} {l : List Int} {w w' : World} (h : AL (R + 1) v l w) (b : But R w.drew w') : AL (R + 1) v l w' :=
  rw_keep h (fun k hk => by
    have := World.ownsRow.lt h k hk
    exact b.block k this.2 (by omega))
theorem wrap_i64_nat (n : Nat) (h : n < 9223372036854775808) : IntKind.i64.wrap (n : Int) = (n : Int) := by
  simp [IntKind.wrap, IntKind.bits, IntKind.signed]; omega
theorem on_win (R : Nat) (s : ByteArray) (j q : Nat) (v : World) (h : j < s.size) (hq : q = j + 4) (hqs : q < s.size) (hv : RB R (winA s j) (winB s j) v) :
    Calls Try.prog 47 #[.pointer (some ⟨R, 0, none⟩), .int .u8 s[j].toNat, .int .u8 s[q].toNat, .int .i64 4] v fun e w' => e = .returned (.int .i64 (winR s (j + 1) : Nat)) ∧ RB R (winA s (j + 1)) (winB s (j + 1)) w' ∧ But R v w' := by
  subst hq
  obtain ⟨mid, m3, e1, e2⟩ := win_step s j (by omega)
  have hx : s[j].toNat < 256 := s[j].toNat_lt
  have hy : s[j + 4].toNat < 256 := s[j + 4].toNat_lt
  have eA := onA_roll mid s[j].toNat s[j + 4].toNat hx
  have eB := onB_roll mid s[j].toNat s[j + 4].toNat hx
  rw [m3, ← e1, ← e2] at eB
  rw [← e1, ← e2] at eA
  have := on_any R (winA s j) (winB s j) s[j].toNat s[j + 4].toNat 4 v hx hy (by decide) (Nat.mod_lt _ (by decide)) (Nat.mod_lt _ (by decide)) hv
  unfold winA winB winR at *
  rw [eA, eB] at this
  exact this
set_option maxHeartbeats 400000 in
theorem along_no (s : ByteArray) (w : World) (h4 : ¬ 4 ≤ s.size) :
    Calls Try.prog 33 #[.string s] w fun e w' => ∃ v, e = .returned v ∧ AL w.heap.size v (alongT s) w' ∧ Below w.heap.size w w' := by
  have hd : decide ((s.size : Int) < 4) = true := decide_eq_true (by omega)
  have e : alongT s = [] := List.eq_nil_of_length_eq_zero (by rw [alongT_len]; omega)
  rw [e]
  go_enter Try.func33, Try.ntmps33
  go_wp2_with fail
  go_ret
  exact ⟨_, rfl, AL.nil _ _, Below.refl _ _⟩
set_option maxHeartbeats 4000000 in
theorem along_yes (s : ByteArray) (w : World) (h4 : 4 ≤ s.size) (hs : s.size ≤ 120) :
    Calls Try.prog 33 #[.string s] w fun e w' => ∃ v, e = .returned v ∧ AL w.heap.size v (alongT s) w' ∧ Below w.heap.size w w' := by
  have hd : decide ((s.size : Int) < 4) = false := decide_eq_false (by omega)
  have hc := cut_to s 4 4 rfl h4
  have HR : Hid (Calls Try.prog 44 #[.string (s.extract 0 4)] w fun e w' => e = .returned (.agg #[.int .i64 (winA s 0 : Nat), .int .i64 (winB s 0 : Nat)]) ∧ Below w.heap.size w w') := rollOf_any (s.extract 0 4) w (by rw [ext_size _ _ _ (by omega) h4]; omega)
  have HM : Hid (∀ R v, RB R (winA s 0) (winB s 0) v → Calls Try.prog 45 #[.pointer (some ⟨R, 0, none⟩)] v fun e w' => e = .returned (.int .i64 (winR s 0 : Nat)) ∧ Below v.heap.size v w' ∧ RB R (winA s 0) (winB s 0) w') := fun R v => rsum_any R (winA s 0) (winB s 0) v (Nat.mod_lt _ (by decide)) (Nat.mod_lt _ (by decide))
  have HL := hid (alongT_len s)
  have HA := hid (alongT_at s)
  generalize s.extract 0 4 = E at *
  go_enter Try.func33, Try.ntmps33
  go_wp2_with fail
  refine HR.out.mono ?_
  rintro e w1 ⟨rfl, b1⟩
  have g1 := boxB w1 (.cells #[.int .i64 (winA s 0 : Nat), .int .i64 (winB s 0 : Nat)] 69)
  have k1 := heap_last w1 (.cells #[.int .i64 (winA s 0 : Nat), .int .i64 (winB s 0 : Nat)] 69)
  generalize hW1 : w1.alloc (.cells #[.int .i64 (winA s 0 : Nat), .int .i64 (winB s 0 : Nat)] 69) = w2 at *
  have HB2 := hid (b1.trans (g1.mono b1.size))
  have HK := hid (HM.out _ _ k1)
  have hlt := kbox k1
  have hle := b1.size
  clear b1 g1 k1
  go_wp2_with fail
  refine HK.out.mono ?_
  rintro e w3 ⟨rfl, b3, r3⟩
  have HB3 := hid (HB2.out.trans (b3.mono HB2.out.size))
  have hlt3 : w1.heap.size + 1 ≤ w3.heap.size := by have := b3.size; omega
  have g4 := boxB w3 (.cells #[.int .i64 (winR s 0 : Nat)] 3)
  have HO4 := hid (AL.one w3 (w1.heap.size + 1) hlt3 (winR s 0 : Nat))
  have HB4 := hid (HB3.out.trans (g4.mono HB3.out.size))
  have HR4 := hid (r3.below g4)
  clear b3 r3 g4
  generalize hW4 : w3.alloc (.cells #[.int .i64 (winR s 0 : Nat)] 3) = w4 at *
  go_wp2_with fail
  generalize hR : w1.heap.size = R at *
  clear hR hlt hlt3 hW1
  go_loopw [4, 6] (fun o i wr => ∃ (j q : Nat) (o1 : Value), j + 4 ≤ s.size ∧ q = j + 4 ∧ i = .int .i64 q ∧ o = o1 ∧ AL (R + 1) o1 ((alongT s).take (j + 1)) wr ∧ RB R (winA s j) (winB s j) wr ∧ Below w.heap.size w wr) (fun _ i _ => s.size - (intOf i).toNat)
  case atStart =>
    refine ⟨0, 4, _, h4, rfl, rfl, rfl, ?_, HR4.out, HB4.out⟩
    have hl0 : 0 < (alongT s).length := by rw [HL.out]; omega
    rw [take_snoc _ 0 hl0, HA.out 0 hl0]
    exact HO4.out
  case round =>
    obtain ⟨j, q, _, hj, hq, rfl, rfl, hown, hrb, hbel⟩ := hrel
    have HOWN := hid hown
    have HRB9 := hid hrb
    have HBEL := hid hbel
    clear hown hrb hbel
    by_cases hlt : q < s.size
    · have hj5 : j + 5 ≤ s.size := by omega
      have hjs : j < s.size := by omega
      have HNX := hid (on_win R s j q wr.drew hjs hq hlt HRB9.out.drew)
      have hl1 : j + 1 < (alongT s).length := by rw [HL.out]; omega
      have HTK : Hid ((alongT s).take (j + 1 + 1) = (alongT s).take (j + 1) ++ [((winR s (j + 1) : Nat) : Int)]) := by
        show _ = _
        rw [take_snoc _ _ hl1, HA.out _ hl1]
      have hq4 : (q : Int) - 4 = (j : Int) := by omega
      have hq4w : IntKind.i64.wrap ((q : Int) - 4) = (j : Int) := by rw [hq4]; exact wrap_i64_nat j (by omega)
      have hjw : IntKind.i64.wrap (j : Int) = (j : Int) := wrap_i64_nat j (by omega)
      have i1 : (j : Int) < (s.size : Int) := by omega
      have i2 : (q : Int) < (s.size : Int) := by omega
      have hqs : q ≤ 120 := by omega
      have hll : (((alongT s).take (j + 1)).length) ≤ 200 := by rw [List.length_take]; have := HL.out; omega
      have HLL := hid hll
      have hszr : R + 1 ≤ wr.heap.size := HRB9.out.lt
      have HJ5 := hid hj5
      have HQ := hid hq
      clear hq hll hl1 hj5
      go_wp2_with fail
      go_region_held_law (fun _ => True) (first | exact trivial) (first | (go_at_call 47; refine HNX.out.mono ?_; rintro e w9 ⟨rfl, r9, b9⟩; obtain ⟨v', w', r1, o1, g1, z1, gb, -⟩ := (al_but HOWN.out b9).push (Nat.le_trans hszr b9.size) (winR s (j + 1) : Nat) (by have := HLL.out; omega)) | (refine step_append_run rfl _ _ 43 rfl _ _ rfl rfl _ _ r1 ?_))
      all_goals
        have HO' : Hid (AL (R + 1) v' ((alongT s).take (j + 1 + 1)) w') := by
          show AL _ _ _ _
          rw [HTK.out]
          exact o1
        have HR' : Hid (RB R (winA s (j + 1)) (winB s (j + 1)) w') := by
          have hb := r9.below (boxB w9 (.cells #[.int .i64 (winR s (j + 1) : Nat)] 3))
          exact (gb.block R hb.lt (fun e => by have := (World.ownsRow.lt HOWN.out _ e.symm).1; omega)).trans hb
        have HB' : Hid (Below w.heap.size w w') := by
          have q1 := b9.below hle (Nat.le_trans (Nat.le_of_lt (Nat.lt_succ_of_le hle)) hszr)
          have q2 : Below w.heap.size wr w9 := ⟨q1.os, q1.tape, q1.output, q1.size, q1.block⟩
          exact HBEL.out.trans (q2.trans (g1.mono (Nat.le_succ_of_le hle)))
        clear o1 g1 z1 gb r9 b9
        go_wp2_with fail
        go_roundw
        · exact ⟨j + 1, q + 1, _, by have := HJ5.out; omega, by have := HQ.out; omega, by go_num, rfl, HO'.out, HR'.out, HB'.out⟩
        · simp [intOf]; omega
    · have e : (alongT s).take (j + 1) = alongT s := List.take_of_length_le (by rw [HL.out]; omega)
      rw [e] at HOWN
      clear e
      have hqs : q ≤ 120 := by omega
      go_wp2_with fail
      go_ret
      exact ⟨_, rfl, HOWN.out.mono (by omega), HBEL.out⟩
end Go.Proofs.Ytfkcfachbfbmpaa
