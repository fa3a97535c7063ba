/- The program's inOrder: a map's blocks, rising. -/
import Derived.Test.YtmbkdollakbigaaKKp
namespace Go.Proofs.Ytmbkdollakbigaa
set_option maxRecDepth 100000
open Go Go.ChangeShapes Go.WideShapes Go.ChangeAt Go.RowKit Go.Shelf Go.Maps Go.Sort
attribute [local go_sem] Oper.semAt_some
theorem ownsMap_sameK {w w' : World} {b nn : Nat} {D : DataW Unit} (h : w.ownsMap Try.prog 3 keptE b nn D) (hb : w'.heap[b]? = w.heap[b]?) : w'.ownsMap Try.prog 3 keptE b nn D := by
  obtain ⟨es, clock, h1, h2⟩ := h
  exact ⟨es, clock, hb.trans h1, h2⟩
theorem own_cells {w : World} {lo sz : Nat} {e : TypeId} {v : Value} {n : Nat} {xs : List Value} (h : w.ownsRow lo e sz v n xs) {k : Nat} (hk : v.ownBlock = some k) : ∃ o, w.heap[k]? = some o ∧ o.isCells = true := by
  rcases h.2 with ⟨rfl, _⟩ | ⟨gb, cap, cur, rfl, _, hgb, _⟩
  · cases hk
  · have e : some gb = some k := hk
    injection e with e
    subst e
    exact ⟨_, hgb, rfl⟩
theorem cell_cells {w : World} {R k : Nat} {v : Value} (h : w.cell? ⟨R, k, none⟩ = some v) : ∃ o, w.heap[R]? = some o ∧ o.isCells = true := by
  cases ho : w.heap[R]? with
  | none => simp [World.cell?, ho] at h
  | some o =>
    cases o
    case cells => exact ⟨_, rfl, rfl⟩
    all_goals simp [World.cell?, ho] at h
set_option maxHeartbeats 4000000 in
theorem inOrd_in (n : Nat) (hn : 3 ≤ n) (l Bm M N Z n₀ NN : Nat) (D : DataW Unit) (T : Int → ByteArray) (J Jx : List Int → World → Prop)
    (W : World) (hJ : AbidesFrom W.heap.size J)
    (hY : ∀ pre x W1, J pre W1 → pre.length < NN → YieldAt Fence.wide (n - 1) Try.prog l #[.int .i64 x, .string (T x)] W1 fun e W' =>
      (e = .returned (.bool true) ∧ J (pre ++ [x]) W' ∧ KpZ n₀ Z W1 W') ∨ (e = .returned (.bool false) ∧ Jx (pre ++ [x]) W'))
    (hm : W.cell? ⟨Bm, 0, none⟩ = some (.map (some M))) (hown : W.ownsMap Try.prog 3 keptE M N D) (hT : Tells7 D T) (hsz : Maps.size D ≤ NN) (hNN : NN ≤ 9000) (hM : M < n₀) (hBm : Bm ≠ Z) (hn0 : n₀ ≤ W.heap.size) (hZ : Z < W.heap.size) (hz : ∀ k, ¬ rowIn W Z k) (h0 : J [] W) :
    CallsIn Fence.wide n Try.prog 49 #[.func (.yield l) #[] #[], .pointer (some ⟨Bm, 0, none⟩)] W fun e W' => (∃ v, e = .returned v) ∧
      ((∃ ys, ys = sortN (intKeys D) ∧ J ys W') ∨ (∃ pre, (∃ k, k ≤ (sortN (intKeys D)).length ∧ pre = (sortN (intKeys D)).take k) ∧ Jx pre W')) := by
  have h1 : 1 ≤ n := by omega
  have KD := int_keyed Try.underlying3
  obtain ⟨i0, hi, hz0, hz1, hz2⟩ := info_parts infoI
  have HY := hid hY
  have HJ := hid hJ
  have HOWN := hid hown
  have HT := hid hT
  have HM := hid hm
  have hBl : Bm < W.heap.size := by
    obtain ⟨o, ho, _⟩ := cell_cells hm
    exact (Array.getElem?_eq_some_iff.1 ho).1
  have HZ := hid hz
  have H0 := hid h0
  have hF1 : Fence.wide.fn 50 := trivial
  have hro : Fence.wide.round = none := rfl
  clear hY hJ hT hz h0
  refine callsIn_of_wp Try.func49 rfl trivial ?_ hro
  simp only [Try.ntmps49, List.size_toArray, List.length_cons, List.length_nil, Nat.reduceAdd, Nat.reduceSub, Array.replicate_succ, Array.replicate_zero, List.push_toArray, List.append_toArray, List.nil_append, List.cons_append]
  gi_wp2_with (first
    | (gi_at_range; refine wpListIn_range_own _ rfl _ 46 rfl 3 53 KD Try.underlying46 _ M N _ rfl hown ?_; intro w0 hr0 hg0 hs0)
    | gi_in)
  clear hm hown
  have HG0 := hid hg0
  have HR0 := hid hr0
  have hB0 : Below W.heap.size W w0 := ⟨hg0.os, hg0.tape, hg0.output, hg0.size, fun k hk => hg0.block k hk (by simp)⟩
  have HB0 := hid hB0
  clear hg0 hr0 hB0 hs0
  go_frame
  gi_loopw [3] (fun s wr => ∃ (left : Lit → Bool) (cnt : Nat) (ss : List Int), wr.ranges Try.prog 3 keptE M W.heap.size N D left cnt ∧ ss.length + cnt ≤ Maps.size D ∧ CollectedI D left ss ∧ wr.ownsRow W.heap.size 3 1 s ss.length (ivals ss) ∧ Below W.heap.size W wr) (fun _ wr => wr.rangeLeft M W.heap.size)
  case atStart => exact ⟨_, _, [], HR0.out, by simp, CollectedI.start D, World.ownsRow_nil _ _ _ _, HB0.out⟩
  case round =>
    obtain ⟨left, cnt, ss, hrg, hcs, hC, hrow, hbel⟩ := hrel
    have HC := hid hC
    have HROW := hid hrow
    have HBEL := hid hbel
    have HRG := hid hrg
    have HLE := hid hrg.left_eq
    clear hC hrow hbel
    gi_wp2_with (first
      | (gi_at_next; refine wpListIn_next_ranges _ rfl _ rfl 3 KD keptE encZ (fun s : ByteArray => Value.agg #[.string s]) (fun key kl hk => by obtain ⟨x, hx, _⟩ := Maps.keyOf_i64 Try.underlying3 hk; exact ⟨x, hx⟩) (fun v y hy => keptE_inv0 hy) M W.heap.size N _ _ _ rfl hrg ?_ ?_)
      | gi_in)
    · intro hc0 hl0
      have HP : Hid (ss.Perm (intKeys D)) := HC.out.perm HRG.out.owns KD Try.underlying3 hl0
      have HAS : Hid (∀ x ∈ ss, has D (.int .i64 x) = true) := fun x hx => ((HC.out.2 x).1 hx).1
      have HWF : Hid (∀ x ∈ ss, (Lit.int .i64 x).wf = true) := fun x hx => intKeys_wf HRG.out.owns Try.underlying3 x (HP.out.mem_iff.1 hx)
      have HSE : Hid (sortN (intKeys D) = sortN ss) := sorted_eqK (sortN_sorted _) (sortN_sorted _) ((sortN_perm _).trans (HP.out.symm.trans (sortN_perm _).symm))
      have hlen : ss.length ≤ 9000 := by omega
      have HLN : Hid (ss.length ≤ NN) := by show ss.length ≤ NN; omega
      have HSL : Hid ((sortN ss).length = ss.length) := sortN_len ss
      have HSM : Hid (∀ x, x ∈ sortN ss ↔ x ∈ ss) := fun x => sortN_mem
      obtain ⟨a5, c5, hv5⟩ := rw_form HROW.out
      subst hv5
      have HS := hid (sortK W.heap.size _ ss wr hlen HROW.out HBEL.out.size)
      have HB1 := hid HBEL.out
      clear hc0 hl0 HC HRG HROW HBEL hlen
      generalize hL : sortN ss = L at *
      have HEQ : Hid (L = sortN (intKeys D)) := HSE.out.symm
      clear HSE hL
      have HEL : Hid (L.length = ss.length) := HSL.out
      have HLM : Hid (∀ x ∈ L, has D (.int .i64 x) = true ∧ (Lit.int .i64 x).wf = true) := fun x hx => ⟨HAS.out x ((HSM.out x).1 hx), HWF.out x ((HSM.out x).1 hx)⟩
      clear HAS HWF HSM HSL HP
      gi_wp2_with (gi_at_call 50; refine (callsIn_wide.2 HS.out).mono ?_; rintro e w5 ⟨rfl, o5, b5⟩)
      rw [← HEL.out] at o5 ⊢
      have HLN2 : Hid (L.length ≤ NN) := by show L.length ≤ NN; rw [HEL.out]; exact HLN.out
      have HB5 : Hid (Below W.heap.size W w5) := HB1.out.trans b5
      have HJ5 : Hid (J [] w5) := HJ.out [] W w5 none H0.out ⟨HB5.out.os, HB5.out.tape, HB5.out.output, HB5.out.size, fun k hk _ => HB5.out.block k hk⟩ (fun r e => by cases e)
      obtain ⟨b6, c6, e6, hO⟩ := own_ints o5
      injection e6 with e7 _ _
      subst e7
      have HO := hid hO
      have HNR : Hid (∀ k, ¬ rowIn w5 Z k) := fun k hr => HZ.out k (rowIn_same (HB5.out.block Z hZ) hr)
      clear HS HEL HLN HB1 b5 o5 hO
      gi_wp2
      gi_loopw [21] (fun i wr => ∃ k : Nat, k ≤ L.length ∧ i = .int .i64 k ∧ J (L.take k) wr ∧ w5.heap.size ≤ wr.heap.size ∧ Below n₀ W wr ∧ (∀ R, a5 = some ⟨R, 0, none⟩ → IRow R L w5 → wr.heap[R]? = w5.heap[R]? ∧ ¬ rowIn wr Z R) ∧ wr.heap[Bm]? = W.heap[Bm]? ∧ ¬ rowIn wr Z Bm) (fun i _ => L.length - (intOf i).toNat)
      case atStart => exact ⟨0, Nat.zero_le _, rfl, by simpa using HJ5.out, Nat.le_refl _, HB5.out.mono hn0, fun R _ _ => ⟨rfl, HNR.out R⟩, HB5.out.block Bm hBl, HNR.out Bm⟩
      case round =>
        obtain ⟨k, hk, rfl, hj, hsz5, hbn, hrow, hbm1, hbm2⟩ := hrel
        have HBM := hid hbm1
        have HBN2 := hid hbm2
        have HJK := hid hj
        have HBN := hid hbn
        have HRW := hid hrow
        have HS5 := hid hsz5
        clear hj hbn hrow hsz5 hbm1 hbm2
        by_cases hlt : k < L.length
        · rcases HO.out with hnil | ⟨R, hR1, hR2, rfl, hR4⟩
          · rw [hnil] at hlt; cases hlt
          have hRR := HRW.out R rfl hR4
          have HIW : Hid (IRow R L wr) := hR4.same HS5.out hRR.1
          have x0 := HIW.out.cell k hlt
          have hm0 : wr.cell? ⟨Bm, 0, none⟩ = some (.map (some M)) := (show wr.cell? ⟨Bm, 0, none⟩ = W.cell? ⟨Bm, 0, none⟩ by simp [World.cell?, HBM.out]).trans HM.out
          obtain ⟨hha, hwf⟩ := HLM.out _ (List.getElem_mem hlt)
          have hownR : wr.ownsMap Try.prog 3 keptE M N D := ownsMap_sameK HOWN.out (HBN.out.block M hM)
          obtain ⟨v, ps, hrun, hv⟩ := hownR.lookup KD Try.underlying46 (Try.zeroValue53 wr) (keptE_mk _) (Maps.keyOf_int_mk Try.underlying3 hwf)
          have hat : ∀ zd, D.atKey (.int .i64 L[k]) zd = .lit (.string (T L[k]).data.toList) := by
            rcases HT.out.2 L[k] with ⟨_, h2⟩ | ⟨h1, _⟩
            · exact h2
            · rw [hha] at h1; cases h1
          rw [hat] at hv
          obtain ⟨s, rfl, hs⟩ := keptE_inv hv
          have hst : T L[k] = s := by
            have : (T L[k]).data = s.data := Array.toList_inj.1 hs.symm
            cases hq : T L[k]; cases s; simp_all
          have HYk := hid (HY.out (L.take k) L[k] wr HJK.out (by rw [List.length_take]; have := HLN2.out; omega))
          have hts : L.take k ++ [L[k]] = L.take (k + 1) := (List.take_succ_eq_append_getElem hlt).symm
          rw [hst, hts] at HYk
          have HTR : Hid (wr.heap[R]? = w5.heap[R]? ∧ ¬ rowIn wr Z R) := hRR
          have hRc : ∃ o, wr.heap[R]? = some o ∧ o.isCells = true := cell_cells x0
          have hkb : k < 9000 := by have := HLN2.out; omega
          have HRC := hid hRc
          have hRZ : R ≠ Z := by omega
          clear hha hownR hv hat hs hst hts hwf hRR hRc
          generalize L[k] = x at *
          have hfld : Sem.run Try.prog (Instr.field 53 (.agg #[.string s]) 0) wr = .ok (.string s) wr := by first | rfl | (kernel_rfl)
          obtain ⟨fn, tmps, assign, body, hy, hRn⟩ := HYk.out
          clear HYk
          gi_wp2
          refine hRn.mono ?_
          rintro e W3 (⟨rfl, hJ3, hk3⟩ | ⟨rfl, hJx3⟩)
          · have HJ3 := hid hJ3
            have HB3 : Hid (Below n₀ W W3) := HBN.out.trans hk3.bel
            have HSZ3 : Hid (w5.heap.size ≤ W3.heap.size) := Nat.le_trans HS5.out hk3.bel.size
            have HR3 : Hid (∀ R', some (⟨R, 0, none⟩ : Addr) = some ⟨R', 0, none⟩ → IRow R' L w5 → W3.heap[R']? = w5.heap[R']? ∧ ¬ rowIn W3 Z R') := fun R' e _ => by
              injection e with e
              injection e with e _ _
              subst e
              obtain ⟨o, ho, hoc⟩ := HRC.out
              refine ⟨(hk3.cells R o ho hoc hRZ HTR.out.2).trans (ho.symm.trans HTR.out.1), fun hr => ?_⟩
              rcases hk3.rows R hr with h | h
              · exact HTR.out.2 h
              · have := (Array.getElem?_eq_some_iff.1 ho).1; omega
            have HBM3 : Hid (W3.heap[Bm]? = W.heap[Bm]? ∧ ¬ rowIn W3 Z Bm) := by
              obtain ⟨o, ho, hoc⟩ := cell_cells HM.out
              refine ⟨(hk3.cells Bm o (HBM.out.trans ho) hoc hBm HBN2.out).trans ho.symm, fun hr => ?_⟩
              rcases hk3.rows Bm hr with h | h
              · exact HBN2.out h
              · have := (Array.getElem?_eq_some_iff.1 (HBM.out.trans ho)).1; omega
            clear hJ3 hk3 hRn
            gi_wp2
            go_roundw
            case rel => exact ⟨k + 1, hlt, by go_num, HJ3.out, HSZ3.out, HB3.out, HR3.out, HBM3.out.1, HBM3.out.2⟩
            case measure => simp [intOf]; omega
          · have HJX := hid hJx3
            clear hJx3 hRn
            gi_wp2
            refine bodyPost_ret (results_none rfl _ _ _) rfl ?_
            exact ⟨⟨_, rfl⟩, .inr ⟨_, ⟨k + 1, by rw [← HEQ.out]; exact hlt, by rw [← HEQ.out]⟩, HJX.out⟩⟩
        · obtain rfl : k = L.length := by omega
          rw [List.take_length] at HJK
          gi_wp2
          go_end0
          exact ⟨⟨_, rfl⟩, .inl ⟨_, HEQ.out, HJK.out⟩⟩
    · intro x c kl yd yp w2 cnt2 hkey hlk hv hat hrg2 hlt hg2 hs2 hen
      obtain ⟨x', ex, rfl, _⟩ := Maps.keyOf_i64 Try.underlying3 hkey
      obtain rfl : x = x' := encZ_inj ex
      have hr2 : wr.heap[W.heap.size]? = wr.heap[W.heap.size]? ∧ ∀ q, (∃ o, wr.heap[q]? = some o ∧ o.isCells = true) → q ≠ W.heap.size := ⟨rfl, fun q hq e => by
        obtain ⟨o, ho, hc⟩ := hq
        obtain ⟨es, clock, since, seen, c0, _, _, _, _, hit, _⟩ := HRG.out
        rw [e, hit] at ho
        cases ho; cases hc⟩
      have hrow2 := rw_keep HROW.out (fun q hq => hg2.block q (HROW.out.lt q hq).2 (fun e => by injection e with e; exact hr2.2 q (own_cells HROW.out hq) e))
      have hB2 : Below W.heap.size W w2 := HBEL.out.trans ⟨hg2.os, hg2.tape, hg2.output, hg2.size, fun k hk => hg2.block k (Nat.lt_of_lt_of_le hk HBEL.out.size) (fun e => by injection e with e; omega)⟩
      have HC2 : Hid (CollectedI D (fun z => left z && !z.sameKey (.int .i64 x)) (ss ++ [x])) := HC.out.step hlk hat
      have hnz : ∀ q o, w2.heap[q]? = some o → o.isCells = true → q ≠ W.heap.size := fun q o ho hc e => by
        obtain ⟨es, clock, since, seen, c0, _, _, _, _, hit, _⟩ := hrg2
        rw [e, hit] at ho
        cases ho; cases hc
      have hs2' : W.heap.size ≤ w2.heap.size := hB2.size
      have hnM : ∀ q, (∃ o, w2.heap[q]? = some o ∧ o.isCells = true) → q ≠ M := fun q hq e => by
        obtain ⟨o, ho, hc⟩ := hq
        obtain ⟨es, clock, since, seen, c0, hmm, _⟩ := hrg2
        rw [e, hmm] at ho
        cases ho; cases hc
      have HRG2 := hid hrg2
      have HROW2 := hid hrow2
      have HB2 := hid hB2
      have HNZ := hid hnz
      have HNM := hid hnM
      have hlen2 : ss.length + 1 ≤ 9000 := by omega
      have hcs2 : ss.length + 1 + cnt2 ≤ Maps.size D := by omega
      clear hr2 hnz hnM hB2 hrg2 hg2 hs2 HC HRG HROW HBEL hlk hat hv hkey hrg
      gi_wp2_with (first
        | (gi_at_builtin; refine wpListIn_append_own _ rfl _ _ 26 rfl W.heap.size 3 i0 (.int .i64 0) 1 8 Try.underlying26 hi hz0 hz1 hz2 rfl (by decide) _ _ _ rfl (hrow2.alloc _) ⟨w2.heap.size, 0, none⟩ 1 1 [.int .i64 x] rfl rfl (cell_one_new _ _ _) (by simp [Value.oneCell']) (by unfold maxLen; omega) (by omega) (by simp; omega) ?_; intro v' w3 hown' hgrow _)
        | gi_in)
      have hlt2 : w2.heap.size < (w2.alloc (.cells #[.int .i64 x] 3)).heap.size := by simp
      have hrg3 := (HRG2.out.alloc (.cells #[.int .i64 x] 3)).kept hgrow (fun e => HNM.out M (own_cells HROW2.out e.symm) rfl) (fun e => HNZ.out _ _ (own_cells HROW2.out e.symm).choose_spec.1 (own_cells HROW2.out e.symm).choose_spec.2 rfl)
      have hb3 : Below W.heap.size W w3 := (HB2.out.alloc HB2.out.size _).trans (below_of_grown hgrow (Nat.le_trans HB2.out.size (Nat.le_of_lt hlt2)) (fun k hk => (HROW2.out.lt k hk).1))
      have hle : w3.rangeLeft M W.heap.size < wr.rangeLeft M W.heap.size := by rw [hrg3.left_eq, HLE.out]; exact hlt
      have hiv : ivals ss ++ [.int .i64 x] = ivals (ss ++ [x]) := by simp [ivals]
      rw [hiv] at hown'
      have HOWN3 : Hid (w3.ownsRow W.heap.size 3 1 v' (ss ++ [x]).length (ivals (ss ++ [x]))) := by
        show w3.ownsRow _ _ _ _ _ _
        rw [List.length_append, List.length_singleton]; exact hown'
      have HR3 := hid hrg3
      have HB3 := hid hb3
      have HLE3 := hid hle
      clear hrg3 hb3 hle hiv hown' hgrow hrow2
      gi_wp2
      go_roundw
      case rel => exact ⟨_, cnt2, ss ++ [x], HR3.out, by simp; omega, HC2.out, HOWN3.out, HB3.out⟩
      case measure => exact HLE3.out
theorem inOrd_stops (n : Nat) (hn : 3 ≤ n) (Bm M N Z n₀ NN : Nat) (D : DataW Unit) (T : Int → ByteArray) (w : World) (hm : w.cell? ⟨Bm, 0, none⟩ = some (.map (some M))) (hown : w.ownsMap Try.prog 3 keptE M N D) (hT : Tells7 D T) (hsz : Maps.size D ≤ NN) (hNN : NN ≤ 9000) (hM : M < n₀) (hBm : Bm ≠ Z) (hn0 : n₀ ≤ w.heap.size) (hZ : Z < w.heap.size) (hz : ∀ k, ¬ rowIn w Z k) :
    SeqStopsK Fence.wide n Try.prog 49 #[.pointer (some ⟨Bm, 0, none⟩)] (fun x : Int => #[Value.int .i64 x, .string (T x)]) (KpZ n₀ Z) (fun ys => ys = sortN (intKeys D)) (fun pre => ∃ k, k ≤ (sortN (intKeys D)).length ∧ pre = (sortN (intKeys D)).take k) NN w := fun l J Jx W hW hJ _ hY h0 => by
  have hBl : Bm < w.heap.size := by
    obtain ⟨o, ho, _⟩ := cell_cells hm
    exact (Array.getElem?_eq_some_iff.1 ho).1
  exact inOrd_in n hn l Bm M N Z n₀ NN D T J Jx W hJ hY ((hW.cell (p := ⟨Bm, 0, none⟩) hBl).trans hm) (ownsMap_sameK hown (hW.block M (Nat.lt_of_lt_of_le hM hn0))) hT hsz hNN hM hBm (Nat.le_trans hn0 hW.size) (Nat.lt_of_lt_of_le hZ hW.size) (fun k hr => hz k (rowIn_same (hW.block Z hZ) hr)) h0
theorem inOrder_any (M : Nat) (w : World) : Calls Try.prog 28 #[.map (some M)] w fun e w' => e = .returned (.func (.func 49) #[] #[.pointer (some ⟨w.heap.size, 0, none⟩)]) ∧ w' = w.alloc (.cells #[.map (some M)] 46) := by
  go_enter Try.func28, Try.ntmps28
  go_wp2_with fail
  go_ret
  exact ⟨rfl, rfl⟩
end Go.Proofs.Ytmbkdollakbigaa
