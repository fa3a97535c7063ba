/- The model's search for the least way. -/
import Derived.Test.YtpjmblhfahbopaaALeM
import Derived.Test.YtpjmblhfahbopaaASwp
namespace Go.Proofs.Ytpjmblhfahbopaa
set_option maxRecDepth 100000
open Go Go.ChangeShapes Go.WideShapes Go.ChangeAt Go.RowKit
theorem ret_i {a b : Int} (h : a = b) : Ending.returned (.int .i64 a) = .returned (.int .i64 b) := by rw [h]
set_option maxHeartbeats 1500000 in
theorem least_step (n : Nat) (l : List Int) (hl : l.length = n + 1) (s more best : Int) (a : Option Addr) (cap : Nat) (w : World) (hn : n + 1 ≤ 8) (hs : 0 ≤ s ∧ s ≤ 200) (hL : ∀ x ∈ l, (0 : Int) ≤ x ∧ x ≤ 200) (hm : 0 ≤ more ∧ more ≤ 100000 - 400 * (n + 1 : Nat)) (hb0 : 0 ≤ best ∧ best ≤ 100000) (hc : l.length ≤ cap) (hZ : Is w.heap.size a l w)
    (ih : ∀ (m : List Int), m.length = n → ∀ (s more best : Int) (a : Option Addr) (cap : Nat) (w : World), n ≤ 8 → 0 ≤ s ∧ s ≤ 200 → (∀ x ∈ m, (0 : Int) ≤ x ∧ x ≤ 200) → 0 ≤ more ∧ more ≤ 100000 - 400 * (n : Nat) → 0 ≤ best ∧ best ≤ 100000 → m.length ≤ cap → Is w.heap.size a m w →
      Calls Try.prog 36 #[.int .i64 s, .slice a m.length cap, .int .i64 more, .int .i64 best] w fun e w' => e = .returned (.int .i64 (min best (more + costI s m))) ∧ Below w.heap.size w w') :
    Calls Try.prog 36 #[.int .i64 s, .slice a l.length cap, .int .i64 more, .int .i64 best] w fun e w' => e = .returned (.int .i64 (min best (more + costI s l))) ∧ Below w.heap.size w w' := by
  have HLN := hid hl
  have h8 : l.length ≤ 8 := by omega
  have h1 : 1 ≤ l.length := by omega
  clear hl hn
  by_cases hmb : best ≤ more
  · have hd : decide (best ≤ more) = true := decide_eq_true hmb
    have e : min best (more + costI s l) = best := by have := cost_nonneg s l; omega
    rw [e]
    clear e ih hZ
    go_enter Try.func36, Try.ntmps36
    go_wp2
    go_ret
    exact ⟨rfl, Below.refl _ _⟩
  have hd : decide (best ≤ more) = false := decide_eq_false hmb
  have HZ := hid hZ
  have HL : Hid (∀ x ∈ l, (0 : Int) ≤ x ∧ x ≤ 200) := hL
  have HS := hid hs
  have hd0 : ((l.length : Int) == 0) = false := by rw [beq_eq_false_iff_ne]; omega
  have HST := hid (Best.start s l more best)
  have IH := hid ih
  clear hZ hL hs hmb ih
  go_enter Try.func36, Try.ntmps36
  go_wp2_with fail
  go_loopw [3, 22] (fun o i wr => ∃ (k : Nat) (bk : Int), k ≤ l.length ∧ i = .int .i64 k ∧ o = .int .i64 bk ∧ Best s l more best k bk ∧ Below w.heap.size w wr) (fun _ i _ => l.length - (intOf i).toNat)
  case atStart => exact ⟨0, _, Nat.zero_le _, rfl, rfl, HST.out, Below.refl _ _⟩
  case round =>
    obtain ⟨k, bk, hk, rfl, rfl, hbest, hbel⟩ := hrel
    have HBEST := hid hbest
    have HBEL := hid hbel
    have hszr := hbel.size
    clear hbel
    by_cases hlt : k < l.length
    · obtain ⟨b, off, rfl, hb, hcl⟩ := HZ.out.cell (by omega)
      have x0 := (HBEL.out.cell (p := ⟨b, off + k, none⟩) hb).trans (hcl k hlt)
      have hx := HL.out l[k] (List.getElem_mem hlt)
      have hbb : 0 ≤ bk ∧ bk ≤ 100000 := by
        refine ⟨?_, by have := hbest.le; omega⟩
        rcases hbest.one with e | ⟨j, hj, e⟩
        · omega
        · have := next_ge s l j (by omega); have := cost_nonneg s l; omega
      have hst0 : upN s l[k] + upN l[k] s ≤ 400 := by have := upN_le s l[k] HS.out hx; have := upN_le l[k] s hx HS.out; omega
      have ih := IH.out
      clear hcl hbest HST
      rcases Nat.lt_or_ge (k + 1) cap with hcc | hcc
      · have hc1 : cap ≠ k + 1 := by omega
        have hc0 : cap - (k + 1) ≠ 0 := by omega
        have hT : (l.take k).length = k := by rw [List.length_take]; omega
        have hD : (l.drop (k + 1)).length = l.length - (k + 1) := by rw [List.length_drop]
        have hIs : Is wr.heap.size (some ⟨b, off, none⟩) l wr := (HZ.out.below HBEL.out).mono hszr
        have hW1 := boxB wr (.cells #[] 3)
        obtain ⟨v1, w1, r1, o1, g1, -⟩ := (AL.lit wr).app hW1.size (some ⟨b, off, none⟩) cap (l.take k) (((is_take hIs k).below hW1).mono hW1.size) (by rw [List.length_take]; simp; omega)
        rw [hT] at r1
        rw [List.nil_append] at o1
        have hg1 : Below wr.heap.size wr w1 := hW1.trans g1
        obtain ⟨v2, w2, r2, o2, g2, -⟩ := o1.app hg1.size (some ⟨b, off + (k + 1), none⟩) (cap - (k + 1)) (l.drop (k + 1)) (((is_drop hIs (k + 1)).below hg1).mono hg1.size) (by simp; omega)
        rw [hD] at r2
        rw [← List.eraseIdx_eq_take_drop_succ] at o2
        have hg2 : Below wr.heap.size wr w2 := hg1.trans g2
        obtain ⟨a2, c2, rfl, hown2, hcap2⟩ := o2.own
        have hlen2 : Hid ((l.eraseIdx k).length = n) := by
          show _ = _
          have := HLN.out
          rw [List.length_eraseIdx, if_pos hlt]; omega
        have HWY := hid (l8Way_any s l[k] w2 HS.out hx)
        have HRC := hid (ih (l.eraseIdx k) hlen2.out l[k] (more + ((upN s l[k] + upN l[k] s : Nat) : Int)) bk a2 c2 w2 (by have := HLN.out; omega) hx (fun y hy => HL.out y (List.mem_of_mem_eraseIdx hy)) (by omega) hbb hcap2 hown2.is)
        have HNX : Hid (more + ((upN s l[k] + upN l[k] s : Nat) : Int) + costI l[k] (l.eraseIdx k) = more + nextI s l k) := by
          show _ = _
          unfold nextI stepN
          rw [getD_at l k hlt]; omega
        have HB2 : Hid (Below w.heap.size w w2) := HBEL.out.trans (hg2.mono hszr)
        have hst : upN s l[k] + upN l[k] s ≤ 400 := by have := upN_le s l[k] HS.out hx; have := upN_le l[k] s hx HS.out; omega
        clear o1 o2 g1 g2 hg1 hg2 hW1 hIs hown2 hx
        clear hlen2
        generalize l.eraseIdx k = E at *
        generalize l[k] = x at *
        generalize upN s x + upN x s = st at *
        clear hT hD
        go_wp2_with (first | (go_at_call 41; refine HWY.out.mono ?_; rintro e w3 ⟨rfl, hw3⟩; rw [hw3]; clear hw3) | (at_builtin; refine wpList_append_run rfl (.tmp 27) (.tmp 30) 23 rfl _ _ rfl rfl _ _ r1 ?_) | (at_builtin; refine wpList_append_run rfl (.tmp 33) (.tmp 37) 23 rfl _ _ rfl rfl _ _ r2 ?_))
        refine HRC.out.mono ?_
        rintro e w4 ⟨rfl, b4⟩
        have HB4 : Hid (Below w.heap.size w w4) := HB2.out.trans (b4.mono HB2.out.size)
        rw [HNX.out]
        have HBE := hid HBEST.out.step
        clear b4 HB2 HBEL HNX HBEST
        go_wp2
        go_roundw
        case rel => exact ⟨k + 1, _, by omega, by go_num, rfl, HBE.out, HB4.out⟩
        case measure => simp [intOf]; omega
      · obtain rfl : cap = k + 1 := by omega
        have hnil : Is wr.heap.size (some ⟨b, off, none⟩) (l.drop (k + 1)) wr := by rw [List.drop_of_length_le (by omega)]; exact is_nil _ _ _
        have hT : (l.take k).length = k := by rw [List.length_take]; omega
        have hD : (l.drop (k + 1)).length = 0 := by rw [List.length_drop]; omega
        have hIs : Is wr.heap.size (some ⟨b, off, none⟩) l wr := (HZ.out.below HBEL.out).mono hszr
        have hW1 := boxB wr (.cells #[] 3)
        obtain ⟨v1, w1, r1, o1, g1, -⟩ := (AL.lit wr).app hW1.size (some ⟨b, off, none⟩) (k + 1) (l.take k) (((is_take hIs k).below hW1).mono hW1.size) (by rw [List.length_take]; simp; omega)
        rw [hT] at r1
        rw [List.nil_append] at o1
        have hg1 : Below wr.heap.size wr w1 := hW1.trans g1
        obtain ⟨v2, w2, r2, o2, g2, -⟩ := o1.app hg1.size (some ⟨b, off, none⟩) 0 (l.drop (k + 1)) ((hnil.below hg1).mono hg1.size) (by simp; omega)
        rw [hD] at r2
        rw [← List.eraseIdx_eq_take_drop_succ] at o2
        have hg2 : Below wr.heap.size wr w2 := hg1.trans g2
        obtain ⟨a2, c2, rfl, hown2, hcap2⟩ := o2.own
        have hlen2 : Hid ((l.eraseIdx k).length = n) := by
          show _ = _
          have := HLN.out
          rw [List.length_eraseIdx, if_pos hlt]; omega
        have HWY := hid (l8Way_any s l[k] w2 HS.out hx)
        have HRC := hid (ih (l.eraseIdx k) hlen2.out l[k] (more + ((upN s l[k] + upN l[k] s : Nat) : Int)) bk a2 c2 w2 (by have := HLN.out; omega) hx (fun y hy => HL.out y (List.mem_of_mem_eraseIdx hy)) (by omega) hbb hcap2 hown2.is)
        have HNX : Hid (more + ((upN s l[k] + upN l[k] s : Nat) : Int) + costI l[k] (l.eraseIdx k) = more + nextI s l k) := by
          show _ = _
          unfold nextI stepN
          rw [getD_at l k hlt]; omega
        have HB2 : Hid (Below w.heap.size w w2) := HBEL.out.trans (hg2.mono hszr)
        have hst : upN s l[k] + upN l[k] s ≤ 400 := by have := upN_le s l[k] HS.out hx; have := upN_le l[k] s hx HS.out; omega
        clear o1 o2 g1 g2 hg1 hg2 hW1 hIs hown2 hx
        clear hlen2
        generalize l.eraseIdx k = E at *
        generalize l[k] = x at *
        generalize upN s x + upN x s = st at *
        clear hT hD
        go_wp2_with (first | (go_at_call 41; refine HWY.out.mono ?_; rintro e w3 ⟨rfl, hw3⟩; rw [hw3]; clear hw3) | (at_builtin; refine wpList_append_run rfl (.tmp 27) (.tmp 30) 23 rfl _ _ rfl rfl _ _ r1 ?_) | (at_builtin; refine wpList_append_run rfl (.tmp 33) (.tmp 37) 23 rfl _ _ rfl rfl _ _ r2 ?_))
        refine HRC.out.mono ?_
        rintro e w4 ⟨rfl, b4⟩
        have HB4 : Hid (Below w.heap.size w w4) := HB2.out.trans (b4.mono HB2.out.size)
        rw [HNX.out]
        have HBE := hid HBEST.out.step
        clear b4 HB2 HBEL HNX HBEST
        go_wp2
        go_roundw
        case rel => exact ⟨k + 1, _, by omega, by go_num, rfl, HBE.out, HB4.out⟩
        case measure => simp [intOf]; omega
    · obtain rfl : k = l.length := by omega
      have HE := hid (HBEST.out.done (by omega))
      clear hbest
      go_wp2
      go_ret
      exact ⟨ret_i HE.out, HBEL.out⟩
set_option maxHeartbeats 1000000 in
theorem least_none (s more best : Int) (a : Option Addr) (cap : Nat) (w : World) : Calls Try.prog 36 #[.int .i64 s, .slice a 0 cap, .int .i64 more, .int .i64 best] w fun e w' => e = .returned (.int .i64 (min best (more + costI s []))) ∧ Below w.heap.size w w' := by
  rw [cost_nil, Int.add_zero]
  by_cases hmb : best ≤ more
  · have hd : decide (best ≤ more) = true := decide_eq_true hmb
    have e : min best more = best := by omega
    rw [e]
    clear e
    go_enter Try.func36, Try.ntmps36
    go_wp2
    go_ret
    exact ⟨rfl, Below.refl _ _⟩
  · have hd : decide (best ≤ more) = false := decide_eq_false hmb
    have e : min best more = more := by omega
    rw [e]
    clear e hmb
    go_enter Try.func36, Try.ntmps36
    go_wp2
    go_ret
    exact ⟨rfl, Below.refl _ _⟩
theorem least_any : ∀ (n : Nat) (m : List Int), m.length = n → ∀ (s more best : Int) (a : Option Addr) (cap : Nat) (w : World), n ≤ 8 → 0 ≤ s ∧ s ≤ 200 → (∀ x ∈ m, (0 : Int) ≤ x ∧ x ≤ 200) → 0 ≤ more ∧ more ≤ 100000 - 400 * (n : Nat) → 0 ≤ best ∧ best ≤ 100000 → m.length ≤ cap → Is w.heap.size a m w →
      Calls Try.prog 36 #[.int .i64 s, .slice a m.length cap, .int .i64 more, .int .i64 best] w fun e w' => e = .returned (.int .i64 (min best (more + costI s m))) ∧ Below w.heap.size w w'
  | 0, m, hm, s, more, best, a, cap, w, _, _, _, _, _, _, _ => by
    obtain rfl : m = [] := List.eq_nil_of_length_eq_zero hm
    exact least_none s more best a cap w
  | n + 1, m, hm, s, more, best, a, cap, w, h8, hs, hL, h1, h2, hc, hZ => least_step n m hm s more best a cap w h8 hs hL h1 h2 hc hZ (least_any n)
end Go.Proofs.Ytpjmblhfahbopaa
