/- The model's GoodWindow: its walk. -/
import Derived.Test.YtaiilhhkfjlkoaaNGi
namespace Go.Proofs.Ytaiilhhkfjlkoaa
set_option maxRecDepth 100000
open Go.ChangeShapes Go.WideShapes Go.ChangeAt Go.RowKit
set_option maxHeartbeats 8000000 in
theorem sgoodW_any (A : Ad) (X : Wd) (w : World) (hf : FitW X) (h : WR w.heap.size A X w) :
    Calls Try.prog 19 #[.agg #[.slice A.p X.pc.length A.kp, .int .i64 X.sz, .slice A.h X.hd.length A.kh, .slice A.l X.ln.length A.kl, .slice A.e X.hl.length A.ke, .slice A.s X.hs.length A.ks, .int .i64 X.td]] w fun e w' => e = .returned (.bool (goodW X)) ∧ Below w.heap.size w w' := by
  obtain ⟨ap, kp, ah, kh, al, kl, ae, ke, aq, kq⟩ := A
  show Calls Try.prog 19 #[.agg #[.slice ap X.pc.length kp, .int .i64 X.sz, .slice ah X.hd.length kh, .slice al X.ln.length kl, .slice ae X.hl.length ke, .slice aq X.hs.length kq, .int .i64 X.td]] w _
  have HZ : Hid (∀ v, Below w.heap.size w v → WR v.heap.size ⟨ap, kp, ah, kh, al, kl, ae, ke, aq, kq⟩ X v) := fun v g => h.up g g.size
  have HF := hid hf
  have HX : Hid (∀ v, Below (w.alloc (.cells #[.slice ap X.pc.length kp, .int .i64 X.sz, .slice ah X.hd.length kh, .slice al X.ln.length kl, .slice ae X.hl.length ke, .slice aq X.hs.length kq, .int .i64 X.td] 27)).heap.size (w.alloc (.cells #[.slice ap X.pc.length kp, .int .i64 X.sz, .slice ah X.hd.length kh, .slice al X.ln.length kl, .slice ae X.hl.length ke, .slice aq X.hs.length kq, .int .i64 X.td] 27)) v → v.cell? ⟨w.heap.size, 0, none⟩ = some (.slice ap X.pc.length kp) ∧ v.cell? ⟨w.heap.size, 1, none⟩ = some (.int .i64 X.sz) ∧ v.cell? ⟨w.heap.size, 2, none⟩ = some (.slice ah X.hd.length kh) ∧ v.cell? ⟨w.heap.size, 3, none⟩ = some (.slice al X.ln.length kl) ∧ v.cell? ⟨w.heap.size, 4, none⟩ = some (.slice ae X.hl.length ke) ∧ v.cell? ⟨w.heap.size, 5, none⟩ = some (.slice aq X.hs.length kq) ∧ v.cell? ⟨w.heap.size, 6, none⟩ = some (.int .i64 X.td)) := fun v g => by
    have h1 : v.heap[w.heap.size]? = some (.cells #[.slice ap X.pc.length kp, .int .i64 X.sz, .slice ah X.hd.length kh, .slice al X.ln.length kl, .slice ae X.hl.length ke, .slice aq X.hs.length kq, .int .i64 X.td] 27) := (g.block _ (by simp)).trans (heap_last _ _)
    exact ⟨box_cell h1 0, box_cell h1 1, box_cell h1 2, box_cell h1 3, box_cell h1 4, box_cell h1 5, box_cell h1 6⟩
  have HB := hid (boxB w (.cells #[.slice ap X.pc.length kp, .int .i64 X.sz, .slice ah X.hd.length kh, .slice al X.ln.length kl, .slice ae X.hl.length ke, .slice aq X.hs.length kq, .int .i64 X.td] 27))
  have n1 := hf.p
  have n2 := hf.h
  have n3 := hf.l
  have n4 := hf.e
  have n5 := hf.s
  clear h hf
  go_enter Try.func19, Try.ntmps19
  go_wp2_with fail
  generalize w.alloc (.cells #[.slice ap X.pc.length kp, .int .i64 X.sz, .slice ah X.hd.length kh, .slice al X.ln.length kl, .slice ae X.hl.length ke, .slice aq X.hs.length kq, .int .i64 X.td] 27) = W at *
  obtain ⟨x0, x1, x2, x3, x4, x5, x6⟩ := HX.out _ (Below.refl _ _)
  have HP : Hid (∀ n, Calls Try.prog 39 #[.slice ap X.pc.length kp] (W.drewN n) fun e w' => e = .returned (.bool (pcOk X.pc)) ∧ w' = W.drewN n) := fun n => l9Pieces_any ap kp X.pc _ n1 (HZ.out _ (HB.out.trans ((belowN W n).mono HB.out.size))).p
  have HI : Hid (∀ n, Calls Try.prog 40 #[.int .i64 X.sz, .int .i64 1, .int .i64 12] (W.drewN n) fun e w' => e = .returned (.bool (szOk X.sz)) ∧ w' = W.drewN n) := fun n => l1In_szN X.sz 1 12 _
  have HT : Hid (∀ n, Calls Try.prog 50 #[.slice aq X.hs.length kq] (W.drewN n) fun e w' => e = .returned (.int .i64 (toldN X.hs : Nat)) ∧ w' = W.drewN n) := fun n => l9Told_any aq kq X.hs _ n5 (HZ.out _ (HB.out.trans ((belowN W n).mono HB.out.size))).s
  cases hpc : pcOk X.pc
  · have HE : Hid (goodW X = false) := goodW_no (fun g => by have := g.pcs; rw [hpc] at this; cases this)
    rw [hpc] at HP
    clear hpc
    go_quiet (first | (go_at_call 39; exact Calls.quiet_of_same (HP.out _)) | (go_at_call 40; exact Calls.quiet_of_same (HI.out _)) | (go_at_call 50; exact Calls.quiet_of_same (HT.out _)))
    go_wp2_with fail
    go_ret
    exact ⟨ret_bN HE.out.symm, HB.out.trans ((belowN _ _).mono HB.out.size)⟩
  have HPC := hid hpc
  rw [hpc] at HP
  clear hpc
  cases hsz : szOk X.sz
  · have HE : Hid (goodW X = false) := goodW_no (fun g => by have := g.size; rw [hsz] at this; cases this)
    rw [hsz] at HI
    clear hsz
    go_quiet (first | (go_at_call 39; exact Calls.quiet_of_same (HP.out _)) | (go_at_call 40; exact Calls.quiet_of_same (HI.out _)) | (go_at_call 50; exact Calls.quiet_of_same (HT.out _)))
    go_wp2_with fail
    go_ret
    exact ⟨ret_bN HE.out.symm, HB.out.trans ((belowN _ _).mono HB.out.size)⟩
  have HSZ := hid hsz
  rw [hsz] at HI
  clear hsz
  by_cases ha : X.hd.length = X.pc.length
  case neg =>
    have da1 : ((X.hd.length : Int) == (X.pc.length : Int)) = false := beq_eq_false_iff_ne.2 (by omega)
    have da2 : ((X.hd.length : Int) != (X.pc.length : Int)) = true := bne_iff_ne.2 (by omega)
    have da3 : decide ((X.hd.length : Int) = (X.pc.length : Int)) = false := decide_eq_false (by omega)
    have HE : Hid (goodW X = false) := goodW_no (fun g => ha g.nh)
    clear ha
    go_quiet (first | (go_at_call 39; exact Calls.quiet_of_same (HP.out _)) | (go_at_call 40; exact Calls.quiet_of_same (HI.out _)) | (go_at_call 50; exact Calls.quiet_of_same (HT.out _)))
    go_wp2_with fail
    go_ret
    exact ⟨ret_bN HE.out.symm, HB.out.trans ((belowN _ _).mono HB.out.size)⟩
  have da1 : ((X.hd.length : Int) == (X.pc.length : Int)) = true := beq_iff_eq.2 (by omega)
  have da2 : ((X.hd.length : Int) != (X.pc.length : Int)) = false := by rw [bne, da1]; rfl
  have da3 : decide ((X.hd.length : Int) = (X.pc.length : Int)) = true := decide_eq_true (by omega)
  have Ha := hid ha
  clear ha
  by_cases hb : X.hl.length = X.pc.length
  case neg =>
    have db1 : ((X.hl.length : Int) == (X.pc.length : Int)) = false := beq_eq_false_iff_ne.2 (by omega)
    have db2 : ((X.hl.length : Int) != (X.pc.length : Int)) = true := bne_iff_ne.2 (by omega)
    have db3 : decide ((X.hl.length : Int) = (X.pc.length : Int)) = false := decide_eq_false (by omega)
    have HE : Hid (goodW X = false) := goodW_no (fun g => hb g.ne)
    clear hb
    go_quiet (first | (go_at_call 39; exact Calls.quiet_of_same (HP.out _)) | (go_at_call 40; exact Calls.quiet_of_same (HI.out _)) | (go_at_call 50; exact Calls.quiet_of_same (HT.out _)))
    go_wp2_with fail
    go_ret
    exact ⟨ret_bN HE.out.symm, HB.out.trans ((belowN _ _).mono HB.out.size)⟩
  have db1 : ((X.hl.length : Int) == (X.pc.length : Int)) = true := beq_iff_eq.2 (by omega)
  have db2 : ((X.hl.length : Int) != (X.pc.length : Int)) = false := by rw [bne, db1]; rfl
  have db3 : decide ((X.hl.length : Int) = (X.pc.length : Int)) = true := decide_eq_true (by omega)
  have Hb := hid hb
  clear hb
  by_cases hc : X.hs.length = X.pc.length
  case neg =>
    have dc1 : ((X.hs.length : Int) == (X.pc.length : Int)) = false := beq_eq_false_iff_ne.2 (by omega)
    have dc2 : ((X.hs.length : Int) != (X.pc.length : Int)) = true := bne_iff_ne.2 (by omega)
    have dc3 : decide ((X.hs.length : Int) = (X.pc.length : Int)) = false := decide_eq_false (by omega)
    have HE : Hid (goodW X = false) := goodW_no (fun g => hc g.ns)
    clear hc
    go_quiet (first | (go_at_call 39; exact Calls.quiet_of_same (HP.out _)) | (go_at_call 40; exact Calls.quiet_of_same (HI.out _)) | (go_at_call 50; exact Calls.quiet_of_same (HT.out _)))
    go_wp2_with fail
    go_ret
    exact ⟨ret_bN HE.out.symm, HB.out.trans ((belowN _ _).mono HB.out.size)⟩
  have dc1 : ((X.hs.length : Int) == (X.pc.length : Int)) = true := beq_iff_eq.2 (by omega)
  have dc2 : ((X.hs.length : Int) != (X.pc.length : Int)) = false := by rw [bne, dc1]; rfl
  have dc3 : decide ((X.hs.length : Int) = (X.pc.length : Int)) = true := decide_eq_true (by omega)
  have Hc := hid hc
  clear hc
  by_cases ht : X.td = (toldN X.hs : Int)
  case neg =>
    have dt1 : ((X.td : Int) == (toldN X.hs : Int)) = false := beq_eq_false_iff_ne.2 (by omega)
    have dt2 : ((X.td : Int) != (toldN X.hs : Int)) = true := bne_iff_ne.2 (by omega)
    have dt3 : decide ((X.td : Int) = (toldN X.hs : Int)) = false := decide_eq_false (by omega)
    have HE : Hid (goodW X = false) := goodW_no (fun g => ht g.told)
    clear ht
    go_quiet (first | (go_at_call 39; exact Calls.quiet_of_same (HP.out _)) | (go_at_call 40; exact Calls.quiet_of_same (HI.out _)) | (go_at_call 50; exact Calls.quiet_of_same (HT.out _)))
    go_wp2_with fail
    go_ret
    exact ⟨ret_bN HE.out.symm, HB.out.trans ((belowN _ _).mono HB.out.size)⟩
  have dt1 : ((X.td : Int) == (toldN X.hs : Int)) = true := beq_iff_eq.2 (by omega)
  have dt2 : ((X.td : Int) != (toldN X.hs : Int)) = false := by rw [bne, dt1]; rfl
  have dt3 : decide ((X.td : Int) = (toldN X.hs : Int)) = true := decide_eq_true (by omega)
  have HTD := hid ht
  clear ht
  by_cases hl : X.ln.length ≤ 30
  case neg =>
    have dl1 : decide ((30 : Int) < (X.ln.length : Int)) = true := decide_eq_true (by omega)
    have dl2 : decide (30 < X.ln.length) = true := decide_eq_true (by omega)
    have HE : Hid (goodW X = false) := goodW_no (fun g => hl g.line)
    clear hl
    go_quiet (first | (go_at_call 39; exact Calls.quiet_of_same (HP.out _)) | (go_at_call 40; exact Calls.quiet_of_same (HI.out _)) | (go_at_call 50; exact Calls.quiet_of_same (HT.out _)))
    go_wp2_with fail
    go_ret
    exact ⟨ret_bN HE.out.symm, HB.out.trans ((belowN _ _).mono HB.out.size)⟩
  have dl1 : decide ((30 : Int) < (X.ln.length : Int)) = false := decide_eq_false (by omega)
  have dl2 : decide (30 < X.ln.length) = false := decide_eq_false (by omega)
  go_quiet (first | (go_at_call 39; exact Calls.quiet_of_same (HP.out _)) | (go_at_call 40; exact Calls.quiet_of_same (HI.out _)) | (go_at_call 50; exact Calls.quiet_of_same (HT.out _)))
  clear HP HI HT da1 da2 da3 db1 db2 db3 dc1 dc2 dc3 dt1 dt2 dt3 dl1 dl2
  have HB2 := hid (HB.out.trans ((belowN W nq).mono HB.out.size))
  have HX2 : Hid (∀ v, Below (W.drewN nq).heap.size (W.drewN nq) v → v.cell? ⟨w.heap.size, 0, none⟩ = some (.slice ap X.pc.length kp) ∧ v.cell? ⟨w.heap.size, 1, none⟩ = some (.int .i64 X.sz) ∧ v.cell? ⟨w.heap.size, 2, none⟩ = some (.slice ah X.hd.length kh) ∧ v.cell? ⟨w.heap.size, 3, none⟩ = some (.slice al X.ln.length kl) ∧ v.cell? ⟨w.heap.size, 4, none⟩ = some (.slice ae X.hl.length ke) ∧ v.cell? ⟨w.heap.size, 5, none⟩ = some (.slice aq X.hs.length kq) ∧ v.cell? ⟨w.heap.size, 6, none⟩ = some (.int .i64 X.td)) := fun v g => HX.out v ((belowN W nq).trans (g.mono (belowN W nq).size))
  clear HX HB x0 x1 x2 x3 x4 x5 x6
  generalize W.drewN nq = W2 at *
  obtain ⟨x0, x1, x2, x3, x4, x5, x6⟩ := HX2.out _ (Below.refl _ _)
  go_wp2_with fail
  go_loopw [59] (fun i wr => ∃ k : Nat, k ≤ X.pc.length ∧ i = .int .i64 k ∧ (∀ j, j < k → endK X j = true) ∧ wr = W2) (fun i _ => X.pc.length - (intOf i).toNat)
  case atStart => exact ⟨0, Nat.zero_le _, rfl, fun _ h => absurd h (Nat.not_lt_zero _), rfl⟩
  case round =>
    obtain ⟨k, hk, rfl, hall, hwr⟩ := hrel
    have HALL := hid hall
    rw [hwr]
    clear hall hwr wr
    by_cases hlt : k < X.pc.length
    · have hh : k < X.hd.length := by rw [Ha.out]; exact hlt
      have he : k < X.hl.length := by rw [Hb.out]; exact hlt
      have hs : k < X.hs.length := by rw [Hc.out]; exact hlt
      obtain ⟨bp, op, rfl, hbp, cp⟩ := (show Ss _ ap X.pc W2 from (HZ.out W2 HB2.out).p).at k hlt
      obtain ⟨bh, oh, rfl, hbh, ch⟩ := (show Bs _ ah X.hd W2 from (HZ.out W2 HB2.out).h).at k hh
      obtain ⟨be, oe, rfl, hbe, ce⟩ := (show Ss _ ae X.hl W2 from (HZ.out W2 HB2.out).e).at k he
      obtain ⟨bs, os, rfl, hbs, cs⟩ := (show Bs _ aq X.hs W2 from (HZ.out W2 HB2.out).s).at k hs
      have HE : Hid (endK X k = eOk X.hs[k] X.hl[k] X.pc[k] X.hd[k]) := by
        show endK X k = _
        unfold endK
        rw [getD_at hlt, getD_at hh, getD_at he, getD_at hs]
      have HBAD : Hid (endK X k = false → goodW X = false) := fun hv => goodW_no (fun g => by have := g.ends k hlt; rw [hv] at this; cases this)
      have HON : Hid (endK X k = true → ∀ j, j < k + 1 → endK X j = true) := fun hv j hj => by
        by_cases e : j = k
        · subst e; exact hv
        · exact HALL.out j (by omega)
      rw [HE.out] at HBAD HON
      clear HALL HE
      generalize X.hs[k] = has at *
      generalize X.hl[k] = held at *
      generalize X.pc[k] = piece at *
      generalize X.hd[k] = heard at *
      cases has
      · cases hq : (held.toList == [])
        · have HE := hid (HBAD.out (show (sNil held && !heard) = false by unfold sNil; rw [hq]; rfl))
          clear HBAD HON
          go_wp2_with fail
          go_ret
          exact ⟨ret_bN HE.out.symm, HB2.out⟩
        · cases heard
          · have HE := hid (HON.out (show (sNil held && !false) = true by unfold sNil; rw [hq]; rfl))
            clear HBAD HON
            go_wp2_with fail
            go_roundw
            case rel => exact ⟨k + 1, by omega, by go_num, HE.out, by trivial⟩
            case measure => simp [intOf]; omega
          · have HE := hid (HBAD.out (show (sNil held && !true) = false by unfold sNil; rw [hq]; rfl))
            clear HBAD HON
            go_wp2_with fail
            go_ret
            exact ⟨ret_bN HE.out.symm, HB2.out⟩
      · cases hq : (held.toList == piece.toList)
        · have HE := hid (HBAD.out (show sEq held piece = false by unfold sEq; rw [hq]))
          clear HBAD HON
          go_wp2_with fail
          go_ret
          exact ⟨ret_bN HE.out.symm, HB2.out⟩
        · have HE := hid (HON.out (show sEq held piece = true by unfold sEq; rw [hq]))
          clear HBAD HON
          go_wp2_with fail
          go_roundw
          case rel => exact ⟨k + 1, by omega, by go_num, HE.out, by trivial⟩
          case measure => simp [intOf]; omega
    · have HEND : Hid (∀ j, j < X.pc.length → endK X j = true) := fun j hj => HALL.out j (by omega)
      have HLN := hid hl
      clear HALL
      go_wp2_with fail
      clear x0 x1 x2 x3 x4 x5 x6
      go_loopw [105] (fun i wr => ∃ k : Nat, k ≤ X.ln.length ∧ i = .int .i64 k ∧ (∀ j (h : j < X.ln.length), j < k → frK X X.ln[j] = true) ∧ Below W2.heap.size W2 wr) (fun i _ => X.ln.length - (intOf i).toNat)
      case atStart => exact ⟨0, Nat.zero_le _, rfl, fun _ _ h => absurd h (Nat.not_lt_zero _), Below.refl _ _⟩
      case round =>
        obtain ⟨m, hm, rfl, hall, hbel⟩ := hrel
        have HALL := hid hall
        have HBEL := hid hbel
        have HBW : Hid (Below w.heap.size w wr) := HB2.out.trans (hbel.mono HB2.out.size)
        clear hall hbel
        by_cases hmt : m < X.ln.length
        · obtain ⟨bl, ol, rfl, hbl, hcl⟩ := (show Fs _ al X.ln wr from (HZ.out wr HBW.out).l).cell (by omega)
          obtain ⟨c0, c1, c2⟩ := hcl m hmt
          have HBA := hid (HBEL.out.trans ((boxB wr (.cells #[.bool X.ln[m].back, .int .i64 X.ln[m].no, .string X.ln[m].tx] 72)).mono HBEL.out.size))
          have HBV := hid (HBW.out.trans ((boxB wr (.cells #[.bool X.ln[m].back, .int .i64 X.ln[m].no, .string X.ln[m].tx] 72)).mono HBW.out.size))
          have hJ := heap_last wr (.cells #[.bool X.ln[m].back, .int .i64 X.ln[m].no, .string X.ln[m].tx] 72)
          have j0 : (wr.alloc (.cells #[.bool X.ln[m].back, .int .i64 X.ln[m].no, .string X.ln[m].tx] 72)).cell? ⟨wr.heap.size, 0, none⟩ = some (.bool X.ln[m].back) := box_cell hJ 0
          have j1 : (wr.alloc (.cells #[.bool X.ln[m].back, .int .i64 X.ln[m].no, .string X.ln[m].tx] 72)).cell? ⟨wr.heap.size, 1, none⟩ = some (.int .i64 X.ln[m].no) := box_cell hJ 1
          have j2 : (wr.alloc (.cells #[.bool X.ln[m].back, .int .i64 X.ln[m].no, .string X.ln[m].tx] 72)).cell? ⟨wr.heap.size, 2, none⟩ = some (.string X.ln[m].tx) := box_cell hJ 2
          have HBAD : Hid (frK X X.ln[m] = false → goodW X = false) := fun hv => goodW_no (fun g => by have := g.frs m hmt; rw [hv] at this; cases this)
          have HON : Hid (frK X X.ln[m] = true → ∀ j (h : j < X.ln.length), j < m + 1 → frK X X.ln[j] = true) := fun h j hj hjk => by
            by_cases e : j = m
            · subst e; exact h
            · exact HALL.out j hj (by omega)
          have HXV := hid (HX2.out _ HBA.out)
          clear hcl hJ HALL
          generalize X.ln[m] = f at *
          obtain ⟨fb, fn, ft⟩ := f
          simp only at c0 c1 c2 j0 j1 j2 HBA HBV HXV
          by_cases hr : 0 ≤ fn ∧ fn < X.pc.length
          case neg =>
            have hv : frK X ⟨fb, fn, ft⟩ = false := by
              show (decide (0 ≤ fn ∧ fn < (X.pc.length : Int)) && _) = false
              rw [decide_eq_false hr]; rfl
            obtain ⟨x0, x1, x2, x3, x4, x5, x6⟩ := HXV.out
            by_cases h0 : fn < 0
            · have d1 : decide (fn < 0) = true := decide_eq_true h0
              clear hr
              have HE := hid (HBAD.out hv)
              clear HBAD HON hv
              go_wp2_with fail
              generalize wr.alloc (.cells #[.bool fb, .int .i64 fn, .string ft] 72) = V at *
              go_quiet (fail)
              go_wp2_with fail
              go_ret
              exact ⟨ret_bN HE.out.symm, HB2.out.trans ((HBA.out.trans ((belowN V nq).mono HBA.out.size)).mono HB2.out.size)⟩
            · have d1 : decide (fn < 0) = false := decide_eq_false h0
              have d2 : decide ((X.pc.length : Int) ≤ fn) = true := decide_eq_true (by omega)
              clear hr
              have HE := hid (HBAD.out hv)
              clear HBAD HON hv
              go_wp2_with fail
              generalize wr.alloc (.cells #[.bool fb, .int .i64 fn, .string ft] 72) = V at *
              go_quiet (fail)
              go_wp2_with fail
              go_ret
              exact ⟨ret_bN HE.out.symm, HB2.out.trans ((HBA.out.trans ((belowN V nq).mono HBA.out.size)).mono HB2.out.size)⟩
          obtain ⟨k, rfl⟩ : ∃ k : Nat, fn = k := ⟨fn.toNat, by omega⟩
          have hp : k < X.pc.length := by omega
          have hq : k < X.hs.length := by rw [Hc.out]; exact hp
          have d1 : decide ((k : Int) < 0) = false := decide_eq_false (by omega)
          have d2 : decide ((X.pc.length : Int) ≤ (k : Int)) = false := decide_eq_false (by omega)
          have d3 : decide (X.pc.length ≤ k) = false := decide_eq_false (by omega)
          have HE : Hid (frK X ⟨fb, (k : Int), ft⟩ = cond fb (sNil ft && X.hs[k]) (sEq ft X.pc[k])) := by
            show (decide (0 ≤ (k : Int) ∧ (k : Int) < (X.pc.length : Int)) && cond fb (sNil ft && X.hs.getD (k : Int).toNat false) (sEq ft (X.pc.getD (k : Int).toNat ⟨#[]⟩))) = _
            rw [decide_eq_true hr, Int.toNat_natCast, getD_at hp, getD_at hq]; rfl
          rw [HE.out] at HBAD HON
          obtain ⟨bp, op, rfl, hbp, cp⟩ := (show Ss _ ap X.pc _ from (HZ.out _ HBV.out).p).at k hp
          obtain ⟨bs, os, rfl, hbs, cs⟩ := (show Bs _ aq X.hs _ from (HZ.out _ HBV.out).s).at k hq
          obtain ⟨x0, x1, x2, x3, x4, x5, x6⟩ := HXV.out
          clear hr HE HXV
          generalize X.hs[k] = has at *
          generalize X.pc[k] = piece at *
          cases fb
          · cases hz : (ft.toList == piece.toList)
            · have hv : sEq ft piece = false := by unfold sEq; rw [hz]
              have HE := hid (HBAD.out hv)
              clear HBAD HON hv
              go_wp2_with fail
              generalize wr.alloc (.cells #[.bool false, .int .i64 (k : Int), .string ft] 72) = V at *
              go_quiet (fail)
              go_wp2_with fail
              go_ret
              exact ⟨ret_bN HE.out.symm, HB2.out.trans ((HBA.out.trans ((belowN V nq).mono HBA.out.size)).mono HB2.out.size)⟩
            · have hv : sEq ft piece = true := by unfold sEq; rw [hz]
              have HE := hid (HON.out hv)
              clear HBAD HON hv
              go_wp2_with fail
              generalize wr.alloc (.cells #[.bool false, .int .i64 (k : Int), .string ft] 72) = V at *
              go_quiet (fail)
              go_wp2_with fail
              go_roundw
              case rel => exact ⟨m + 1, by omega, by go_num, HE.out, HBA.out.trans ((belowN V nq).mono HBA.out.size)⟩
              case measure => simp [intOf]; omega
          · cases hz : (ft.toList == [])
            · have hv : (sNil ft && has) = false := by unfold sNil; rw [hz]; rfl
              have HE := hid (HBAD.out hv)
              clear HBAD HON hv
              go_wp2_with fail
              generalize wr.alloc (.cells #[.bool true, .int .i64 (k : Int), .string ft] 72) = V at *
              go_quiet (fail)
              go_wp2_with fail
              go_ret
              exact ⟨ret_bN HE.out.symm, HB2.out.trans ((HBA.out.trans ((belowN V nq).mono HBA.out.size)).mono HB2.out.size)⟩
            · cases has
              · have hv : (sNil ft && false) = false := by rw [Bool.and_false]
                have HE := hid (HBAD.out hv)
                clear HBAD HON hv
                go_wp2_with fail
                generalize wr.alloc (.cells #[.bool true, .int .i64 (k : Int), .string ft] 72) = V at *
                go_quiet (fail)
                go_wp2_with fail
                go_ret
                exact ⟨ret_bN HE.out.symm, HB2.out.trans ((HBA.out.trans ((belowN V nq).mono HBA.out.size)).mono HB2.out.size)⟩
              · have hv : (sNil ft && true) = true := by unfold sNil; rw [hz]; rfl
                have HE := hid (HON.out hv)
                clear HBAD HON hv
                go_wp2_with fail
                generalize wr.alloc (.cells #[.bool true, .int .i64 (k : Int), .string ft] 72) = V at *
                go_quiet (fail)
                go_wp2_with fail
                go_roundw
                case rel => exact ⟨m + 1, by omega, by go_num, HE.out, HBA.out.trans ((belowN V nq).mono HBA.out.size)⟩
                case measure => simp [intOf]; omega
        · have HE : Hid (goodW X = true) := goodW_iff.2 ⟨HPC.out, HSZ.out, Ha.out, Hb.out, Hc.out, HTD.out, HLN.out, HEND.out, fun j hj => HALL.out j hj (by omega)⟩
          clear HALL
          go_wp2_with fail
          go_ret
          exact ⟨ret_bN HE.out.symm, HBW.out⟩
end Go.Proofs.Ytaiilhhkfjlkoaa
