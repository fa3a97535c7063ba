/- The program's GoodWindow: its walk. -/
import Derived.Test.YtaiilhhkfjlkoaaNGl
namespace Go.Proofs.Ytaiilhhkfjlkoaa
set_option maxRecDepth 100000
open Go.ChangeShapes Go.WideShapes Go.ChangeAt Go.RowKit
set_option maxHeartbeats 4000000 in
theorem igoodW_any (A : Ad) (X : Wd) (w : World) (hf : FitW X) (h : WR w.heap.size A X w) :
    Calls Try.prog 21 #[.agg #[.slice A.p X.pc.length A.kp, .int .i64 X.sz, .slice A.h X.hd.length A.kh, .slice A.l X.ln.length A.kl, .slice A.e X.hl.length A.ke, .slice A.s X.hs.length A.ks, .int .i64 X.td]] w fun e w' => e = .returned (.bool (goodW X)) ∧ Below w.heap.size w w' := by
  have HZ : Hid (∀ v, Below w.heap.size w v → WR v.heap.size A X v) := fun v g => h.up g g.size
  have HF := hid hf
  have HX : Hid (∀ v, Below (w.alloc (.cells #[.slice A.p X.pc.length A.kp, .int .i64 X.sz, .slice A.h X.hd.length A.kh, .slice A.l X.ln.length A.kl, .slice A.e X.hl.length A.ke, .slice A.s X.hs.length A.ks, .int .i64 X.td] 27)).heap.size (w.alloc (.cells #[.slice A.p X.pc.length A.kp, .int .i64 X.sz, .slice A.h X.hd.length A.kh, .slice A.l X.ln.length A.kl, .slice A.e X.hl.length A.ke, .slice A.s X.hs.length A.ks, .int .i64 X.td] 27)) v → v.cell? ⟨w.heap.size, 0, none⟩ = some (.slice A.p X.pc.length A.kp) ∧ v.cell? ⟨w.heap.size, 1, none⟩ = some (.int .i64 X.sz) ∧ v.cell? ⟨w.heap.size, 2, none⟩ = some (.slice A.h X.hd.length A.kh) ∧ v.cell? ⟨w.heap.size, 3, none⟩ = some (.slice A.l X.ln.length A.kl) ∧ v.cell? ⟨w.heap.size, 4, none⟩ = some (.slice A.e X.hl.length A.ke) ∧ v.cell? ⟨w.heap.size, 5, none⟩ = some (.slice A.s X.hs.length A.ks) ∧ v.cell? ⟨w.heap.size, 6, none⟩ = some (.int .i64 X.td)) := fun v g => by
    have h1 : v.heap[w.heap.size]? = some (.cells #[.slice A.p X.pc.length A.kp, .int .i64 X.sz, .slice A.h X.hd.length A.kh, .slice A.l X.ln.length A.kl, .slice A.e X.hl.length A.ke, .slice A.s X.hs.length A.ks, .int .i64 X.td] 27) := (g.block _ (by simp)).trans (heap_last _ _)
    exact ⟨box_cell h1 0, box_cell h1 1, box_cell h1 2, box_cell h1 3, box_cell h1 4, box_cell h1 5, box_cell h1 6⟩
  have HB := hid (boxB w (.cells #[.slice A.p X.pc.length A.kp, .int .i64 X.sz, .slice A.h X.hd.length A.kh, .slice A.l X.ln.length A.kl, .slice A.e X.hl.length A.ke, .slice A.s X.hs.length A.ks, .int .i64 X.td] 27))
  have n1 := hf.p
  clear h hf
  go_enter Try.func21, Try.ntmps21
  go_wp2_with fail
  generalize w.alloc (.cells #[.slice A.p X.pc.length A.kp, .int .i64 X.sz, .slice A.h X.hd.length A.kh, .slice A.l X.ln.length A.kl, .slice A.e X.hl.length A.ke, .slice A.s X.hs.length A.ks, .int .i64 X.td] 27) = W at *
  obtain ⟨x0, x1, x2, x3, x4, x5, x6⟩ := HX.out _ (Below.refl _ _)
  refine (goodPieces_any A.p A.kp X.pc W n1 (HZ.out W HB.out).p).mono ?_
  rintro e v ⟨rfl, hv⟩
  rw [hv]
  clear hv v
  cases hpc : pcOk X.pc
  · have HE : Hid (goodW X = false) := goodW_no (fun g => by have := g.pcs; rw [hpc] at this; cases this)
    clear hpc
    go_wp2_with fail
    go_ret
    exact ⟨ret_bN HE.out.symm, HB.out⟩
  have HPC := hid hpc
  clear hpc
  go_wp2_with fail
  refine (isSize_any X.sz W).mono ?_
  rintro e v ⟨rfl, hv⟩
  rw [hv]
  clear hv v
  cases hsz : szOk X.sz
  · have HE : Hid (goodW X = false) := goodW_no (fun g => by have := g.size; rw [hsz] at this; cases this)
    clear hsz
    go_wp2_with fail
    go_ret
    exact ⟨ret_bN HE.out.symm, HB.out⟩
  have HSZ := hid hsz
  clear hsz
  by_cases ha : X.hd.length = X.pc.length
  case neg =>
    have da1 : ((X.hd.length : Int) == (X.pc.length : Int)) = false := beq_eq_false_iff_ne.2 (by omega)
    have da2 : ((X.hd.length : Int) != (X.pc.length : Int)) = true := bne_iff_ne.2 (by omega)
    have da3 : decide ((X.hd.length : Int) = (X.pc.length : Int)) = false := decide_eq_false (by omega)
    have HE : Hid (goodW X = false) := goodW_no (fun g => ha g.nh)
    clear ha
    go_wp2_with fail
    go_ret
    exact ⟨ret_bN HE.out.symm, HB.out⟩
  have da1 : ((X.hd.length : Int) == (X.pc.length : Int)) = true := beq_iff_eq.2 (by omega)
  have da2 : ((X.hd.length : Int) != (X.pc.length : Int)) = false := by rw [bne, da1]; rfl
  have da3 : decide ((X.hd.length : Int) = (X.pc.length : Int)) = true := decide_eq_true (by omega)
  have Ha := hid ha
  clear ha
  by_cases hb : X.hl.length = X.pc.length
  case neg =>
    have db1 : ((X.hl.length : Int) == (X.pc.length : Int)) = false := beq_eq_false_iff_ne.2 (by omega)
    have db2 : ((X.hl.length : Int) != (X.pc.length : Int)) = true := bne_iff_ne.2 (by omega)
    have db3 : decide ((X.hl.length : Int) = (X.pc.length : Int)) = false := decide_eq_false (by omega)
    have HE : Hid (goodW X = false) := goodW_no (fun g => hb g.ne)
    clear hb
    go_wp2_with fail
    go_ret
    exact ⟨ret_bN HE.out.symm, HB.out⟩
  have db1 : ((X.hl.length : Int) == (X.pc.length : Int)) = true := beq_iff_eq.2 (by omega)
  have db2 : ((X.hl.length : Int) != (X.pc.length : Int)) = false := by rw [bne, db1]; rfl
  have db3 : decide ((X.hl.length : Int) = (X.pc.length : Int)) = true := decide_eq_true (by omega)
  have Hb := hid hb
  clear hb
  by_cases hc : X.hs.length = X.pc.length
  case neg =>
    have dc1 : ((X.hs.length : Int) == (X.pc.length : Int)) = false := beq_eq_false_iff_ne.2 (by omega)
    have dc2 : ((X.hs.length : Int) != (X.pc.length : Int)) = true := bne_iff_ne.2 (by omega)
    have dc3 : decide ((X.hs.length : Int) = (X.pc.length : Int)) = false := decide_eq_false (by omega)
    have HE : Hid (goodW X = false) := goodW_no (fun g => hc g.ns)
    clear hc
    go_wp2_with fail
    go_ret
    exact ⟨ret_bN HE.out.symm, HB.out⟩
  have dc1 : ((X.hs.length : Int) == (X.pc.length : Int)) = true := beq_iff_eq.2 (by omega)
  have dc2 : ((X.hs.length : Int) != (X.pc.length : Int)) = false := by rw [bne, dc1]; rfl
  have dc3 : decide ((X.hs.length : Int) = (X.pc.length : Int)) = true := decide_eq_true (by omega)
  have Hc := hid hc
  clear hc
  go_wp2_with fail
  clear da1 da2 da3 db1 db2 db3 dc1 dc2 dc3 x0 x1 x2 x3 x4 x5 x6
  go_loopw [38] (fun i wr => ∃ k : Nat, k ≤ X.pc.length ∧ i = .int .i64 k ∧ (∀ j, j < k → endK X j = true) ∧ Below W.heap.size W wr) (fun i _ => X.pc.length - (intOf i).toNat)
  case atStart => exact ⟨0, Nat.zero_le _, rfl, fun _ h => absurd h (Nat.not_lt_zero _), Below.refl _ _⟩
  case round =>
    obtain ⟨k, hk, rfl, hall, hbel⟩ := hrel
    have HALL := hid hall
    have HBEL := hid hbel
    have HBW : Hid (Below w.heap.size w wr) := HB.out.trans (hbel.mono HB.out.size)
    clear hall hbel
    obtain ⟨x0, x1, x2, x3, x4, x5, x6⟩ := HX.out _ HBEL.out
    by_cases hlt : k < X.pc.length
    · have HGE := hid (goodEnds_any A X k wr hlt (by rw [Ha.out]; exact hlt) (by rw [Hb.out]; exact hlt) (by rw [Hc.out]; exact hlt) HF.out (HZ.out _ HBW.out))
      go_wp2_with fail
      refine HGE.out.mono ?_
      rintro e w9 ⟨rfl, b9⟩
      have HB9 := hid (HBEL.out.trans (b9.mono HBEL.out.size))
      clear b9 HGE x0 x1 x2 x3 x4 x5 x6
      cases hv : endK X k
      · have HE : Hid (goodW X = false) := goodW_no (fun g => by have := g.ends k hlt; rw [hv] at this; cases this)
        clear hv
        go_wp2_with fail
        go_ret
        exact ⟨ret_bN HE.out.symm, HB.out.trans (HB9.out.mono HB.out.size)⟩
      · have HE : Hid (∀ j, j < k + 1 → endK X j = true) := fun j hj => by
          by_cases e : j = k
          · subst e; exact hv
          · exact HALL.out j (by omega)
        clear hv
        go_wp2_with fail
        go_roundw
        case rel => exact ⟨k + 1, by omega, by go_num, HE.out, HB9.out⟩
        case measure => simp [intOf]; omega
    · have HALL' : Hid (∀ j, j < X.pc.length → endK X j = true) := fun j hj => HALL.out j (by omega)
      have hns : X.hs.length ≤ 1048576 := HF.out.s
      by_cases ht : X.td = (toldN X.hs : Int)
      case neg =>
        have d1 : (X.td == (toldN X.hs : Int)) = false := beq_eq_false_iff_ne.2 ht
        have d3 : decide (X.td = (toldN X.hs : Int)) = false := decide_eq_false ht
        have HE : Hid (goodW X = false) := goodW_no (fun g => ht g.told)
        have HWG : Hid (∀ n, Calls Try.prog 54 #[.slice A.s X.hs.length A.ks] (wr.drewN n) fun e w' => e = .returned (.int .i64 (toldN X.hs : Nat)) ∧ w' = wr.drewN n) := fun n => withoutGap_any A.s A.ks X.hs _ hns ((HZ.out _ (HBW.out.trans ((belowN wr n).mono HBW.out.size))).s)
        clear ht HALL HALL'
        go_wp2_with fail
        go_quiet ((go_at_call 54; exact Calls.quiet_of_same (HWG.out _)))
        go_wp2_with fail
        go_ret
        exact ⟨ret_bN HE.out.symm, HBW.out.trans ((belowN _ _).mono HBW.out.size)⟩
      have d1 : (X.td == (toldN X.hs : Int)) = true := beq_iff_eq.2 ht
      have d3 : decide (X.td = (toldN X.hs : Int)) = true := decide_eq_true ht
      have HV : Hid ((decide (X.ln.length ≤ 30) && X.ln.all (frK X)) = goodW X) := by
        show (decide (X.ln.length ≤ 30) && X.ln.all (frK X)) = goodW X
        unfold goodW
        rw [HPC.out, HSZ.out, decide_eq_true Ha.out, decide_eq_true Hb.out, decide_eq_true Hc.out, decide_eq_true ht, List.all_eq_true.2 (fun x hx => HALL'.out x (List.mem_range.1 hx))]
        simp
      have HS : Hid (∀ v, Below wr.heap.size wr v → v.cell? ⟨w.heap.size, 0, none⟩ = some (.slice A.p X.pc.length A.kp) ∧ v.cell? ⟨w.heap.size, 1, none⟩ = some (.int .i64 X.sz) ∧ v.cell? ⟨w.heap.size, 2, none⟩ = some (.slice A.h X.hd.length A.kh) ∧ v.cell? ⟨w.heap.size, 3, none⟩ = some (.slice A.l X.ln.length A.kl) ∧ v.cell? ⟨w.heap.size, 4, none⟩ = some (.slice A.e X.hl.length A.ke) ∧ v.cell? ⟨w.heap.size, 5, none⟩ = some (.slice A.s X.hs.length A.ks) ∧ v.cell? ⟨w.heap.size, 6, none⟩ = some (.int .i64 X.td)) := fun v g => HX.out v (HBEL.out.trans (g.mono HBEL.out.size))
      have HWG : Hid (∀ v, Below wr.heap.size wr v → Calls Try.prog 54 #[.slice A.s X.hs.length A.ks] v fun e w' => e = .returned (.int .i64 (toldN X.hs : Nat)) ∧ w' = v) := fun v g => withoutGap_any A.s A.ks X.hs _ hns ((HZ.out _ (HBW.out.trans (g.mono HBW.out.size))).s)
      have HGL : Hid (∀ v, Below wr.heap.size wr v → Calls Try.prog 55 #[.agg #[.slice A.p X.pc.length A.kp, .int .i64 X.sz, .slice A.h X.hd.length A.kh, .slice A.l X.ln.length A.kl, .slice A.e X.hl.length A.ke, .slice A.s X.hs.length A.ks, .int .i64 X.td]] v fun e w' => e = .returned (.bool (goodW X)) ∧ Below v.heap.size v w') := fun v g => by
        have := goodLine_any A X v Hc.out HF.out (HZ.out _ (HBW.out.trans (g.mono HBW.out.size)))
        rw [HV.out] at this
        exact this
      have B0 : Below wr.heap.size wr wr.drew := (Below.refl _ _).drew
      obtain ⟨y0, y1, y2, y3, y4, y5, y6⟩ := HS.out _ B0
      clear ht HALL HALL' HV
      obtain ⟨gw, hgw⟩ : ∃ gw, gw = goodW X := ⟨_, rfl⟩
      rw [← hgw] at HGL
      have HGW := hid hgw
      clear hgw
      go_wp2_with fail
      go_region_held (fun v => v.cell? ⟨w.heap.size, 0, none⟩ = some (.slice A.p X.pc.length A.kp) ∧ v.cell? ⟨w.heap.size, 1, none⟩ = some (.int .i64 X.sz) ∧ v.cell? ⟨w.heap.size, 2, none⟩ = some (.slice A.h X.hd.length A.kh) ∧ v.cell? ⟨w.heap.size, 3, none⟩ = some (.slice A.l X.ln.length A.kl) ∧ v.cell? ⟨w.heap.size, 4, none⟩ = some (.slice A.e X.hl.length A.ke) ∧ v.cell? ⟨w.heap.size, 5, none⟩ = some (.slice A.s X.hs.length A.ks) ∧ v.cell? ⟨w.heap.size, 6, none⟩ = some (.int .i64 X.td)) (first | exact HS.out _ (by with_reducible assumption)) (first | (go_at_call 54; refine (HWG.out _ (by with_reducible assumption)).mono ?_; rintro e w5 ⟨rfl, hw5⟩; rw [hw5]; clear hw5 w5) | (go_at_call 55; refine (HGL.out _ (by with_reducible assumption)).mono ?_; rintro e w6 ⟨rfl, b6⟩; have B6 : Below wr.heap.size wr w6 := B0.trans (b6.mono B0.size)))
      all_goals
        go_wp2_with fail
        go_ret
        exact ⟨ret_bN HGW.out, HBW.out.trans (B6.mono HBW.out.size)⟩
end Go.Proofs.Ytaiilhhkfjlkoaa
