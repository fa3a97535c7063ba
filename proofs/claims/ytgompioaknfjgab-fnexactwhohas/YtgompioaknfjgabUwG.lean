/- The model's GoodWorks. -/
import Derived.Test.YtgompioaknfjgabUwS
namespace Go.Proofs.Ytgompioaknfjgab
set_option maxRecDepth 100000
open Go Go.ChangeShapes Go.WideShapes Go.ChangeAt Go.RowKit
/-- what good works have -/
theorem goodU_parts {X : Uw} (h : goodU X = true) : X.lg.all noteB = true ∧ cellsB X.cl = true ∧ cellsB X.dk = true ∧ X.lg.length ≤ 60 ∧ inB 0 X.lg.length X.sr = true ∧ X.op = openL X.lg := by
  unfold goodU at h
  rw [Bool.and_eq_true, Bool.and_eq_true, Bool.and_eq_true, Bool.and_eq_true, Bool.and_eq_true] at h
  exact ⟨h.1, h.2.1, h.2.2.1, of_decide_eq_true h.2.2.2.1, h.2.2.2.2.1, of_decide_eq_true h.2.2.2.2.2⟩
set_option maxHeartbeats 8000000 in
theorem sgoodU_any (A : UwA) (X : Uw) (w : World) (hf : UwFit X) (h : UwR w.heap.size A X w) :
    Calls Try.prog 11 #[.agg #[.slice A.c X.cl.length A.kc, .slice A.d X.dk.length A.kd, .slice A.l X.lg.length A.kl, .int .i64 X.sr, .slice A.o X.op.length A.ko]] w fun e w' => e = .returned (.bool (goodU X)) ∧ Below w.heap.size w w' := by
  have HB0 := hid (boxB w (.cells #[.slice A.c X.cl.length A.kc, .slice A.d X.dk.length A.kd, .slice A.l X.lg.length A.kl, .int .i64 X.sr, .slice A.o X.op.length A.ko] 31))
  have HK0 := hid (heap_last w (.cells #[.slice A.c X.cl.length A.kc, .slice A.d X.dk.length A.kd, .slice A.l X.lg.length A.kl, .int .i64 X.sr, .slice A.o X.op.length A.ko] 31))
  have HZ : Hid (∀ v, Below w.heap.size w v → UwR v.heap.size A X v) := fun v g => h.up g g.size
  have HF := hid hf
  have EG : Hid (goodU X = (X.lg.all noteB && (cellsB X.cl && (cellsB X.dk && (decide (X.lg.length ≤ 60) && (inB 0 X.lg.length X.sr && decide (X.op = openL X.lg))))))) := rfl
  have n2 := hf.l
  have n3 := hf.o
  clear h hf
  go_enter Try.func11, Try.ntmps11
  go_upto_region 1 with fail
  generalize w.alloc (.cells #[.slice A.c X.cl.length A.kc, .slice A.d X.dk.length A.kd, .slice A.l X.lg.length A.kl, .int .i64 X.sr, .slice A.o X.op.length A.ko] 31) = W at *
  have x0 := box_cell HK0.out 0
  have x1 := box_cell HK0.out 1
  have x2 := box_cell HK0.out 2
  have x3 := box_cell HK0.out 3
  have x4 := box_cell HK0.out 4
  go_wp2_with fail
  go_loopw [8] (fun i wr => ∃ k : Nat, k ≤ X.lg.length ∧ i = .int .i64 k ∧ (∀ j (h : j < X.lg.length), j < k → noteB X.lg[j] = true) ∧ Below W.heap.size W wr) (fun i _ => X.lg.length - (intOf i).toNat)
  case atStart => exact ⟨0, Nat.zero_le _, rfl, (fun _ _ h => absurd h (Nat.not_lt_zero _)), Below.refl _ _⟩
  case round =>
    obtain ⟨k, hk, rfl, hall, hbel⟩ := hrel
    have HALL := hid hall
    have HBEL := hid hbel
    have HB := hid (HB0.out.trans (hbel.mono HB0.out.size))
    have HK := hid ((hbel.block _ (kbox HK0.out)).trans HK0.out)
    clear hall hbel x0 x1 x2 x3 x4
    by_cases hlt : k < X.lg.length
    · obtain ⟨b, off, eb, hb, hc⟩ := (HZ.out wr HB.out).l.cell (by omega)
      obtain ⟨y0, y1, y2, y3, y4⟩ := hc k hlt
      have HN := hid (fun v => snote_any X.lg[k] v)
      have HBN := hid (HBEL.out.trans ((boxB wr (.cells #[.int .i64 X.lg[k].kd, .int .i64 X.lg[k].wh, .int .i64 X.lg[k].cl, .int .i64 X.lg[k].ws, .int .i64 X.lg[k].is] 47)).mono HBEL.out.size))
      have HBAD : Hid (noteB X.lg[k] = false → goodU X = false) := fun h => by rw [EG.out, all_bad hlt h]; rfl
      have HGO : Hid (noteB X.lg[k] = true → ∀ j (hj : j < X.lg.length), j < k + 1 → noteB X.lg[j] = true) := fun h j hj hjk => by
        by_cases e : j = k
        · subst e; exact h
        · exact HALL.out j hj (by omega)
      rw [eb]
      clear hc eb
      generalize X.lg[k].kd = p0 at *
      generalize X.lg[k].wh = p1 at *
      generalize X.lg[k].cl = p2 at *
      generalize X.lg[k].ws = p3 at *
      generalize X.lg[k].is = p4 at *
      generalize noteB X.lg[k] = r at *
      go_wp2_with fail
      refine (HN.out _).mono ?_
      rintro e w2 ⟨rfl, b2⟩
      have HBR := hid (HBN.out.trans (b2.mono HBN.out.size))
      clear b2 HN y0 y1 y2 y3 y4
      cases r
      · have HE := hid (HBAD.out rfl)
        clear HBAD HGO
        go_wp2_with fail
        go_ret
        exact ⟨ret_b2 HE.out.symm, HB0.out.trans (HBR.out.mono HB0.out.size)⟩
      have HG := hid (HGO.out rfl)
      clear HBAD HGO
      go_wp2_with fail
      go_roundw
      case rel => exact ⟨k + 1, by omega, by go_num, HG.out, HBR.out⟩
      case measure => simp [intOf]; omega
    obtain rfl : k = X.lg.length := by omega
    have HA : Hid (X.lg.all noteB = true) := all_all (fun j hj => HALL.out j hj hj)
    have EG2 : Hid (goodU X = (cellsB X.cl && (cellsB X.dk && (decide (X.lg.length ≤ 60) && (inB 0 X.lg.length X.sr && decide (X.op = openL X.lg)))))) := by show goodU X = _; rw [EG.out, HA.out]; rfl
    clear HALL EG HA hlt hk
    have HUP : Hid (∀ v, Below wr.heap.size wr v → Below w.heap.size w v) := fun v g => HB.out.trans (g.mono HB.out.size)
    have HS : Hid (∀ v, Below wr.heap.size wr v → v.cell? ⟨w.heap.size, 0, none⟩ = some (.slice A.c X.cl.length A.kc) ∧ v.cell? ⟨w.heap.size, 1, none⟩ = some (.slice A.d X.dk.length A.kd) ∧ v.cell? ⟨w.heap.size, 2, none⟩ = some (.slice A.l X.lg.length A.kl) ∧ v.cell? ⟨w.heap.size, 3, none⟩ = some (.int .i64 X.sr) ∧ v.cell? ⟨w.heap.size, 4, none⟩ = some (.slice A.o X.op.length A.ko)) := fun v g => by
      have h1 := (g.block _ (kbox HK.out)).trans HK.out
      exact ⟨box_cell h1 0, box_cell h1 1, box_cell h1 2, box_cell h1 3, box_cell h1 4⟩
    have HQ1 : Hid (∀ n, Calls Try.prog 22 #[.slice A.c X.cl.length A.kc] (wr.drewN n) fun e w' => e = .returned (.bool (cellsB X.cl)) ∧ w' = wr.drewN n) := fun n => scells_any A.c A.kc X.cl _ HF.out.c (HZ.out _ (HUP.out _ (belowN wr n))).c
    have HQ2 : Hid (∀ n, Calls Try.prog 22 #[.slice A.d X.dk.length A.kd] (wr.drewN n) fun e w' => e = .returned (.bool (cellsB X.dk)) ∧ w' = wr.drewN n) := fun n => scells_any A.d A.kd X.dk _ HF.out.d (HZ.out _ (HUP.out _ (belowN wr n))).d
    have HQ3 : Hid (∀ n, Calls Try.prog 12 #[.int .i64 X.sr, .int .i64 0, .int .i64 X.lg.length] (wr.drewN n) fun e w' => e = .returned (.bool (inB 0 X.lg.length X.sr)) ∧ w' = wr.drewN n) := fun n => l1In_b X.sr 0 X.lg.length _
    have HC1 : Hid (∀ v, Below wr.heap.size wr v → Calls Try.prog 22 #[.slice A.c X.cl.length A.kc] v fun e w' => e = .returned (.bool (cellsB X.cl)) ∧ Below v.heap.size v w') := fun v g => (scells_any A.c A.kc X.cl v HF.out.c (HZ.out v (HUP.out v g)).c).mono fun _ _ h => ⟨h.1, by rw [h.2]; exact Below.refl _ _⟩
    have HC2 : Hid (∀ v, Below wr.heap.size wr v → Calls Try.prog 22 #[.slice A.d X.dk.length A.kd] v fun e w' => e = .returned (.bool (cellsB X.dk)) ∧ Below v.heap.size v w') := fun v g => (scells_any A.d A.kd X.dk v HF.out.d (HZ.out v (HUP.out v g)).d).mono fun _ _ h => ⟨h.1, by rw [h.2]; exact Below.refl _ _⟩
    have HC3 : Hid (∀ v, Calls Try.prog 12 #[.int .i64 X.sr, .int .i64 0, .int .i64 X.lg.length] v fun e w' => e = .returned (.bool (inB 0 X.lg.length X.sr)) ∧ Below v.heap.size v w') := fun v => (l1In_b X.sr 0 X.lg.length v).mono fun _ _ h => ⟨h.1, by rw [h.2]; exact Below.refl _ _⟩
    have HC4 : Hid (∀ v, Below wr.heap.size wr v → Calls Try.prog 24 #[.slice A.l X.lg.length A.kl] v fun e w' => ∃ q c, e = .returned (.slice q (openL X.lg).length c) ∧ Is w'.heap.size q (openL X.lg) w' ∧ Below v.heap.size v w') := fun v g => (sopen_any A.l A.kl X.lg v n2 (HZ.out v (HUP.out v g)).l).mono fun _ _ h => by
      obtain ⟨s, h1, h2, h3⟩ := h
      obtain ⟨q, c, rfl, ho, _⟩ := h2.own
      exact ⟨q, c, h1, ho.is, h3⟩
    have hol : (openL X.lg).length ≤ 1048576 := Nat.le_trans (openK_len X.lg 9) (by decide)
    have HC5 : Hid (∀ v q c, Below wr.heap.size wr v → Is v.heap.size q (openL X.lg) v → Calls Try.prog 23 #[.slice A.o X.op.length A.ko, .slice q (openL X.lg).length c] v fun e w' => e = .returned (.bool (decide (X.op = openL X.lg))) ∧ Below v.heap.size v w') := fun v q c g hq => ssame_any A.o q A.ko c X.op (openL X.lg) v n3 hol (HZ.out v (HUP.out v g)).o hq
    have BD : Below wr.heap.size wr wr.drew := (Below.refl _ _).drew
    have hol2 := hid hol
    clear hol HF
    generalize cellsB X.cl = c1 at *
    generalize cellsB X.dk = c2 at *
    generalize inB 0 (X.lg.length : Int) X.sr = c4 at *
    generalize decide (X.op = openL X.lg) = c5 at *
    have d0 := HS.out _ BD
    go_upto_region 7 with fail
    cases c1
    · have e0 := HS.out wr (Below.refl _ _)
      obtain ⟨z0, z1, z2, z3, z4⟩ := e0
      clear d0
      go_quiet (first | (go_at_call 22; with_reducible exact Calls.quiet_of_same (HQ1.out _)) | (go_at_call 22; with_reducible exact Calls.quiet_of_same (HQ2.out _)) | (go_at_call 12; with_reducible exact Calls.quiet_of_same (HQ3.out _)))
      go_wp2_with fail
      go_ret
      exact ⟨by rw [EG2.out]; rfl, HUP.out _ (belowN _ _)⟩
    cases c2
    · have e0 := HS.out wr (Below.refl _ _)
      obtain ⟨z0, z1, z2, z3, z4⟩ := e0
      clear d0
      go_quiet (first | (go_at_call 22; with_reducible exact Calls.quiet_of_same (HQ1.out _)) | (go_at_call 22; with_reducible exact Calls.quiet_of_same (HQ2.out _)) | (go_at_call 12; with_reducible exact Calls.quiet_of_same (HQ3.out _)))
      go_wp2_with fail
      go_ret
      exact ⟨by rw [EG2.out]; rfl, HUP.out _ (belowN _ _)⟩
    by_cases h60 : X.lg.length ≤ 60
    case neg =>
      have e1 : decide ((X.lg.length : Int) ≤ 60) = false := decide_eq_false (by omega)
      have e2 : decide (X.lg.length ≤ 60) = false := decide_eq_false h60
      clear h60
      have e0 := HS.out wr (Below.refl _ _)
      obtain ⟨z0, z1, z2, z3, z4⟩ := e0
      clear d0
      go_quiet (first | (go_at_call 22; with_reducible exact Calls.quiet_of_same (HQ1.out _)) | (go_at_call 22; with_reducible exact Calls.quiet_of_same (HQ2.out _)) | (go_at_call 12; with_reducible exact Calls.quiet_of_same (HQ3.out _)))
      go_wp2_with fail
      go_ret
      exact ⟨by rw [EG2.out]; rw [e2]; rfl, HUP.out _ (belowN _ _)⟩
    have e1 : decide ((X.lg.length : Int) ≤ 60) = true := decide_eq_true (by omega)
    have e2 : decide (X.lg.length ≤ 60) = true := decide_eq_true h60
    clear h60
    cases c4
    · have e0 := HS.out wr (Below.refl _ _)
      obtain ⟨z0, z1, z2, z3, z4⟩ := e0
      clear d0
      go_quiet (first | (go_at_call 22; with_reducible exact Calls.quiet_of_same (HQ1.out _)) | (go_at_call 22; with_reducible exact Calls.quiet_of_same (HQ2.out _)) | (go_at_call 12; with_reducible exact Calls.quiet_of_same (HQ3.out _)))
      go_wp2_with fail
      go_ret
      exact ⟨by rw [EG2.out]; rw [e2]; rfl, HUP.out _ (belowN _ _)⟩
    go_region_held (fun v => v.cell? ⟨w.heap.size, 0, none⟩ = some (.slice A.c X.cl.length A.kc) ∧ v.cell? ⟨w.heap.size, 1, none⟩ = some (.slice A.d X.dk.length A.kd) ∧ v.cell? ⟨w.heap.size, 2, none⟩ = some (.slice A.l X.lg.length A.kl) ∧ v.cell? ⟨w.heap.size, 3, none⟩ = some (.int .i64 X.sr) ∧ v.cell? ⟨w.heap.size, 4, none⟩ = some (.slice A.o X.op.length A.ko)) (first | exact HS.out _ (by with_reducible assumption)) (first | (go_at_call 23; refine (HC5.out _ qq cc Ba hq).mono ?_; rintro e wb ⟨rfl, bb⟩; have Bb : Below wr.heap.size wr wb := Ba.trans (bb.mono Ba.size)) | (go_at_call 24; refine (HC4.out _ B9).mono ?_; rintro e wa ⟨qq, cc, rfl, hq, ba⟩; have Ba : Below wr.heap.size wr wa := B9.trans (ba.mono B9.size)) | (go_at_call 12; refine (HC3.out _).mono ?_; rintro e w9 ⟨rfl, b9⟩; have B9 : Below wr.heap.size wr w9 := B8.trans (b9.mono B8.size)) | (go_at_call 22; refine (HC2.out _ B7).mono ?_; rintro e w8 ⟨rfl, b8⟩; have B8 : Below wr.heap.size wr w8 := B7.trans (b8.mono B7.size)) | (go_at_call 22; refine (HC1.out _ BD).mono ?_; rintro e w7 ⟨rfl, b7⟩; have B7 : Below wr.heap.size wr w7 := BD.trans (b7.mono BD.size)))
    all_goals
      have HBZ := hid (HUP.out _ Bb)
      go_wp2_with fail
      go_ret
      exact ⟨by rw [EG2.out]; rw [e2]; cases c5 <;> rfl, HBZ.out⟩
end Go.Proofs.Ytgompioaknfjgab
