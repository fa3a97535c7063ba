/- The model's DoneBy. -/
import Derived.Test.YtgompioaknfjgaaUwB
import Derived.Test.YtgompioaknfjgaaUPut
namespace Go.Proofs.Ytgompioaknfjgaa
set_option maxRecDepth 100000
open Go Go.ChangeShapes Go.WideShapes Go.ChangeAt Go.RowKit
/-- those that are done, rising, gone on from acc -/
def dnF (acc : List Int) : List Nt → List Int
  | [] => acc
  | n :: r => dnF (if n.kd = 3 then putI n.wh acc else acc) r
theorem dnF_step (acc : List Int) (l : List Nt) (k : Nat) (h : k < l.length) : dnF acc (l.drop k) = dnF (if l[k].kd = 3 then putI l[k].wh acc else acc) (l.drop (k + 1)) := by
  rw [List.drop_eq_getElem_cons h]; rfl
theorem dnF_len (l : List Nt) : ∀ acc, (dnF acc l).length ≤ acc.length + l.length := by
  induction l with
  | nil => intro acc; exact Nat.le_refl _
  | cons n r ih =>
    intro acc
    have h := ih (if n.kd = 3 then putI n.wh acc else acc)
    have h2 : (if n.kd = 3 then putI n.wh acc else acc).length ≤ acc.length + 1 := by
      by_cases q : n.kd = 3
      · rw [if_pos q]; exact putI_len _ _
      · rw [if_neg q]; omega
    show (dnF (if n.kd = 3 then putI n.wh acc else acc) r).length ≤ acc.length + (r.length + 1)
    omega
def doneOk (l : List Nt) : Bool := decide (l.length ≤ 60) && l.all noteB
def doneV (l : List Nt) : List Int := if doneOk l then dnF [] l else []
set_option maxHeartbeats 4000000 in
theorem sdone_any (a : Option Addr) (ka : Nat) (l : List Nt) (w : World) (hn : l.length ≤ 1048576) (hZ : Nts w.heap.size a l w) :
    Calls Try.prog 33 #[.slice a l.length ka] w (LOut (doneV l) (doneOk l) w) := by
  have HZ := hid hZ
  clear hZ
  by_cases h60 : l.length ≤ 60
  case neg =>
    have e1 : doneOk l = false := by unfold doneOk; rw [decide_eq_false h60]; rfl
    have e2 : doneV l = [] := by unfold doneV; rw [e1]; rfl
    have d1 : decide ((60 : Int) < (l.length : Int)) = true := decide_eq_true (by omega)
    rw [e1, e2]
    clear e1 e2
    go_enter Try.func33, Try.ntmps33
    go_wp2_with fail
    go_ret2
    exact LOut.no (Below.refl _ _)
  have d1 : decide ((60 : Int) < (l.length : Int)) = false := decide_eq_false (by omega)
  have EO : Hid (doneOk l = l.all noteB) := by show doneOk l = _; unfold doneOk; rw [decide_eq_true h60]; rfl
  have EV : Hid (doneV l = if doneOk l then dnF [] l else []) := rfl
  obtain ⟨oo, hoo⟩ : ∃ oo, oo = doneOk l := ⟨_, rfl⟩
  obtain ⟨vv, hvv⟩ : ∃ vv, vv = doneV l := ⟨_, rfl⟩
  rw [← hoo, ← hvv]
  have HOO := hid hoo
  have HVV := hid hvv
  clear hoo hvv
  go_enter Try.func33, Try.ntmps33
  go_wp2_with fail
  clear d1
  go_loopw [4, 12] (fun s i wr => ∃ (k : Nat) (acc : List Int), k ≤ l.length ∧ i = .int .i64 k ∧ AL w.heap.size s acc wr ∧ acc.Pairwise (· ≤ ·) ∧ acc.length ≤ k ∧ dnF acc (l.drop k) = dnF [] l ∧ (∀ j (h : j < l.length), j < k → noteB l[j] = true) ∧ Below w.heap.size w wr) (fun _ i _ => l.length - (intOf i).toNat)
  case atStart => exact ⟨0, [], Nat.zero_le _, rfl, AL.nil _ _, List.Pairwise.nil, Nat.le_refl _, rfl, (fun _ _ h => absurd h (Nat.not_lt_zero _)), Below.refl _ _⟩
  case round =>
    obtain ⟨k, acc, hk, rfl, hal, hso, hac, hdn, hall, hbel⟩ := hrel
    have HAL := hid hal
    have HSO := hid hso
    have HDN := hid hdn
    have HALL := hid hall
    have HBEL := hid hbel
    have HAC := hid hac
    clear hal hso hdn hall hac
    by_cases hlt : k < l.length
    · obtain ⟨b, off, rfl, hb, hc⟩ := HZ.out.cell (by omega)
      obtain ⟨y0, y1, y2, y3, y4⟩ := hc k hlt
      have hb' : ∀ o, wr.cell? ⟨b, o, none⟩ = w.cell? ⟨b, o, none⟩ := fun o => hbel.cell (p := ⟨b, o, none⟩) hb
      rw [← hb'] at y0 y1 y2 y3 y4
      have HN := hid (fun v => snote_any l[k] v)
      have HST := hid (dnF_step acc l k hlt)
      have HBAD : Hid (noteB l[k] = false → doneOk l = false) := fun h => EO.out.trans (all_bad hlt h)
      have HGO : Hid (noteB l[k] = true → ∀ j (hj : j < l.length), j < k + 1 → noteB l[j] = true) := fun h j hj hjk => by
        by_cases e : j = k
        · subst e; exact h
        · exact HALL.out j hj (by omega)
      have HA1 := hid (HAL.out.below (boxB wr (.cells #[.int .i64 l[k].kd, .int .i64 l[k].wh, .int .i64 l[k].cl, .int .i64 l[k].ws, .int .i64 l[k].is] 67)))
      have HB1 := hid (HBEL.out.trans ((boxB wr (.cells #[.int .i64 l[k].kd, .int .i64 l[k].wh, .int .i64 l[k].cl, .int .i64 l[k].ws, .int .i64 l[k].is] 67)).mono HBEL.out.size))
      have HL1 := hid (heap_last wr (.cells #[.int .i64 l[k].kd, .int .i64 l[k].wh, .int .i64 l[k].cl, .int .i64 l[k].ws, .int .i64 l[k].is] 67))
      clear hc hb' hbel HALL
      generalize l[k].kd = p0 at *
      generalize l[k].wh = p1 at *
      generalize l[k].cl = p2 at *
      generalize l[k].ws = p3 at *
      generalize l[k].is = p4 at *
      generalize noteB l[k] = r at *
      go_upto_region 7 with fail
      obtain ⟨Q, hQ⟩ : ∃ Q, Q = wr.heap.size := ⟨_, rfl⟩
      rw [← hQ] at HL1 ⊢
      have HQ := hid hQ
      clear hQ
      generalize wr.alloc (.cells #[.int .i64 p0, .int .i64 p1, .int .i64 p2, .int .i64 p3, .int .i64 p4] 67) = W at *
      have z0 := box_cell HL1.out 0
      have z1 := box_cell HL1.out 1
      have z2 := box_cell HL1.out 2
      have z3 := box_cell HL1.out 3
      have z4 := box_cell HL1.out 4
      clear y0 y1 y2 y3 y4
      go_wp2_with fail
      refine (HN.out W).mono ?_
      rintro e w2 ⟨rfl, b2⟩
      have HB2 := hid (HB1.out.trans (b2.mono HB1.out.size))
      have HA2 := hid (HA1.out.below b2)
      have HL2 := hid ((b2.block _ (kbox HL1.out)).trans HL1.out)
      clear b2 HN z0 z1 z2 z3 z4 HB1 HA1 HL1 HAL HBEL HQ
      cases r
      · have e1 := HBAD.out rfl
        have HE1 : Hid (oo = false) := HOO.out.trans e1
        have HE2 : Hid (vv = []) := by show vv = []; rw [HVV.out, EV.out, e1]; rfl
        clear e1 HBAD HGO
        go_wp2_with fail
        go_ret2
        rw [HE1.out, HE2.out]
        exact LOut.no HB2.out
      have HG := hid (HGO.out rfl)
      clear HBAD HGO
      have z0 := box_cell HL2.out 0
      have z1 := box_cell HL2.out 1
      by_cases q3 : p0 = 3
      · have g1 : (p0 == 3) = true := beq_iff_eq.2 q3
        have g2 : decide (p0 = 3) = true := decide_eq_true q3
        have HD : Hid (dnF (putI p1 acc) (l.drop (k + 1)) = dnF [] l) := by show dnF (putI p1 acc) _ = _; rw [← HDN.out, HST.out, if_pos q3]
        have HP := hid (putI_any w.heap.size _ acc p1 w2 (by have := HAC.out; omega) HB2.out.size HA2.out HSO.out)
        clear q3 HST
        go_wp2_with fail
        refine HP.out.mono ?_
        rintro e w3 ⟨v', rfl, o3, b3⟩
        have HA3 := hid o3
        have HB3 := hid (HB2.out.trans (b3.mono HB2.out.size))
        clear o3 b3 HP z0 z1
        go_wp2_with fail
        go_roundw
        case rel => exact ⟨k + 1, _, by omega, by go_num, HA3.out, putI_sorted _ HSO.out, by have := putI_len p1 acc; have := HAC.out; omega, HD.out, HG.out, HB3.out⟩
        case measure => simp [intOf]; omega
      · have g1 : (p0 == 3) = false := beq_eq_false_iff_ne.2 q3
        have g2 : decide (p0 = 3) = false := decide_eq_false q3
        have HD : Hid (dnF acc (l.drop (k + 1)) = dnF [] l) := by show dnF acc _ = _; rw [← HDN.out, HST.out, if_neg q3]
        clear q3 HST
        go_wp2_with fail
        go_roundw
        case rel => exact ⟨k + 1, acc, by omega, by go_num, HA2.out, HSO.out, by have := HAC.out; omega, HD.out, HG.out, HB2.out⟩
        case measure => simp [intOf]; omega
    · obtain rfl : k = l.length := by omega
      have e1 : doneOk l = true := EO.out.trans (all_all (fun j hj => HALL.out j hj hj))
      have hd : acc = dnF [] l := by rw [← HDN.out, List.drop_length]; rfl
      have HE1 : Hid (oo = true) := HOO.out.trans e1
      have HE2 : Hid (vv = acc) := by show vv = acc; rw [HVV.out, EV.out, e1, hd]; rfl
      clear e1 hd hbel
      go_wp2_with fail
      go_ret2
      rw [HE1.out, HE2.out]
      exact LOut.yes HAL.out HBEL.out
end Go.Proofs.Ytgompioaknfjgaa
