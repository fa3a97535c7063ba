/- The model's l14Has and l14Who. -/
import Derived.Test.YtgompioaknfjgabUwB
namespace Go.Proofs.Ytgompioaknfjgab
set_option maxRecDepth 100000
open Go Go.ChangeShapes Go.WideShapes Go.ChangeAt Go.RowKit
/-- whether one has set a cell since it began, of the first k notes -/
def hasN (l : List Nt) (who cell : Int) : Nat → Bool
  | 0 => false
  | k + 1 => match l[k]? with
    | none => false
    | some n => if n.wh = who then (if n.kd = 1 then false else if n.kd = 2 ∧ n.cl = cell then true else hasN l who cell k) else hasN l who cell k
theorem hasN_step (l : List Nt) (who cell : Int) (k : Nat) (h : k < l.length) : hasN l who cell (k + 1) = if l[k].wh = who then (if l[k].kd = 1 then false else if l[k].kd = 2 ∧ l[k].cl = cell then true else hasN l who cell k) else hasN l who cell k := by
  show (match l[k]? with | none => false | some n => if n.wh = who then (if n.kd = 1 then false else if n.kd = 2 ∧ n.cl = cell then true else hasN l who cell k) else hasN l who cell k) = _
  rw [List.getElem?_eq_getElem h]
def hasL (l : List Nt) (who cell : Int) : Bool := hasN l who cell l.length
def whoF (l : List Nt) (cell : Int) : List Int → Int
  | [] => 0
  | who :: r => if hasL l who cell then who else whoF l cell r
theorem whoF_step (l : List Nt) (cell : Int) (o : List Int) (k : Nat) (h : k < o.length) : whoF l cell (o.drop k) = if hasL l o[k] cell then o[k] else whoF l cell (o.drop (k + 1)) := by
  rw [List.drop_eq_getElem_cons h]; rfl
set_option maxHeartbeats 4000000 in
theorem shas_any (a : Option Addr) (ka : Nat) (l : List Nt) (who cell : Int) (w : World) (hn : l.length ≤ 1048576) (hZ : Nts w.heap.size a l w) :
    Calls Try.prog 25 #[.slice a l.length ka, .int .i64 who, .int .i64 cell] w fun e w' => e = .returned (.bool (hasL l who cell)) ∧ Below w.heap.size w w' := by
  have HZ := hid hZ
  have EL : Hid (hasL l who cell = hasN l who cell l.length) := rfl
  clear hZ
  have hst : wrap64 ((l.length : Int) - 1) = (l.length : Int) - 1 := by unfold wrap64; omega
  go_enter Try.func25, Try.ntmps25
  go_wp2_with fail
  go_loopw [7] (fun i wr => ∃ k : Nat, k ≤ l.length ∧ i = .int .i64 ((k : Int) - 1) ∧ hasL l who cell = hasN l who cell k ∧ Below w.heap.size w wr) (fun i _ => (intOf i + 1).toNat)
  case atStart => exact ⟨l.length, Nat.le_refl _, by first | rfl | (rw [hst]), EL.out, Below.refl _ _⟩
  case round =>
    obtain ⟨k, hk, rfl, hv, hbel⟩ := hrel
    have HV := hid hv
    have HBEL := hid hbel
    clear hv
    cases k with
    | zero =>
      have d1 : decide ((0 : Int) ≤ ((0 : Nat) : Int) - 1) = false := by decide
      have HE : Hid (hasL l who cell = false) := HV.out
      clear HV hbel
      go_wp2_with fail
      go_ret
      exact ⟨ret_b2 HE.out.symm, HBEL.out⟩
    | succ j =>
      have hj : j < l.length := hk
      have ej : (((j + 1 : Nat) : Int) - 1) = (j : Int) := by omega
      have d1 : decide ((0 : Int) ≤ (j : Int)) = true := decide_eq_true (by omega)
      have hw1 : wrap64 ((j : Int) - 1) = (j : Int) - 1 := by unfold wrap64; omega
      obtain ⟨b, off, rfl, hb, hc⟩ := HZ.out.cell (by omega)
      obtain ⟨y0, y1, y2, y3, y4⟩ := hc j hj
      have hb' : ∀ o, wr.cell? ⟨b, o, none⟩ = w.cell? ⟨b, o, none⟩ := fun o => hbel.cell (p := ⟨b, o, none⟩) hb
      rw [← hb'] at y0 y1 y2 y3 y4
      have HS : Hid (hasL l who cell = if l[j].wh = who then (if l[j].kd = 1 then false else if l[j].kd = 2 ∧ l[j].cl = cell then true else hasN l who cell j) else hasN l who cell j) := HV.out.trans (hasN_step l who cell j hj)
      clear hc hb' hbel HV y3 y4
      rw [ej]
      generalize l[j].kd = p0 at *
      generalize l[j].wh = p1 at *
      generalize l[j].cl = p2 at *
      by_cases hw : p1 = who
      case neg =>
        have e1 : (p1 == who) = false := beq_eq_false_iff_ne.2 hw
        have e2 : (p1 != who) = true := bne_iff_ne.2 hw
        have e3 : decide (p1 = who) = false := decide_eq_false hw
        have HE : Hid (hasL l who cell = hasN l who cell j) := by show hasL l who cell = _; rw [HS.out, if_neg hw]
        clear hw HS
        go_wp2_with fail
        go_roundw
        case rel => exact ⟨j, by omega, by first | rfl | (rw [hw1]), HE.out, HBEL.out⟩
        case measure => simp [intOf]; try omega
      have e1 : (p1 == who) = true := beq_iff_eq.2 hw
      have e2 : (p1 != who) = false := by rw [bne, e1]; rfl
      have e3 : decide (p1 = who) = true := decide_eq_true hw
      have HS2 : Hid (hasL l who cell = if p0 = 1 then false else if p0 = 2 ∧ p2 = cell then true else hasN l who cell j) := by show hasL l who cell = _; rw [HS.out, if_pos hw]
      clear hw HS
      by_cases q1 : p0 = 1
      · have g1 : (p0 == 1) = true := beq_iff_eq.2 q1
        have g2 : decide (p0 = 1) = true := decide_eq_true q1
        have HE : Hid (hasL l who cell = false) := by show hasL l who cell = _; rw [HS2.out, if_pos q1]
        clear q1 HS2
        go_wp2_with fail
        go_ret
        exact ⟨ret_b2 HE.out.symm, HBEL.out⟩
      have g1 : (p0 == 1) = false := beq_eq_false_iff_ne.2 q1
      have g2 : decide (p0 = 1) = false := decide_eq_false q1
      by_cases q2 : p0 = 2
      case neg =>
        have g3 : (p0 == 2) = false := beq_eq_false_iff_ne.2 q2
        have g4 : decide (p0 = 2) = false := decide_eq_false q2
        have HE : Hid (hasL l who cell = hasN l who cell j) := by show hasL l who cell = _; rw [HS2.out, if_neg q1, if_neg (fun h => q2 h.1)]
        clear q1 q2 HS2
        go_wp2_with fail
        go_roundw
        case rel => exact ⟨j, by omega, by first | rfl | (rw [hw1]), HE.out, HBEL.out⟩
        case measure => simp [intOf]; try omega
      have g3 : (p0 == 2) = true := beq_iff_eq.2 q2
      have g4 : decide (p0 = 2) = true := decide_eq_true q2
      by_cases q5 : p2 = cell
      · have g5 : (p2 == cell) = true := beq_iff_eq.2 q5
        have g6 : decide (p2 = cell) = true := decide_eq_true q5
        have HE : Hid (hasL l who cell = true) := by show hasL l who cell = _; rw [HS2.out, if_neg q1, if_pos ⟨q2, q5⟩]
        clear q1 q2 q5 HS2
        go_wp2_with fail
        go_ret
        exact ⟨ret_b2 HE.out.symm, HBEL.out⟩
      · have g5 : (p2 == cell) = false := beq_eq_false_iff_ne.2 q5
        have g6 : decide (p2 = cell) = false := decide_eq_false q5
        have HE : Hid (hasL l who cell = hasN l who cell j) := by show hasL l who cell = _; rw [HS2.out, if_neg q1, if_neg (fun h => q5 h.2)]
        clear q1 q2 q5 HS2
        go_wp2_with fail
        go_roundw
        case rel => exact ⟨j, by omega, by first | rfl | (rw [hw1]), HE.out, HBEL.out⟩
        case measure => simp [intOf]; try omega
set_option maxHeartbeats 4000000 in
theorem swho_any (A : UwA) (X : Uw) (cell : Int) (w : World) (hf : UwFit X) (h : UwR w.heap.size A X w) :
    Calls Try.prog 13 #[.agg #[.slice A.c X.cl.length A.kc, .slice A.d X.dk.length A.kd, .slice A.l X.lg.length A.kl, .int .i64 X.sr, .slice A.o X.op.length A.ko], .int .i64 cell] w fun e w' => e = .returned (.int .i64 (whoF X.lg cell X.op)) ∧ Below w.heap.size w w' := by
  have HB0 := hid (boxB w ((.cells #[.slice A.c X.cl.length A.kc, .slice A.d X.dk.length A.kd, .slice A.l X.lg.length A.kl, .int .i64 X.sr, .slice A.o X.op.length A.ko] 31)))
  have HK0 := hid (heap_last w ((.cells #[.slice A.c X.cl.length A.kc, .slice A.d X.dk.length A.kd, .slice A.l X.lg.length A.kl, .int .i64 X.sr, .slice A.o X.op.length A.ko] 31)))
  have HZ : Hid (∀ v, Below w.heap.size w v → UwR v.heap.size A X v) := fun v g => h.up g g.size
  have HO := hid h.o
  have HF := hid hf
  have n2 := hf.l
  have n3 := hf.o
  clear h hf
  go_enter Try.func13, Try.ntmps13
  go_upto_region 1 with fail
  generalize w.alloc ((.cells #[.slice A.c X.cl.length A.kc, .slice A.d X.dk.length A.kd, .slice A.l X.lg.length A.kl, .int .i64 X.sr, .slice A.o X.op.length A.ko] 31)) = W at *
  have x2 := box_cell HK0.out 2
  have x4 := box_cell HK0.out 4
  go_wp2_with fail
  go_loopw [10] (fun i wr => ∃ k : Nat, k ≤ X.op.length ∧ i = .int .i64 k ∧ whoF X.lg cell X.op = whoF X.lg cell (X.op.drop k) ∧ Below W.heap.size W wr) (fun i _ => X.op.length - (intOf i).toNat)
  case atStart => exact ⟨0, Nat.zero_le _, rfl, rfl, Below.refl _ _⟩
  case round =>
    obtain ⟨k, hk, rfl, hv, hbel⟩ := hrel
    have HV := hid hv
    have HBEL := hid hbel
    have HB := hid (HB0.out.trans (hbel.mono HB0.out.size))
    have HK := hid ((hbel.block _ (kbox HK0.out)).trans HK0.out)
    clear hv hbel x2 x4
    have x2 := box_cell HK.out 2
    by_cases hlt : k < X.op.length
    · obtain ⟨b, off, eb, hb, hc⟩ := HO.out.cell (by omega)
      have y0 := hc k hlt
      have HN := hid (fun v g => shas_any A.l A.kl X.lg X.op[k] cell v n2 (HZ.out v g).l)
      have hb' : wr.cell? ⟨b, off + k, none⟩ = w.cell? ⟨b, off + k, none⟩ := HB.out.cell (p := ⟨b, off + k, none⟩) hb
      rw [← hb'] at y0
      have HS : Hid (whoF X.lg cell X.op = if hasL X.lg X.op[k] cell then X.op[k] else whoF X.lg cell (X.op.drop (k + 1))) := HV.out.trans (whoF_step X.lg cell X.op k hlt)
      rw [eb]
      clear hc eb hb' HV
      generalize X.op[k] = p at *
      generalize hasL X.lg p cell = r at *
      go_wp2_with fail
      refine (HN.out _ HB.out).mono ?_
      rintro e w2 ⟨rfl, b2⟩
      have HB2 := hid (HBEL.out.trans (b2.mono HBEL.out.size))
      clear b2 HN y0 x2
      cases r
      · have HE : Hid (whoF X.lg cell X.op = whoF X.lg cell (X.op.drop (k + 1))) := by show whoF X.lg cell X.op = _; rw [HS.out]; rfl
        clear HS
        go_wp2_with fail
        go_roundw
        case rel => exact ⟨k + 1, by omega, by go_num, HE.out, HB2.out⟩
        case measure => simp [intOf]; omega
      · have HE : Hid (whoF X.lg cell X.op = p) := by show whoF X.lg cell X.op = _; rw [HS.out]; rfl
        clear HS
        go_wp2_with fail
        go_ret
        exact ⟨by rw [HE.out]; rfl, HB0.out.trans (HB2.out.mono HB0.out.size)⟩
    · obtain rfl : k = X.op.length := by omega
      have HE : Hid (whoF X.lg cell X.op = 0) := by show whoF X.lg cell X.op = _; rw [HV.out, List.drop_length]; rfl
      clear HV hlt
      go_wp2_with fail
      go_ret
      exact ⟨by rw [HE.out]; rfl, HB.out⟩
end Go.Proofs.Ytgompioaknfjgab
