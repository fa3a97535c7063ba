/- The model's l14Open and GoodWorks. -/
import Derived.Test.YtgompioaknfjgabUwB
import Derived.Deep.RegionHeld
namespace Go.Proofs.Ytgompioaknfjgab
set_option maxRecDepth 100000
open Go Go.ChangeShapes Go.WideShapes Go.ChangeAt Go.RowKit
set_option maxHeartbeats 8000000 in
theorem sopen_any (a : Option Addr) (ka : Nat) (l : List Nt) (w : World) (hn : l.length ≤ 1048576) (hZ : Nts w.heap.size a l w) :
    Calls Try.prog 24 #[.slice a l.length ka] w fun e w' => ∃ v, e = .returned v ∧ AL w.heap.size v (openL l) w' ∧ Below w.heap.size w w' := by
  have HZ := hid hZ
  clear hZ
  go_enter Try.func24, Try.ntmps24
  go_wp2_with fail
  go_loopw [3, 4] (fun s i wr => ∃ (k : Nat) (v : Value), k ≤ 9 ∧ i = .int .i64 ((k : Int) + 1) ∧ s = v ∧ AL w.heap.size v (openK l k) wr ∧ Below w.heap.size w wr) (fun _ i _ => 10 - (intOf i).toNat)
  case atStart => exact ⟨0, _, Nat.zero_le _, rfl, rfl, AL.nil _ _, Below.refl _ _⟩
  case round =>
    obtain ⟨k, v, hk, rfl, rfl, hal, hbel⟩ := hrel
    obtain ⟨wo, rfl⟩ : ∃ wo, wo = wr := ⟨_, rfl⟩
    have HAL := hid hal
    have HBEL := hid hbel
    clear hal hbel
    by_cases h9 : k < 9
    case neg =>
      obtain rfl : k = 9 := by omega
      have d1 : decide ((((9 : Nat) : Int) + 1) ≤ 9) = false := by decide
      go_wp2_with fail
      go_ret
      exact ⟨_, rfl, HAL.out, HBEL.out⟩
    have d1 : decide (((k : Int) + 1) ≤ 9) = true := decide_eq_true (by omega)
    have hw1 : wrap64 ((k : Int) + 1 + 1) = ((k + 1 : Nat) : Int) + 1 := by unfold wrap64; omega
    go_wp2_with fail
    go_loopw [5, 14] (fun b i wx => ∃ (j : Nat) (t : Bool), j ≤ l.length ∧ i = .int .i64 j ∧ b = .bool t ∧ openF ((k : Int) + 1) t (l.drop j) = openF ((k : Int) + 1) false l ∧ Below wo.heap.size wo wx) (fun _ i _ => l.length - (intOf i).toNat)
    case atStart => exact ⟨0, false, Nat.zero_le _, rfl, rfl, rfl, Below.refl _ _⟩
    case round =>
      obtain ⟨j, t, hj, rfl, rfl, hv, hb2⟩ := hrel
      have HV := hid hv
      have HB2 := hid hb2
      have HBX := hid (HBEL.out.trans (hb2.mono HBEL.out.size))
      clear hv
      by_cases hlt : j < l.length
      · obtain ⟨b, off, rfl, hb, hc⟩ := HZ.out.cell (by omega)
        obtain ⟨x0, x1, x2, x3, x4⟩ := hc j hlt
        have hb' : ∀ o, wr.cell? ⟨b, o, none⟩ = w.cell? ⟨b, o, none⟩ := fun o => HBX.out.cell (p := ⟨b, o, none⟩) hb
        rw [← hb'] at x0 x1 x2 x3 x4
        have HES := hid (openF_step ((k : Int) + 1) t l j hlt)
        have HBN := hid (HB2.out.trans ((boxB wr (.cells #[.int .i64 l[j].kd, .int .i64 l[j].wh, .int .i64 l[j].cl, .int .i64 l[j].ws, .int .i64 l[j].is] 47)).mono HB2.out.size))
        have HL := hid (heap_last wr (.cells #[.int .i64 l[j].kd, .int .i64 l[j].wh, .int .i64 l[j].cl, .int .i64 l[j].ws, .int .i64 l[j].is] 47))
        clear hc hb' hb2
        generalize l[j].kd = p0 at *
        generalize l[j].wh = p1 at *
        generalize l[j].cl = p2 at *
        generalize l[j].ws = p3 at *
        generalize l[j].is = p4 at *
        go_upto_region 9 with fail
        generalize wr.alloc (.cells #[.int .i64 p0, .int .i64 p1, .int .i64 p2, .int .i64 p3, .int .i64 p4] 47) = W at *
        have z0 := box_cell HL.out 0
        have z1 := box_cell HL.out 1
        clear HL x0 x1 x2 x3 x4
        by_cases hw : p1 = (k : Int) + 1
        case neg =>
          have e1 : (p1 == (k : Int) + 1) = false := beq_eq_false_iff_ne.2 hw
          have e2 : (p1 != (k : Int) + 1) = true := bne_iff_ne.2 hw
          have HE : Hid (openF ((k : Int) + 1) t (l.drop (j + 1)) = openF ((k : Int) + 1) false l) := by
            show openF ((k : Int) + 1) t (l.drop (j + 1)) = _
            rw [← HV.out, HES.out, if_neg hw]
          clear hw HES HV
          go_wp2_with fail
          go_roundw
          case rel => exact ⟨j + 1, t, by omega, by go_num, rfl, HE.out, HBN.out⟩
          case measure => simp [intOf]; omega
        have e1 : (p1 == (k : Int) + 1) = true := beq_iff_eq.2 hw
        have e2 : (p1 != (k : Int) + 1) = false := by rw [bne, e1]; rfl
        have HES2 : Hid (openF ((k : Int) + 1) t (l.drop j) = if p0 = 1 then openF ((k : Int) + 1) true (l.drop (j + 1)) else if p0 = 3 ∨ p0 = 4 then openF ((k : Int) + 1) false (l.drop (j + 1)) else openF ((k : Int) + 1) t (l.drop (j + 1))) := by
          show openF ((k : Int) + 1) t (l.drop j) = _
          rw [HES.out, if_pos hw]
        clear hw HES
        by_cases q1 : p0 = 1
        · have g1 : (p0 == 1) = true := beq_iff_eq.2 q1
          have g2 : decide (p0 = 1) = true := decide_eq_true q1
          have HE : Hid (openF ((k : Int) + 1) true (l.drop (j + 1)) = openF ((k : Int) + 1) false l) := by
            show openF ((k : Int) + 1) true (l.drop (j + 1)) = _
            rw [← HV.out, HES2.out, if_pos q1]
          clear q1 HES2 HV
          go_wp2_with fail
          go_roundw
          case rel => exact ⟨j + 1, true, by omega, by go_num, rfl, HE.out, HBN.out⟩
          case measure => simp [intOf]; omega
        have g1 : (p0 == 1) = false := beq_eq_false_iff_ne.2 q1
        have g2 : decide (p0 = 1) = false := decide_eq_false q1
        by_cases q3 : p0 = 3
        · have g3 : (p0 == 3) = true := beq_iff_eq.2 q3
          have g4 : decide (p0 = 3) = true := decide_eq_true q3
          have HE : Hid (openF ((k : Int) + 1) false (l.drop (j + 1)) = openF ((k : Int) + 1) false l) := by
            show openF ((k : Int) + 1) false (l.drop (j + 1)) = _
            rw [← HV.out, HES2.out, if_neg q1, if_pos (Or.inl q3)]
          clear q1 q3 HES2 HV
          go_wp2_with fail
          go_roundw
          case rel => exact ⟨j + 1, false, by omega, by go_num, rfl, HE.out, HBN.out⟩
          case measure => simp [intOf]; omega
        have g3 : (p0 == 3) = false := beq_eq_false_iff_ne.2 q3
        have g4 : decide (p0 = 3) = false := decide_eq_false q3
        by_cases q4 : p0 = 4
        · have g5 : (p0 == 4) = true := beq_iff_eq.2 q4
          have g6 : decide (p0 = 4) = true := decide_eq_true q4
          have HE : Hid (openF ((k : Int) + 1) false (l.drop (j + 1)) = openF ((k : Int) + 1) false l) := by
            show openF ((k : Int) + 1) false (l.drop (j + 1)) = _
            rw [← HV.out, HES2.out, if_neg q1, if_pos (Or.inr q4)]
          clear q1 q3 q4 HES2 HV
          go_wp2_with fail
          go_roundw
          case rel => exact ⟨j + 1, false, by omega, by go_num, rfl, HE.out, HBN.out⟩
          case measure => simp [intOf]; omega
        have g5 : (p0 == 4) = false := beq_eq_false_iff_ne.2 q4
        have g6 : decide (p0 = 4) = false := decide_eq_false q4
        have HE : Hid (openF ((k : Int) + 1) t (l.drop (j + 1)) = openF ((k : Int) + 1) false l) := by
          show openF ((k : Int) + 1) t (l.drop (j + 1)) = _
          rw [← HV.out, HES2.out, if_neg q1, if_neg (fun h => h.elim q3 q4)]
        clear q1 q3 q4 HES2 HV
        go_wp2_with fail
        go_roundw
        case rel => exact ⟨j + 1, t, by omega, by go_num, rfl, HE.out, HBN.out⟩
        case measure => simp [intOf]; omega
      obtain rfl : j = l.length := by omega
      have HT : Hid (openF ((k : Int) + 1) false l = t) := by
        show openF ((k : Int) + 1) false l = t
        rw [← HV.out, List.drop_length]; rfl
      have HAL2 := hid (HAL.out.below hb2)
      have hszx : w.heap.size ≤ wr.heap.size := HBX.out.size
      clear HV hb2 HAL hlt hj
      cases t
      · have HK1 : Hid (openK l (k + 1) = openK l k) := by show (if openF ((k : Int) + 1) false l then _ else _) = _; rw [HT.out]; rfl
        go_wp2_with fail
        go_roundw
        case rel => exact ⟨k + 1, _, by omega, by first | rfl | (rw [hw1]), rfl, by rw [HK1.out]; exact HAL2.out, HBX.out⟩
        case measure => simp [intOf]; omega
      · have HK1 : Hid (openK l (k + 1) = openK l k ++ [(k : Int) + 1]) := by show (if openF ((k : Int) + 1) false l then _ else _) = _; rw [HT.out]; rfl
        obtain ⟨v', w', r1, o1, g1', z1, gb, -⟩ := HAL2.out.push hszx ((k : Int) + 1) (by have := openK_len l k; omega)
        have HO := hid o1
        have HBY := hid (HBX.out.trans g1')
        clear o1 g1' z1 gb
        go_wp2_with (refine wpList_append_run rfl _ _ 22 rfl _ _ rfl rfl _ _ r1 ?_)
        go_roundw
        case rel => exact ⟨k + 1, v', by omega, by first | rfl | (rw [hw1]), rfl, by rw [HK1.out]; exact HO.out, HBY.out⟩
        case measure => simp [intOf]; omega
end Go.Proofs.Ytgompioaknfjgab
