/- Walk of the model's l5Room. -/
import Derived.Test.YtpdcomlokcohjaaHRead
import Derived.Test.YtpdcomlokcohjaaHFind
namespace Go.Proofs.Ytpdcomlokcohjaa
set_option maxRecDepth 100000
open Go.ChangeShapes Go.WideShapes Go.ChangeAt Go.RowKit G00541
/-- the box of a heap that a call keeps -/
structure Bx (w : World) (o : Obj) (wr : World) : Prop where
  below : Below w.heap.size w wr
  box : wr.heap[w.heap.size]? = some o
theorem Bx.start (w : World) (o : Obj) : Bx w o (w.alloc o) := ⟨boxB w o, heap_last w o⟩
theorem Bx.lt {w : World} {o : Obj} {wr : World} (h : Bx w o wr) : w.heap.size < wr.heap.size := by
  rcases Nat.lt_or_ge w.heap.size wr.heap.size with h' | h'
  · exact h'
  · have := h.box
    rw [Array.getElem?_eq_none h'] at this; cases this
theorem Bx.on {w : World} {o : Obj} {wr w' : World} (h : Bx w o wr) (g : Below wr.heap.size wr w') : Bx w o w' :=
  ⟨h.below.trans (g.mono (Nat.le_of_lt h.lt)), (g.block _ h.lt).trans h.box⟩
set_option maxHeartbeats 1000000 in
theorem l5Room_any (aS aL : Option Addr) (kS kL nL : Nat) (S : List Sg) (no : Int) (w : World) (hm : S.length ≤ 1048576) (hG : Gs w.heap.size aS S w) :
    Calls Try.prog 64 #[.agg #[.slice aS S.length kS, .slice aL nL kL], .int .i64 no] w fun e w' => e = .returned (.int .i64 (optI (roomH S no))) ∧ Below w.heap.size w w' := by
  have HG := hid hG
  have HB : Hid (Bx w (.cells #[.slice aS S.length kS, .slice aL nL kL] 26) (w.alloc (.cells #[.slice aS S.length kS, .slice aL nL kL] 26))) := Bx.start _ _
  clear hG
  go_enter Try.func64, Try.ntmps64
  go_wp2_with fail
  go_loopw [12] (fun i wr => ∃ k : Nat, k ≤ S.length ∧ i = .int .i64 k ∧ (∀ j, j < k → roomP S no j = false) ∧ Bx w (.cells #[.slice aS S.length kS, .slice aL nL kL] 26) wr) (fun i _ => S.length - (intOf i).toNat)
  case atStart => exact ⟨0, Nat.zero_le _, rfl, (fun _ h => absurd h (Nat.not_lt_zero _)), HB.out⟩
  case round =>
    clear HB
    obtain ⟨k, hk, rfl, hno, hbx⟩ := hrel
    have HNO := hid hno
    have HBX := hid hbx
    clear hno
    by_cases hlt : k < S.length
    · obtain ⟨b, off, rfl, hb, hcl⟩ := HG.out (by omega)
      obtain ⟨p, c, c0, c1, -⟩ := hcl k hlt
      rw [← hbx.below.cell (p := ⟨b, off + k * 2, none⟩) hb] at c0
      rw [← hbx.below.cell (p := ⟨b, off + k * 2 + 1, none⟩) hb] at c1
      have hp : roomP S no k = decide ((k : Int) ≠ no ∧ 1 ≤ S[k].bl.length ∧ S[k].bl.length ≤ 5) := by unfold roomP; rw [lenAt_eq S k hlt]
      have HP := hid hp
      have HYES : Hid (roomP S no k = true → optI (roomH S no) = k) := fun h => by rw [roomH_p S no k hlt h HNO.out]; rfl
      have HNX : Hid (roomP S no k = false → ∀ j, j < k + 1 → roomP S no j = false) := fun h j hj => by
        by_cases e : j = k
        · subst e; exact h
        · exact HNO.out j (by omega)
      clear hcl hp HNO hbx
      generalize S[k] = s at *
      obtain ⟨l, age⟩ := s
      simp only at c0 c1 HP
      have HB2 := hid (HBX.out.on (boxB wr (.cells #[.slice p l.length c, .int .i64 age] 40)))
      by_cases q0 : (k : Int) = no
      · have hd1 : ((k : Int) != no) = false := by rw [q0]; simp
        have hd2 : ((k : Int) == no) = true := beq_iff_eq.2 q0
        have HN := hid (HNX.out (by rw [HP.out]; exact decide_eq_false (fun h => h.1 q0)))
        clear HNX HYES HP HBX q0
        go_wp2_with fail
        go_roundw
        case rel => exact ⟨k + 1, by omega, by go_num, HN.out, HB2.out⟩
        case measure => simp [intOf]; omega
      · have hd1 : ((k : Int) != no) = true := bne_iff_ne.2 q0
        have hd2 : ((k : Int) == no) = false := beq_eq_false_iff_ne.2 q0
        by_cases q1 : 1 ≤ l.length ∧ l.length ≤ 5
        · have HIN := hid (fun v => l1In_yes (l.length : Int) 1 5 v (by omega) (by omega))
          have HV := hid (HYES.out (by rw [HP.out]; exact decide_eq_true ⟨q0, q1.1, q1.2⟩))
          clear HNX HYES HP HBX q0
          go_wp2_with fail
          refine (HIN.out _).mono ?_
          rintro e w2 ⟨rfl, hw2⟩
          rw [hw2]
          clear hw2
          go_wp2_with fail
          go_ret
          exact ⟨ret_i HV.out.symm, HB2.out.below⟩
        · have HIN := hid (fun v => l1In_no (l.length : Int) 1 5 v (by omega))
          have HN := hid (HNX.out (by rw [HP.out]; exact decide_eq_false (fun h => q1 h.2)))
          clear HNX HYES HP HBX q0
          go_wp2_with fail
          refine (HIN.out _).mono ?_
          rintro e w2 ⟨rfl, hw2⟩
          rw [hw2]
          clear hw2
          go_wp2_with fail
          go_roundw
          case rel => exact ⟨k + 1, by omega, by go_num, HN.out, HB2.out⟩
          case measure => simp [intOf]; omega
    · have HNP : Hid (∀ j, j < S.length → roomP S no j = false) := fun j hj => HNO.out j (by omega)
      have y0 := box_cell hbx.box 0
      clear hbx HNO
      go_wp2_with fail
      go_loopw [31] (fun i wr => ∃ k : Nat, k ≤ S.length ∧ i = .int .i64 k ∧ (∀ j, j < k → roomQ S no j = false) ∧ Bx w (.cells #[.slice aS S.length kS, .slice aL nL kL] 26) wr) (fun i _ => S.length - (intOf i).toNat)
      case atStart => exact ⟨0, Nat.zero_le _, rfl, (fun _ h => absurd h (Nat.not_lt_zero _)), HBX.out⟩
      case round =>
        clear HBX y0 hlt hk
        obtain ⟨k, hk, rfl, hno, hbx⟩ := hrel
        have HNO := hid hno
        have HBX := hid hbx
        clear hno
        by_cases hlt : k < S.length
        · obtain ⟨b, off, rfl, hb, hcl⟩ := HG.out (by omega)
          obtain ⟨p, c, c0, c1, -⟩ := hcl k hlt
          rw [← hbx.below.cell (p := ⟨b, off + k * 2, none⟩) hb] at c0
          rw [← hbx.below.cell (p := ⟨b, off + k * 2 + 1, none⟩) hb] at c1
          have hp : roomQ S no k = decide ((k : Int) ≠ no ∧ S[k].bl.length = 0) := by unfold roomQ; rw [lenAt_eq S k hlt]
          have HP := hid hp
          have HYES : Hid (roomQ S no k = true → optI (roomH S no) = k) := fun h => by rw [roomH_q S no HNP.out k hlt h HNO.out]; rfl
          have HNX : Hid (roomQ S no k = false → ∀ j, j < k + 1 → roomQ S no j = false) := fun h j hj => by
            by_cases e : j = k
            · subst e; exact h
            · exact HNO.out j (by omega)
          clear hcl hp HNO hbx
          generalize S[k] = s at *
          obtain ⟨l, age⟩ := s
          simp only at c0 c1 HP
          have HB2 := hid (HBX.out.on (boxB wr (.cells #[.slice p l.length c, .int .i64 age] 40)))
          by_cases q0 : (k : Int) = no
          · have hd1 : ((k : Int) != no) = false := by rw [q0]; simp
            have hd2 : ((k : Int) == no) = true := beq_iff_eq.2 q0
            have HN := hid (HNX.out (by rw [HP.out]; exact decide_eq_false (fun h => h.1 q0)))
            clear HNX HYES HP HBX q0
            go_wp2_with fail
            go_roundw
            case rel => exact ⟨k + 1, by omega, by go_num, HN.out, HB2.out⟩
            case measure => simp [intOf]; omega
          · have hd1 : ((k : Int) != no) = true := bne_iff_ne.2 q0
            have hd2 : ((k : Int) == no) = false := beq_eq_false_iff_ne.2 q0
            by_cases q1 : l.length = 0
            · have hd3 : ((l.length : Int) == 0) = true := beq_iff_eq.2 (by omega)
              have HV := hid (HYES.out (by rw [HP.out]; exact decide_eq_true ⟨q0, q1⟩))
              clear HNX HYES HP HBX q0 q1
              go_wp2_with fail
              go_ret
              exact ⟨ret_i HV.out.symm, HB2.out.below⟩
            · have hd3 : ((l.length : Int) == 0) = false := beq_eq_false_iff_ne.2 (by omega)
              have HN := hid (HNX.out (by rw [HP.out]; exact decide_eq_false (fun h => q1 h.2)))
              clear HNX HYES HP HBX q0 q1
              go_wp2_with fail
              go_roundw
              case rel => exact ⟨k + 1, by omega, by go_num, HN.out, HB2.out⟩
              case measure => simp [intOf]; omega
        · have HV : Hid (optI (roomH S no) = -1) := by rw [roomH_no S no HNP.out (fun j hj => HNO.out j (by omega))]; rfl
          clear hbx HNO
          go_wp2_with fail
          go_ret
          exact ⟨ret_i HV.out.symm, HBX.out.below⟩
end Go.Proofs.Ytpdcomlokcohjaa
