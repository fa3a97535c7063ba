/- Two lists of numbers put together. -/
import Derived.Test.YteakdhlloollfaaPRk
import Derived.Test.YteakdhlloollfaaAShG
namespace Go.Proofs.Yteakdhlloollfaa
set_option maxRecDepth 100000
open Go Go.ChangeShapes Go.WideShapes Go.ChangeAt Go.RowKit Go.Shelf
theorem growAL (n : Nat) (w : World) (hn : n ≤ 8000) : Calls Try.prog 35 #[.slice none 0 0, .int .i64 (n : Int)] w fun e w' => ∃ v, e = .returned v ∧ AL w.heap.size v [] w' ∧ Below w.heap.size w w' := by
  by_cases h0 : n = 0
  · subst h0
    exact (growI_room none 0 0 0 w (Nat.le_refl _) (by omega) (by omega) (Nat.le_refl _)).mono fun e w' ⟨he, hw⟩ => ⟨_, he, by rw [hw]; exact AL.nil _ _, by rw [hw]; exact Below.refl _ _⟩
  · obtain ⟨i0, hi, hz0, hz1, hz2⟩ := info_parts infoI
    refine (growI_grow i0 (.int .i64 0) hi hz0 (by omega) n w (by omega) (by rw [hz2]; omega) (by omega)).mono ?_
    rintro e w' ⟨he, hw⟩
    refine ⟨_, he, ?_, ?_⟩
    · rw [hw]
      have hge := grownCap_ge w (0 + n) 0 3
      have hle := grownCap_le_maxLen w (0 + n) 0 3 (by unfold maxLen; omega)
      generalize grownCap w (0 + n) 0 3 = C at *
      have := World.ownsRow_made w.drew (base := w.heap.size) (e := 3) (size := 1) (([] : List Value).toArray ++ Builtin.zeroCells (Value.int .i64 0).cells (0 + n - 0) ++ Builtin.zeroCells (Value.int .i64 0).cells (C - (0 + n))) C (Nat.le_refl _) hle (by
        rw [Array.size_append, Array.size_append, size_zeroCells, size_zeroCells]
        show ([] : List Value).toArray.size + _ * 1 + _ * 1 = _
        simp; omega)
      exact this
    · rw [hw]; exact (Below.refl _ w).drew.alloc (Nat.le_refl _) _
/-- how many the first k lists have; what they are -/
def szK (X Y : List Int) : Nat → Nat
  | 0 => 0
  | 1 => X.length
  | _ + 2 => X.length + Y.length
def partK (X Y : List Int) : Nat → List Int
  | 0 => []
  | 1 => X
  | _ + 2 => X ++ Y
set_option maxHeartbeats 2000000 in
theorem concat_two (R : Nat) (a1 a2 : Option Addr) (c1 c2 : Nat) (X Y : List Int) (w : World) (hX : X.length ≤ 4000) (hY : Y.length ≤ 4000) (hR : w.heap[R]? = some (.cells #[.slice a1 X.length c1, .slice a2 Y.length c2] 23)) (h1 : Is w.heap.size a1 X w) (h2 : Is w.heap.size a2 Y w) :
    Calls Try.prog 23 #[.slice (some ⟨R, 0, none⟩) 2 2] w fun e w' => ∃ v, e = .returned v ∧ AL w.heap.size v (X ++ Y) w' ∧ Below w.heap.size w w' := by
  have HR := hid hR
  have H1 := hid h1
  have H2 := hid h2
  have HG := hid (growAL (X.length + Y.length) w (by omega))
  have hRlt : R < w.heap.size := (Array.getElem?_eq_some_iff.1 hR).1
  clear hR h1 h2
  go_enter Try.func23, Try.ntmps23
  go_wp2_with fail
  go_loopw [3, 11] (fun z i wr => ∃ k : Nat, k ≤ 2 ∧ i = .int .i64 k ∧ z = .int .i64 (szK X Y k : Int) ∧ wr = w) (fun _ i _ => 2 - (ivl i).toNat)
  case atStart => exact ⟨0, by omega, rfl, rfl, rfl⟩
  case round =>
    obtain ⟨k, hk, rfl, rfl, hwr⟩ := hrel
    rw [hwr]
    clear hwr
    rcases (show k = 0 ∨ k = 1 ∨ k = 2 by omega) with rfl | rfl | rfl
    · have y0 : w.cell? ⟨R, 0, none⟩ = some (.slice a1 X.length c1) := box_cell HR.out 0
      have e0 : (szK X Y 0 : Int) = 0 := rfl
      have hd : decide ((X.length : Int) < 0) = false := decide_eq_false (by omega)
      rw [e0]
      go_wp2_with fail
      go_roundw
      case rel => exact ⟨1, by omega, by go_num, rfl, by trivial⟩
      case measure => simp [ivl]
    · have y0 : w.cell? ⟨R, 1, none⟩ = some (.slice a2 Y.length c2) := box_cell HR.out 1
      have e0 : (szK X Y 1 : Int) = (X.length : Int) := rfl
      have hd : decide ((X.length : Int) + (Y.length : Int) < 0) = false := decide_eq_false (by omega)
      rw [e0]
      go_wp2_with fail
      go_roundw
      case rel => exact ⟨2, by omega, by go_num, by show _ = Value.int .i64 ((X.length + Y.length : Nat) : Int); go_num, by trivial⟩
      case measure => simp [ivl]
    · have e0 : (szK X Y 2 : Int) = ((X.length + Y.length : Nat) : Int) := rfl
      rw [e0]
      go_wp2_with fail
      refine HG.out.mono ?_
      rintro e w1 ⟨v1, rfl, o1, b1⟩
      have HO := hid o1
      have HB := hid b1
      clear o1 b1 HG e0
      go_wp2_with fail
      go_loopw [6, 27] (fun o i wr2 => ∃ (k : Nat) (o1 : Value), k ≤ 2 ∧ i = .int .i64 k ∧ o = o1 ∧ AL w.heap.size o1 (partK X Y k) wr2 ∧ Below w.heap.size w wr2) (fun _ i _ => 2 - (ivl i).toNat)
      case atStart => exact ⟨0, _, by omega, rfl, rfl, HO.out, HB.out⟩
      case round =>
        obtain ⟨k, _, hk, rfl, rfl, hown, hbel⟩ := hrel
        clear HO HB
        have HOWN := hid hown
        have HBEL := hid hbel
        have hszr := hbel.size
        clear hown
        rcases (show k = 0 ∨ k = 1 ∨ k = 2 by omega) with rfl | rfl | rfl
        · have y0 : wr.cell? ⟨R, 0, none⟩ = some (.slice a1 X.length c1) := (hbel.cell (p := ⟨R, 0, none⟩) hRlt).trans (box_cell HR.out 0)
          obtain ⟨v', w', r1, o1, g1, -⟩ := HOWN.out.app hszr a1 c1 X ((H1.out.below hbel).mono hszr) (by show 0 + _ ≤ _; omega)
          have HO : Hid (AL w.heap.size v' (partK X Y 1) w') := o1
          have HB' : Hid (Below w.heap.size w w') := HBEL.out.trans g1
          clear o1 g1 hbel
          go_wp2_with (at_builtin; refine wpList_append_run rfl (.tmp 31) (.tmp 32) 23 rfl _ _ rfl rfl _ _ r1 ?_)
          go_roundw
          case rel => exact ⟨1, _, by omega, by go_num, rfl, HO.out, HB'.out⟩
          case measure => simp [ivl]
        · have y0 : wr.cell? ⟨R, 1, none⟩ = some (.slice a2 Y.length c2) := (hbel.cell (p := ⟨R, 1, none⟩) hRlt).trans (box_cell HR.out 1)
          obtain ⟨v', w', r1, o1, g1, -⟩ := HOWN.out.app hszr a2 c2 Y ((H2.out.below hbel).mono hszr) (by show X.length + _ ≤ _; omega)
          have HO : Hid (AL w.heap.size v' (partK X Y 2) w') := o1
          have HB' : Hid (Below w.heap.size w w') := HBEL.out.trans g1
          clear o1 g1 hbel
          go_wp2_with (at_builtin; refine wpList_append_run rfl (.tmp 31) (.tmp 32) 23 rfl _ _ rfl rfl _ _ r1 ?_)
          go_roundw
          case rel => exact ⟨2, _, by omega, by go_num, rfl, HO.out, HB'.out⟩
          case measure => simp [ivl]
        · clear hbel
          go_wp2_with fail
          go_ret
          exact ⟨_, rfl, HOWN.out, HBEL.out⟩
end Go.Proofs.Yteakdhlloollfaa
