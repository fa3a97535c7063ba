/- The exact law of NewDevice: its walk out of the contracts of the model and of the program. -/
import Derived.Test.YtbalahgfikeobarD
namespace Go.Proofs.Ytbalahgfikeobar
set_option maxRecDepth 100000
open Go.ChangeShapes Go.WideShapes Go.ChangeAt Go.RowKit
/-- function f answers V and ok of a number, in memory of its own -/
def TellsNew (f : Nat) (n : Int) (V : List Zn) (ok : Bool) : Prop := ∀ (w : World),
  Calls Try.prog f #[.int .i64 n] w fun e w' => ∃ b c, e = .returned (.tuple #[.agg #[.slice b V.length c], .bool ok]) ∧ Own w.heap.size w'.heap.size b V w' ∧ Below w.heap.size w w'
set_option maxHeartbeats 8000000 in
theorem law_New (n : Int) (w : World) (V : List Zn) (ok : Bool) (hV : V.length ≤ 1048576) (h9 : TellsNew 10 n V ok) (h11 : TellsNew 11 n V ok) :
    Calls Try.prog 4 #[.int .i64 n] w fun e w' => e = .returned (.bool true) ∧ Below w.heap.size w w' := by
  have H9 : Hid (TellsNew 10 n V ok) := h9
  have H11 : Hid (TellsNew 11 n V ok) := h11
  clear h9 h11
  go_enter Try.func4, Try.ntmps4
  go_wp2_with fail
  refine (H9.out _).mono ?_
  rintro e w3 ⟨b3, c3, rfl, o3, g3⟩
  have s3 := g3.size
  have HL3 : Hid (Loc [(w3.heap.size, .slice b3 V.length c3, 27)] (w3.alloc (.cells #[.slice b3 V.length c3] 27))) := (Loc.nil w3).alloc _ _
  have z3 : (w3.alloc (.cells #[.slice b3 V.length c3] 27)).heap.size = w3.heap.size + 1 := heap_size _ _
  have HB4 : Hid (Below w.heap.size w (w3.alloc (.cells #[.slice b3 V.length c3] 27))) := g3.alloc g3.size _
  have HW4 : Hid (Own w.heap.size w3.heap.size b3 V (w3.alloc (.cells #[.slice b3 V.length c3] 27))) := o3.below ((Below.refl _ _).alloc (Nat.le_refl _) _)
  clear o3 g3
  go_wp2_with fail
  refine (H11.out _).mono ?_
  rintro e w5 ⟨b5, c5, rfl, o5, g5⟩
  have s5 := g5.size
  rw [z3] at s5 o5
  have HL5 : Hid (Loc [(w5.heap.size, .slice b5 V.length c5, 27), (w3.heap.size, .slice b3 V.length c3, 27)] (w5.alloc (.cells #[.slice b5 V.length c5] 27))) := (HL3.out.below g5).alloc _ _
  have q6 := HL5.out.cell w3.heap.size (.slice b3 V.length c3) 27 (by simp)
  have HB5 : Hid (Below w.heap.size w (w5.alloc (.cells #[.slice b5 V.length c5] 27))) := (HB4.out.trans (g5.mono HB4.out.size)).alloc (HB4.out.trans (g5.mono HB4.out.size)).size _
  have HW5 : Hid (Own w.heap.size w3.heap.size b3 V (w5.alloc (.cells #[.slice b5 V.length c5] 27))) := (HW4.out.below g5).below ((Below.refl _ _).alloc (Nat.le_refl _) _)
  have HG5 : Hid (Own (w3.heap.size + 1) w5.heap.size b5 V (w5.alloc (.cells #[.slice b5 V.length c5] 27))) := o5.below ((Below.refl _ _).alloc (Nat.le_refl _) _)
  have z5 : (w5.alloc (.cells #[.slice b5 V.length c5] 27)).heap.size = w5.heap.size + 1 := heap_size _ _
  clear o5 g5 HB4 HW4 HL3 z3
  go_wp2_with fail
  refine (eqDevice_same b5 b3 c5 c3 V _ hV HG5.out.zs HW5.out.zs).mono ?_
  rintro e w10 ⟨rfl, g10⟩
  have s10 := g10.size
  rw [z5] at s10
  have HL10 : Hid (Loc [(w5.heap.size, .slice b5 V.length c5, 27), (w3.heap.size, .slice b3 V.length c3, 27)] w10) := HL5.out.below g10
  have HB10 : Hid (Below w.heap.size w w10) := HB5.out.trans (g10.mono HB5.out.size)
  have HW10 : Hid (Own w.heap.size w3.heap.size b3 V w10) := HW5.out.below g10
  have HG10 : Hid (Own (w3.heap.size + 1) w5.heap.size b5 V w10) := HG5.out.below g10
  clear g10 HB5 HW5 HG5 HL5 q6 z5
  have q9 := HL10.out.cell w5.heap.size (.slice b5 V.length c5) 27 (by simp)
  go_wp2_with fail
  refine (mark_own _ _ b5 c5 V _ hV HG10.out).mono ?_
  rintro e w11 ⟨rfl, o11, t11⟩
  have HL11 : Hid (Loc [(w5.heap.size, .slice b5 V.length c5, 27), (w3.heap.size, .slice b3 V.length c3, 27)] w11) := HL10.out.out t11 (by
    intro x hx
    simp only [List.mem_cons, List.mem_nil_iff, or_false] at hx
    rcases hx with rfl | rfl <;> simp only <;> omega)
  have HB11 : Hid (Below w.heap.size w w11) := HB10.out.trans (t11.below (by omega) HB10.out.size)
  have HW11 : Hid (Own w.heap.size w3.heap.size b3 V w11) := HW10.out.out t11 (by omega)
  have HG11 : Hid (Own (w3.heap.size + 1) w5.heap.size b5 (marks V.length 1) w11) := o11
  have s11 := t11.size
  clear o11 t11 HB10 HW10 HG10 HL10 q9
  have q9 := HL11.out.cell w5.heap.size (.slice b5 V.length c5) 27 (by simp)
  go_wp2_with fail
  refine (held_own _ _ b5 c5 V.length _ hV HG11.out).mono ?_
  rintro e w13 ⟨rfl, g12⟩
  have hm12 : decide (((1 + 3 * V.length : Nat) : Int) < 0) = false := by simp; omega
  have s12 := g12.size
  have HL13 : Hid (Loc [(w5.heap.size, .slice b5 V.length c5, 27), (w3.heap.size, .slice b3 V.length c3, 27)] w13) := HL11.out.below g12
  have HB13 : Hid (Below w.heap.size w w13) := HB11.out.trans (g12.mono HB11.out.size)
  have HW13 : Hid (Own w.heap.size w3.heap.size b3 V w13) := HW11.out.below g12
  have HG13 : Hid (Own (w3.heap.size + 1) w5.heap.size b5 (marks V.length 1) w13) := HG11.out.below g12
  clear g12 HB11 HW11 HG11 HL11 q9
  go_wp2_with fail
  refine (H11.out _).mono ?_
  rintro e w14 ⟨b14, c14, rfl, o14, g14⟩
  have s14 := g14.size
  have HL14 : Hid (Loc [(w14.heap.size, .slice b14 V.length c14, 27), (w5.heap.size, .slice b5 V.length c5, 27), (w3.heap.size, .slice b3 V.length c3, 27)] (w14.alloc (.cells #[.slice b14 V.length c14] 27))) := (HL13.out.below g14).alloc _ _
  have HB14 : Hid (Below w.heap.size w (w14.alloc (.cells #[.slice b14 V.length c14] 27))) := (HB13.out.trans (g14.mono HB13.out.size)).alloc (HB13.out.trans (g14.mono HB13.out.size)).size _
  have HW14 : Hid (Own w.heap.size w3.heap.size b3 V (w14.alloc (.cells #[.slice b14 V.length c14] 27))) := (HW13.out.below g14).below ((Below.refl _ _).alloc (Nat.le_refl _) _)
  have HG14 : Hid (Own (w3.heap.size + 1) w5.heap.size b5 (marks V.length 1) (w14.alloc (.cells #[.slice b14 V.length c14] 27))) := (HG13.out.below g14).below ((Below.refl _ _).alloc (Nat.le_refl _) _)
  have HH14 : Hid (Own w13.heap.size w14.heap.size b14 V (w14.alloc (.cells #[.slice b14 V.length c14] 27))) := o14.below ((Below.refl _ _).alloc (Nat.le_refl _) _)
  clear g14 o14 HB13 HW13 HG13 HL13
  have q6 := HL14.out.cell w3.heap.size (.slice b3 V.length c3) 27 (by simp)
  go_wp2_with fail
  refine (eqDevice_same b14 b3 c14 c3 V _ hV HH14.out.zs HW14.out.zs).mono ?_
  rintro e w15 ⟨rfl, g15⟩
  have HL15 : Hid (Loc [(w14.heap.size, .slice b14 V.length c14, 27), (w5.heap.size, .slice b5 V.length c5, 27), (w3.heap.size, .slice b3 V.length c3, 27)] w15) := HL14.out.below g15
  have HB15 : Hid (Below w.heap.size w w15) := HB14.out.trans (g15.mono HB14.out.size)
  have HG15 : Hid (Own (w3.heap.size + 1) w5.heap.size b5 (marks V.length 1) w15) := HG14.out.below g15
  clear g15 HB14 HW14 HG14 HH14 HL14 q6
  have q9 := HL15.out.cell w5.heap.size (.slice b5 V.length c5) 27 (by simp)
  go_wp2_with fail
  refine (held_own _ _ b5 c5 V.length _ hV HG15.out).mono ?_
  rintro e w16 ⟨rfl, g16⟩
  have HB16 : Hid (Below w.heap.size w w16) := HB15.out.trans (g16.mono HB15.out.size)
  clear g16 HB15 HG15 HL15 q9
  go_wp2
  go_ret
  exact ⟨rfl, HB16.out⟩
end Go.Proofs.Ytbalahgfikeobar
