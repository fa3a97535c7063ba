/- The exact law of PacketOf: its walk out of the contracts of the model and of the program. -/
import Derived.Test.YtnjeeeccfhpolaaPPo
namespace Go.Proofs.Ytnjeeeccfhpolaa
set_option maxRecDepth 100000
open Go Go.ChangeShapes Go.WideShapes Go.ChangeAt Go.RowKit
/-- function f answers so -/
def TellsPacketOf (f : Nat) (l : List ByteArray) (m : Int) (n : Int) (D : ByteArray) (ok : Bool) : Prop := ∀ (q : Option Addr) (d : Nat) (v : World), Ss v.heap.size q l v → l.length ≤ d →
  Calls Try.prog f #[.slice q l.length d, .int .i64 m] v fun e w' => e = .returned (.tuple #[.agg #[.int .i64 n, .string D], .bool ok]) ∧ Below v.heap.size v w'
set_option maxHeartbeats 8000000 in
theorem law_PacketOf (a : Option Addr) (cap : Nat) (l : List ByteArray) (m : Int) (w : World) (hs : ∀ s ∈ l, s.size ≤ 9223372036854775807) (hl : l.length ≤ 9223372036854775807) (hZ : Ss w.heap.size a l w)
    (H : l.length ≤ 1048576 → ∃ (n : Int) (D : ByteArray) (ok : Bool), TellsPacketOf 14 l m n D ok ∧ TellsPacketOf 15 l m n D ok) :
    Calls Try.prog 4 #[.slice a l.length cap, .int .i64 m] w fun e w' => e = .returned (.bool true) ∧ Below w.heap.size w w' := by
  have HH : Hid (l.length ≤ 1048576 → ∃ (n : Int) (D : ByteArray) (ok : Bool), TellsPacketOf 14 l m n D ok ∧ TellsPacketOf 15 l m n D ok) := H
  have HZ : Hid (∀ v, Below w.heap.size w v → Ss v.heap.size a l v) := fun v g => (hZ.below g).mono g.size
  have HCN := hid hs
  have HLN := hid hl
  clear hZ H hs hl
  have B_w : Hid (Below w.heap.size w w) := Below.refl _ _
  have hbk : (ok_ : Bool) → (ok_ != ok_) = false := fun ok_ => by cases ok_ <;> rfl
  have HBK := hid hbk
  clear hbk
  go_enter Try.func4, Try.ntmps4
  go_wp2_with fail
  refine (szStringS_l a cap l 1048576 w (by decide) (by decide) HCN.out HLN.out (HZ.out _ B_w.out)).mono ?_
  rintro e v ⟨⟨r, rfl, r1, r2, hr⟩, hv⟩
  rw [hv]
  clear hv v
  by_cases p0 : 0 ≤ r
  case neg =>
    have hd0 : decide (r < 0) = true := decide_eq_true (by omega)
    clear hr
    go_wp2_with fail
    go_ret
    exact ⟨rfl, B_w.out⟩
  have hd0 : decide (r < 0) = false := decide_eq_false (by omega)
  have HL : Hid (l.length ≤ 1048576) := by show l.length ≤ 1048576; have := hr p0; omega
  clear hr r1 r2 HCN HLN
  obtain ⟨n, D, ok, h9, h11⟩ := HH.out HL.out
  have H9 : Hid (TellsPacketOf 14 l m n D ok) := h9
  have H11 : Hid (TellsPacketOf 15 l m n D ok) := h11
  clear h9 h11 HH
  have hbk := HBK.out ok
  clear HBK
  go_wp2_with fail
  refine (to_ownS a cap l _ HL.out (HZ.out _ B_w.out)).mono ?_
  rintro e w1 ⟨b1, rfl, o1, g1⟩
  have s_w1 := g1.size
  have B_w1 : Hid (Below w.heap.size w w1) := B_w.out.trans (g1.mono B_w.out.size)
  have T_w1 : Hid (OwnS w.heap.size w1.heap.size b1 l w1) := o1
  clear B_w o1 g1
  go_wp2_with fail
  refine (H9.out b1 l.length _ T_w1.out.ss (Nat.le_refl _)).mono ?_
  rintro e w2 ⟨rfl, g2⟩
  have s_w2 := g2.size
  have B_w2 : Hid (Below w.heap.size w w2) := B_w1.out.trans (g2.mono B_w1.out.size)
  clear B_w1 T_w1 g2
  clear H9
  go_wp2_with fail
  have gA := boxB w2 (.cells #[.int .i64 n, .string D] 28)
  have hA := heap_last w2 (.cells #[.int .i64 n, .string D] 28)
  have zA : (w2.alloc (.cells #[.int .i64 n, .string D] 28)).heap.size ≤ w2.heap.size + 1 := Nat.le_of_eq (heap_size _ _)
  have yA : w2.heap.size < (w2.alloc (.cells #[.int .i64 n, .string D] 28)).heap.size := by simp
  generalize w2.alloc (.cells #[.int .i64 n, .string D] 28) = w3 at *
  have s_w3 := gA.size
  have B_w3 : Hid (Below w.heap.size w w3) := B_w2.out.trans (gA.mono B_w2.out.size)
  have Wk_w3 : Hid (w3.heap[w2.heap.size]? = some (.cells #[.int .i64 n, .string D] 28)) := hA
  have zz3 := zA
  have yy3 := yA
  clear gA hA zA yA B_w2
  refine (to_ownS a cap l _ HL.out (HZ.out _ B_w3.out)).mono ?_
  rintro e w4 ⟨b4, rfl, o4, g4⟩
  have s_w4 := g4.size
  have B_w4 : Hid (Below w.heap.size w w4) := B_w3.out.trans (g4.mono B_w3.out.size)
  have Wk_w4 : Hid (w4.heap[w2.heap.size]? = some (.cells #[.int .i64 n, .string D] 28)) := (g4.block _ (kbox Wk_w3.out)).trans Wk_w3.out
  have X_w4 : Hid (OwnS w3.heap.size w4.heap.size b4 l w4) := o4
  clear B_w3 Wk_w3 o4 g4
  go_wp2_with fail
  refine (H11.out b4 l.length _ X_w4.out.ss (Nat.le_refl _)).mono ?_
  rintro e w5 ⟨rfl, g5⟩
  have s_w5 := g5.size
  have B_w5 : Hid (Below w.heap.size w w5) := B_w4.out.trans (g5.mono B_w4.out.size)
  have Wk_w5 : Hid (w5.heap[w2.heap.size]? = some (.cells #[.int .i64 n, .string D] 28)) := (g5.block _ (kbox Wk_w4.out)).trans Wk_w4.out
  have X_w5 : Hid (OwnS w3.heap.size w4.heap.size b4 l w5) := X_w4.out.below g5
  clear B_w4 Wk_w4 X_w4 g5
  have z0 := box_cell (((boxB w5 (.cells #[.int .i64 n, .string D] 28)).block _ (kbox Wk_w5.out)).trans Wk_w5.out) 0
  have z1 := box_cell (((boxB w5 (.cells #[.int .i64 n, .string D] 28)).block _ (kbox Wk_w5.out)).trans Wk_w5.out) 1
  simp only [List.getElem?_toArray, List.getElem?_cons_zero, List.getElem?_cons_succ] at z0 z1
  go_wp2_with fail
  have gA := boxB w5 (.cells #[.int .i64 n, .string D] 28)
  have hA := heap_last w5 (.cells #[.int .i64 n, .string D] 28)
  have zA : (w5.alloc (.cells #[.int .i64 n, .string D] 28)).heap.size ≤ w5.heap.size + 1 := Nat.le_of_eq (heap_size _ _)
  have yA : w5.heap.size < (w5.alloc (.cells #[.int .i64 n, .string D] 28)).heap.size := by simp
  generalize w5.alloc (.cells #[.int .i64 n, .string D] 28) = w6 at *
  have s_w6 := gA.size
  have B_w6 : Hid (Below w.heap.size w w6) := B_w5.out.trans (gA.mono B_w5.out.size)
  have Wk_w6 : Hid (w6.heap[w2.heap.size]? = some (.cells #[.int .i64 n, .string D] 28)) := (gA.block _ (kbox Wk_w5.out)).trans Wk_w5.out
  have X_w6 : Hid (OwnS w3.heap.size w4.heap.size b4 l w6) := X_w5.out.below gA
  have Gk_w6 : Hid (w6.heap[w5.heap.size]? = some (.cells #[.int .i64 n, .string D] 28)) := hA
  have zz6 := zA
  have yy6 := yA
  clear gA hA zA yA B_w5 Wk_w5 X_w5
  clear z0 z1
  refine (eqPacket_same n D _).mono ?_
  rintro e w7 ⟨rfl, g7⟩
  have s_w7 := g7.size
  have B_w7 : Hid (Below w.heap.size w w7) := B_w6.out.trans (g7.mono B_w6.out.size)
  have X_w7 : Hid (OwnS w3.heap.size w4.heap.size b4 l w7) := X_w6.out.below g7
  clear B_w6 Wk_w6 X_w6 Gk_w6 g7
  go_wp2_with fail
  refine (to_ownS a cap l _ HL.out (HZ.out _ B_w7.out)).mono ?_
  rintro e w8 ⟨b8, rfl, o8, g8⟩
  have s_w8 := g8.size
  have B_w8 : Hid (Below w.heap.size w w8) := B_w7.out.trans (g8.mono B_w7.out.size)
  have X_w8 : Hid (OwnS w3.heap.size w4.heap.size b4 l w8) := X_w7.out.below g8
  have Y_w8 : Hid (OwnS w7.heap.size w8.heap.size b8 l w8) := o8
  clear B_w7 X_w7 o8 g8
  go_wp2_with fail
  refine (eqStringS_same b4 b8 l.length l.length l _ HL.out X_w8.out.ss Y_w8.out.ss).mono ?_
  rintro e w9 ⟨rfl, g9⟩
  have s_w9 := g9.size
  have B_w9 : Hid (Below w.heap.size w w9) := B_w8.out.trans (g9.mono B_w8.out.size)
  have X_w9 : Hid (OwnS w3.heap.size w4.heap.size b4 l w9) := X_w8.out.below g9
  clear B_w8 X_w8 Y_w8 g9
  go_wp2_with fail
  go_ret
  exact ⟨rfl, B_w9.out⟩
theorem walk_PacketOf (a : Option Addr) (cap : Nat) (l : List ByteArray) (m : Int) (w : World) (hZ : Ss w.heap.size a l w) (hs : ∀ s ∈ l, s.size ≤ 9223372036854775807) (hl : l.length ≤ 9223372036854775807) (_hm : fit m) :
    Calls Try.prog 4 #[.slice a l.length cap, .int .i64 m] w fun e w' => e = .returned (.bool true) ∧ Below w.heap.size w w' :=
  law_PacketOf a cap l m w hs hl hZ fun hn => ⟨packM l m, packT l m, packOk l m, fun q d v hv _ => spack_any q d l m v hn hs hv, fun q d v hv _ => ipack_any q d l m v hn hs hv⟩
end Go.Proofs.Ytnjeeeccfhpolaa
