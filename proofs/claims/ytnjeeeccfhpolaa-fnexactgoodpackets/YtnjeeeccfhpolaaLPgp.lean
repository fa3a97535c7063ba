/- The exact law of GoodPackets: its walk out of the contracts of the model and of the program. -/
import Derived.Test.YtnjeeeccfhpolaaPSp
namespace Go.Proofs.Ytnjeeeccfhpolaa
set_option maxRecDepth 100000
open Go Go.ChangeShapes Go.WideShapes Go.ChangeAt Go.RowKit
/-- function f answers so -/
def TellsGoodPackets (f : Nat) (l : List Pk) (n : Int) (ok : Bool) : Prop := ∀ (q : Option Addr) (d : Nat) (v : World), Ps v.heap.size q l v → l.length ≤ d →
  Calls Try.prog f #[.int .i64 n, .slice q l.length d] v fun e w' => e = .returned (.bool ok) ∧ Below v.heap.size v w'
set_option maxHeartbeats 8000000 in
theorem law_GoodPackets (n : Int) (a : Option Addr) (cap : Nat) (l : List Pk) (w : World) (hs : ∀ r ∈ l, r.tx.size ≤ 9223372036854775807) (hl : l.length ≤ 9223372036854775807) (hZ : Ps w.heap.size a l w)
    (H : l.length ≤ 1048576 → ∃ (ok : Bool), TellsGoodPackets 18 l n ok ∧ TellsGoodPackets 20 l n ok) :
    Calls Try.prog 5 #[.int .i64 n, .slice a l.length cap] w fun e w' => e = .returned (.bool true) ∧ Below w.heap.size w w' := by
  have HH : Hid (l.length ≤ 1048576 → ∃ (ok : Bool), TellsGoodPackets 18 l n ok ∧ TellsGoodPackets 20 l n ok) := H
  have HZ : Hid (∀ v, Below w.heap.size w v → Ps v.heap.size a l v) := fun v g => (hZ.below g).mono g.size
  have HCN := hid hs
  have HLN := hid hl
  clear hZ H hs hl
  have B_w : Hid (Below w.heap.size w w) := Below.refl _ _
  have hbk : (ok_ : Bool) → (ok_ != ok_) = false := fun ok_ => by cases ok_ <;> rfl
  have HBK := hid hbk
  clear hbk
  go_enter Try.func5, Try.ntmps5
  go_wp2_with fail
  refine (szPacketS_left a cap l 1048576 w (by decide) (by decide) HCN.out HLN.out (HZ.out _ B_w.out)).mono ?_
  rintro e w1 ⟨⟨r, rfl, r1, hr⟩, gv⟩
  have s_w1 := gv.size
  have B_w1 : Hid (Below w.heap.size w w1) := gv
  clear gv B_w
  by_cases p0 : 0 ≤ r
  case neg =>
    have hd0 : decide (r < 0) = true := decide_eq_true (by omega)
    clear hr
    go_wp2_with fail
    go_ret
    exact ⟨rfl, B_w1.out⟩
  have hd0 : decide (r < 0) = false := decide_eq_false (by omega)
  have HL : Hid (l.length ≤ 1048576) := by show l.length ≤ 1048576; have := hr p0; omega
  clear hr r1 HCN HLN
  obtain ⟨ok, h9, h11⟩ := HH.out HL.out
  have H9 : Hid (TellsGoodPackets 18 l n ok) := h9
  have H11 : Hid (TellsGoodPackets 20 l n ok) := h11
  clear h9 h11 HH
  have hbk := HBK.out ok
  clear HBK
  go_wp2_with fail
  refine (to_ownP a cap l _ HL.out (HZ.out _ B_w1.out)).mono ?_
  rintro e w2 ⟨b2, rfl, o2, g2⟩
  have s_w2 := g2.size
  have B_w2 : Hid (Below w.heap.size w w2) := B_w1.out.trans (g2.mono B_w1.out.size)
  have T_w2 : Hid (OwnP w1.heap.size w2.heap.size b2 l w2) := o2
  clear B_w1 o2 g2
  go_wp2_with fail
  refine (H9.out b2 l.length _ T_w2.out.ps (Nat.le_refl _)).mono ?_
  rintro e w3 ⟨rfl, g3⟩
  have s_w3 := g3.size
  have B_w3 : Hid (Below w.heap.size w w3) := B_w2.out.trans (g3.mono B_w2.out.size)
  clear B_w2 T_w2 g3
  clear H9
  go_wp2_with fail
  refine (to_ownP a cap l _ HL.out (HZ.out _ B_w3.out)).mono ?_
  rintro e w4 ⟨b4, rfl, o4, g4⟩
  have s_w4 := g4.size
  have B_w4 : Hid (Below w.heap.size w w4) := B_w3.out.trans (g4.mono B_w3.out.size)
  have X_w4 : Hid (OwnP w3.heap.size w4.heap.size b4 l w4) := o4
  clear B_w3 o4 g4
  go_wp2_with fail
  refine (H11.out b4 l.length _ X_w4.out.ps (Nat.le_refl _)).mono ?_
  rintro e w5 ⟨rfl, g5⟩
  have s_w5 := g5.size
  have B_w5 : Hid (Below w.heap.size w w5) := B_w4.out.trans (g5.mono B_w4.out.size)
  have X_w5 : Hid (OwnP w3.heap.size w4.heap.size b4 l w5) := X_w4.out.below g5
  clear B_w4 X_w4 g5
  go_wp2_with fail
  refine (to_ownP a cap l _ HL.out (HZ.out _ B_w5.out)).mono ?_
  rintro e w6 ⟨b6, rfl, o6, g6⟩
  have s_w6 := g6.size
  have B_w6 : Hid (Below w.heap.size w w6) := B_w5.out.trans (g6.mono B_w5.out.size)
  have X_w6 : Hid (OwnP w3.heap.size w4.heap.size b4 l w6) := X_w5.out.below g6
  have Y_w6 : Hid (OwnP w5.heap.size w6.heap.size b6 l w6) := o6
  clear B_w5 X_w5 o6 g6
  go_wp2_with fail
  refine (eqPacketS_same b4 b6 l.length l.length l _ HL.out X_w6.out.ps Y_w6.out.ps).mono ?_
  rintro e w7 ⟨rfl, g7⟩
  have s_w7 := g7.size
  have B_w7 : Hid (Below w.heap.size w w7) := B_w6.out.trans (g7.mono B_w6.out.size)
  have X_w7 : Hid (OwnP w3.heap.size w4.heap.size b4 l w7) := X_w6.out.below g7
  clear B_w6 X_w6 Y_w6 g7
  go_wp2_with fail
  go_ret
  exact ⟨rfl, B_w7.out⟩
theorem walk_GoodPackets (n : Int) (a : Option Addr) (cap : Nat) (l : List Pk) (w : World) (_hn : fit n) (hZ : Ps w.heap.size a l w) (hs : ∀ r ∈ l, r.tx.size ≤ 9223372036854775807 ∧ fit r.ms) (hl : l.length ≤ 9223372036854775807) :
    Calls Try.prog 5 #[.int .i64 n, .slice a l.length cap] w fun e w' => e = .returned (.bool true) ∧ Below w.heap.size w w' :=
  law_GoodPackets n a cap l w (fun r h => (hs r h).1) hl hZ fun hn => ⟨goodPk n l, fun q d v hv _ => sgoodPk_any n q d l v hn (fun r h => (hs r h).1) hv, fun q d v hv _ => igoodPk_any n q d l v hn (fun r h => (hs r h).1) hv⟩
end Go.Proofs.Ytnjeeeccfhpolaa
