/- Walk of the model's ReadAt. -/
import Derived.Test.YtndcnilkibfbpaaKAt
import Derived.Deep.RegionHeld
namespace Go.Proofs.Ytndcnilkibfbpaa
set_option maxRecDepth 100000
open Go Go.ChangeShapes Go.WideShapes Go.ChangeAt Go.RowKit
/-- ReadAt answers -/
def RdOk (S : List Ly) (m x : Int) : Prop := GoodK S ∧ (0 ≤ x ∧ x ≤ 15) ∧ fndK S m < S.length
instance (S : List Ly) (m x : Int) : Decidable (RdOk S m x) := by unfold RdOk; infer_instance
def rdB (S : List Ly) (m x : Int) : Bool := decide (RdOk S m x)
def rdT (S : List Ly) (m x : Int) : ByteArray := if RdOk S m x then atL S x (fndK S m + 1) else ⟨#[]⟩
theorem rd_no {S : List Ly} {m x : Int} (h : ¬ RdOk S m x) : Ending.returned (.tuple #[.string ⟨#[]⟩, .bool false]) = .returned (.tuple #[.string (rdT S m x), .bool (rdB S m x)]) := by
  unfold rdT rdB; rw [if_neg h, decide_eq_false h]
theorem rd_yes {S : List Ly} {m x : Int} (h : RdOk S m x) : Ending.returned (.tuple #[.string (atL S x (fndK S m + 1)), .bool true]) = .returned (.tuple #[.string (rdT S m x), .bool (rdB S m x)]) := by
  unfold rdT rdB; rw [if_pos h, decide_eq_true h]
set_option maxHeartbeats 6000000 in
theorem sread_any (a : Option Addr) (cap : Nat) (S : List Ly) (m x : Int) (w : World) (hn : S.length ≤ 1048576) (hf : ∀ k (h : k < S.length), S[k].bl.length ≤ 1048576) (hcap : S.length ≤ cap) (hG : Ys w.heap.size a S w) :
    Calls Try.prog 22 #[.agg #[.slice a S.length cap], .int .i64 m, .int .i64 x] w fun e w' => e = .returned (.tuple #[.string (rdT S m x), .bool (rdB S m x)]) ∧ Below w.heap.size w w' := by
  have HB := hid (Bx.start w (.cells #[.slice a S.length cap] 24))
  have HG := hid ((hG.below HB.out.below).mono HB.out.below.size)
  have HBW := hid HB.out.below
  generalize hW : w.alloc (.cells #[.slice a S.length cap] 24) = W at *
  have HX : Hid (∀ v, Below W.heap.size W v → v.cell? ⟨w.heap.size, 0, none⟩ = some (.slice a S.length cap)) := fun v g => box_cell ((g.block _ HB.out.lt).trans HB.out.box) 0
  have HU : Hid (∀ v, Below W.heap.size W v → Below w.heap.size w v) := fun v g => HBW.out.trans (g.mono HBW.out.size)
  have HGD : Hid (∀ v, Below W.heap.size W v → Calls Try.prog 15 #[.agg #[.slice a S.length cap]] v fun e w' => e = .returned (.bool (goodK S)) ∧ Below v.heap.size v w') := fun v g => sgoodK_any a cap S v hn hf ((HG.out.below g).mono g.size)
  have HBK := hid (fun u => l7Block_any x u)
  have HFD : Hid (∀ v, Below W.heap.size W v → Calls Try.prog 48 #[.agg #[.slice a S.length cap], .int .i64 m] v fun e w' => e = .returned (.int .i64 (fk S m)) ∧ Below v.heap.size v w') := fun v g => l7Find_any a cap S m v hn ((HG.out.below g).mono g.size)
  have HAT : Hid (GoodK S → fndK S m < S.length → ∀ v, Below W.heap.size W v → Calls Try.prog 49 #[.agg #[.slice a S.length cap], .int .i64 (fndK S m), .int .i64 x] v fun e w' => e = .returned (.string (atL S x (fndK S m + 1))) ∧ Below v.heap.size v w') := fun h1 h2 v g => l7At_any a cap S _ x v hn hcap h2 (fun k hk => ⟨hf k hk, (h1.2.2 k hk).2.2.2.2.1⟩) ((HG.out.below g).mono g.size)
  have B0 : Hid (Below W.heap.size W W) := Below.refl _ _
  have x0 := HX.out _ B0.out
  have hsW : w.heap.size < W.heap.size := HB.out.lt
  clear hG hf hcap hn HB HG HBW
  go_enter Try.func22, Try.ntmps22
  go_wp2_with fail
  clear hW
  refine (HGD.out _ B0.out).mono ?_
  rintro e w1 ⟨rfl, g1⟩
  have B1 : Hid (Below W.heap.size W w1) := g1
  have x1 := HX.out _ B1.out
  clear g1 x0 HGD
  by_cases hg : GoodK S
  case neg =>
    have hg' := goodK_no hg
    have HNO : Hid (¬ RdOk S m x) := fun h => hg h.1
    rw [hg']
    clear hg hg' HAT HFD HBK
    go_wp2_with fail
    go_ret2
    exact ⟨rd_no HNO.out, HU.out _ B1.out⟩
  rw [goodK_iff.2 hg]
  have HGK := hid hg
  clear hg
  go_wp2_with fail
  refine (HBK.out _).mono ?_
  rintro e w2 ⟨rfl, hw2⟩
  rw [hw2]
  clear hw2
  by_cases hx : 0 ≤ x ∧ x ≤ 15
  case neg =>
    have HNO : Hid (¬ RdOk S m x) := fun h => hx h.2.1
    rw [decide_eq_false hx]
    clear hx HAT HFD HBK
    go_wp2_with fail
    go_ret2
    exact ⟨rd_no HNO.out, HU.out _ B1.out⟩
  rw [decide_eq_true hx]
  have HXK := hid hx
  clear hx
  go_wp2_with fail
  refine (HFD.out _ B1.out).mono ?_
  rintro e w3 ⟨rfl, g3⟩
  have B3 : Hid (Below W.heap.size W w3) := B1.out.trans (g3.mono B1.out.size)
  have x3 := HX.out _ B3.out
  clear g3 x1
  by_cases hfd : fndK S m < S.length
  case neg =>
    have HNO : Hid (¬ RdOk S m x) := fun h => hfd h.2.2
    rw [fk_none hfd]
    clear hfd HAT HFD HBK
    go_wp2_with fail
    go_ret2
    exact ⟨rd_no HNO.out, HU.out _ B3.out⟩
  rw [fk_at hfd] at *
  have HOK : Hid (RdOk S m x) := ⟨HGK.out, HXK.out, hfd⟩
  have HA := hid (HAT.out HGK.out hfd)
  have dn : decide ((fndK S m : Int) < 0) = false := decide_eq_false (by omega)
  clear HAT HBK HGK HXK hfd
  have HYS := hid (rd_yes HOK.out)
  generalize fndK S m = n at *
  generalize atL S x (n + 1) = T at *
  go_wp2_with fail
  have Bd : Hid (Below W.heap.size W w3.drew) := B3.out.drew
  have xd := HX.out _ Bd.out
  have HFd := hid (HFD.out _ Bd.out)
  go_region_held (fun v => v.cell? ⟨w.heap.size, 0, none⟩ = some (.slice a S.length cap)) (first | assumption) (first | (go_at_call 48; refine HFd.out.mono ?_; rintro e w7 ⟨rfl, g7⟩; have B7 : Hid (Below W.heap.size W w7) := Bd.out.trans (g7.mono Bd.out.size); have z7 := HX.out _ B7.out; clear g7) | (go_at_call 49; refine (HA.out _ B7.out).mono ?_; rintro e w8 ⟨rfl, g8⟩; have B8 : Hid (Below W.heap.size W w8) := B7.out.trans (g8.mono B7.out.size); have z8 := HX.out _ B8.out; clear g8))
  all_goals
    go_wp2
    go_ret2
    exact ⟨HYS.out, HU.out _ B8.out⟩
end Go.Proofs.Ytndcnilkibfbpaa
