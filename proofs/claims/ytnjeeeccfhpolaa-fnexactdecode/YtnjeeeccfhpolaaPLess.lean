/- The model's l10Less. -/
import Derived.Test.YtnjeeeccfhpolaaPRed
import Derived.Test.YtnjeeeccfhpolaaPApp
import Derived.Deep.RegionHeld
namespace Go.Proofs.Ytnjeeeccfhpolaa
set_option maxRecDepth 100000
open Go Go.ChangeShapes Go.WideShapes Go.ChangeAt Go.RowKit
def lessP (b : Nat) (x y : Pk) : Pk := lessG hasP unP b x y
theorem lessP_no {b : Nat} {x y : Pk} (h : hasP b y = false) : lessP b x y = y := by unfold lessP lessG; rw [h]; rfl
theorem lessP_yes {b : Nat} {x y : Pk} (h : hasP b y = true) : lessP b x y = unP y x := by unfold lessP lessG; rw [h]; rfl
set_option maxHeartbeats 600000 in
theorem l10Less_any (z : Nat) (y x : Pk) (b : Nat) (w : World) (hb : b < 64) (hz : z ≤ 1048576) (gy : okP z y) (gx : okP z x) :
    Calls Try.prog 66 #[.agg #[.int .i64 y.ms, .string y.tx], .agg #[.int .i64 x.ms, .string x.tx], .int .i64 b] w fun e w' => e = .returned (.agg #[.int .i64 (lessP b x y).ms, .string (lessP b x y).tx]) ∧ Below w.heap.size w w' := by
  obtain ⟨⟨ym, hym, hy1⟩, hy2⟩ : (∃ k : Nat, y.ms = (k : Int) ∧ k < 1024) ∧ y.tx.size = z := ⟨gy.1.nat, gy.2⟩
  obtain ⟨⟨xm, hxm, hx1⟩, hx2⟩ : (∃ k : Nat, x.ms = (k : Int) ∧ k < 1024) ∧ x.tx.size = z := ⟨gx.1.nat, gx.2⟩
  have hbv := bit_val0 ym b (by omega)
  have hh : hasP b y = ym.testBit b := by unfold hasP hasI; rw [hym, Int.toNat_natCast]
  have hxo := i64_xor ym xm (by omega) (by omega)
  have HU : Hid (∀ (h : hasP b y = true), lessP b x y = ⟨((ym ^^^ xm : Nat) : Int), xorT y.tx x.tx⟩) := fun h => by
    rw [lessP_yes h]
    unfold unP unI
    rw [hym, hxm, Int.toNat_natCast, Int.toNat_natCast]
  have HN : Hid (∀ (h : hasP b y = false), lessP b x y = ⟨(ym : Int), y.tx⟩) := fun h => by
    rw [lessP_no h, ← hym]
  have HX : Hid (∀ v, Calls Try.prog 63 #[.string y.tx, .string x.tx] v fun e w' => e = .returned (.string (xorT y.tx x.tx)) ∧ Below v.heap.size v w') := fun v => l10Xor_any _ _ v (hy2.trans hx2.symm) (by omega)
  have HH := hid hh
  rw [hym, hxm]
  clear gy gx hh hym hxm hy2 hx2
  have b1 := boxB w (.cells #[.int .i64 ym, .string y.tx] 28)
  have k1 := heap_last w (.cells #[.int .i64 ym, .string y.tx] 28)
  have n1 := heap_size w (.cells #[.int .i64 ym, .string y.tx] 28)
  generalize y.tx = yt at *
  generalize x.tx = xt at *
  generalize hw1 : w.alloc (.cells #[.int .i64 ym, .string yt] 28) = w1 at *
  have b2 := boxB w1 (.cells #[.int .i64 xm, .string xt] 28)
  have k2 := heap_last w1 (.cells #[.int .i64 xm, .string xt] 28)
  have n2 := heap_size w1 (.cells #[.int .i64 xm, .string xt] 28)
  generalize hw2 : w1.alloc (.cells #[.int .i64 xm, .string xt] 28) = w2 at *
  have b3 := boxB w2 (.cells #[.int .i64 0, .string ⟨#[]⟩] 28)
  have k3 := heap_last w2 (.cells #[.int .i64 0, .string ⟨#[]⟩] 28)
  generalize hw3 : w2.alloc (.cells #[.int .i64 0, .string ⟨#[]⟩] 28) = w3 at *
  have K1 : w3.heap[w.heap.size]? = some (.cells #[.int .i64 ym, .string yt] 28) := (b3.block _ (by omega)).trans ((b2.block _ (kbox k1)).trans k1)
  have K2 : w3.heap[w1.heap.size]? = some (.cells #[.int .i64 xm, .string xt] 28) := (b3.block _ (kbox k2)).trans k2
  have HB3 : Hid (Below w.heap.size w w3) := b1.trans ((b2.trans (b3.mono b2.size)).mono b1.size)
  have HK1 := hid K1
  have HK2 := hid K2
  have HK3 := hid k3
  have NE := hid (And.intro n1 n2)
  clear b1 b2 b3 k1 k2 k3 K1 K2 n1 n2
  have y0 : w3.cell? ⟨w.heap.size, 0, none⟩ = some (.int .i64 ym) := box_cell HK1.out 0
  have y1 : w3.cell? ⟨w.heap.size, 1, none⟩ = some (.string yt) := box_cell HK1.out 1
  have x0 : w3.cell? ⟨w1.heap.size, 0, none⟩ = some (.int .i64 xm) := box_cell HK2.out 0
  have x1 : w3.cell? ⟨w1.heap.size, 1, none⟩ = some (.string xt) := box_cell HK2.out 1
  cases hx : ym.testBit b
  · rw [hx] at hbv
    have hl := HN.out (HH.out.trans hx)
    rw [hl]
    clear HU HN HX hl hx
    have z0 : w3.cell? ⟨w2.heap.size, 0, none⟩ = some (.int .i64 0) := box_cell HK3.out 0
    have z1 : w3.cell? ⟨w2.heap.size, 1, none⟩ = some (.string ⟨#[]⟩) := box_cell HK3.out 1
    have f0 : w3.frozen? ⟨w2.heap.size, 0, none⟩ = false := box_free HK3.out 0
    have f1 : w3.frozen? ⟨w2.heap.size, 1, none⟩ = false := box_free HK3.out 1
    go_enter Try.func66, Try.ntmps66
    go_wp2_with fail
    refine bodyPost_ret (v := .agg #[.int .i64 ym, .string yt]) (by simp [results, Try.results66, go_sem, z0, z1]) rfl ⟨rfl, ?_⟩
    have := NE.out
    exact setB (setB HB3.out _ _ (by omega) _) _ _ (by omega) _
  · rw [hx] at hbv
    have hl := HU.out (HH.out.trans hx)
    rw [hl]
    clear HU HN hl hx
    have BD : Below w3.heap.size w3 w3.drew := (Below.refl _ _).drew
    have hz23 := kbox HK3.out
    have BD2 : Below w2.heap.size w3 w3.drew := BD.mono (by omega)
    have HS : Hid (∀ v, Below w2.heap.size w3 v → v.cell? ⟨w.heap.size, 0, none⟩ = some (.int .i64 ym) ∧ v.cell? ⟨w.heap.size, 1, none⟩ = some (.string yt) ∧ v.cell? ⟨w1.heap.size, 0, none⟩ = some (.int .i64 xm) ∧ v.cell? ⟨w1.heap.size, 1, none⟩ = some (.string xt)) := fun v g => by
      have h1 := (g.block _ (by have := NE.out; omega)).trans HK1.out
      have h2 := (g.block _ (by have := NE.out; omega)).trans HK2.out
      exact ⟨box_cell h1 0, box_cell h1 1, box_cell h2 0, box_cell h2 1⟩
    go_enter Try.func66, Try.ntmps66
    go_wp2_with fail
    obtain ⟨d0, d1, d2, d3⟩ := HS.out _ BD2
    go_region_held (fun v => v.cell? ⟨w.heap.size, 0, none⟩ = some (.int .i64 ym) ∧ v.cell? ⟨w.heap.size, 1, none⟩ = some (.string yt) ∧ v.cell? ⟨w1.heap.size, 0, none⟩ = some (.int .i64 xm) ∧ v.cell? ⟨w1.heap.size, 1, none⟩ = some (.string xt)) (first | exact HS.out _ (by with_reducible assumption)) (first | (go_at_call 63; refine (HX.out _).mono ?_; rintro e w9 ⟨rfl, b9⟩; have B9 : Below w3.heap.size w3 w9 := BD.trans (b9.mono BD.size); have B9' : Below w2.heap.size w3 w9 := B9.mono (by omega); have B9s : Below w2.heap.size w3 ((w9.setCell ⟨w2.heap.size, 0, none⟩ (.int .i64 ((ym ^^^ xm : Nat) : Int))).setCell ⟨w2.heap.size, 1, none⟩ (.string (xorT yt xt))) := setB (setB B9' _ _ (Nat.le_refl _) _) _ _ (Nat.le_refl _) _; have K9 := (B9.block _ (kbox HK3.out)).trans HK3.out; have q0 : w9.cell? ⟨w2.heap.size, 0, none⟩ = some (.int .i64 0) := box_cell K9 0; have q1 : w9.cell? ⟨w2.heap.size, 1, none⟩ = some (.string ⟨#[]⟩) := box_cell K9 1; have f0 : w9.frozen? ⟨w2.heap.size, 0, none⟩ = false := box_free K9 0; have f1 : w9.frozen? ⟨w2.heap.size, 1, none⟩ = false := box_free K9 1))
    all_goals
      go_wp2_with fail
      refine bodyPost_ret (v := .agg #[.int .i64 ((ym ^^^ xm : Nat) : Int), .string (xorT yt xt)]) (by simp [results, Try.results66, go_sem, q0, q1]) rfl ⟨rfl, ?_⟩
      have := NE.out
      exact setB (setB (HB3.out.trans (B9.mono HB3.out.size)) _ _ (by omega) _) _ _ (by omega) _
end Go.Proofs.Ytnjeeeccfhpolaa
