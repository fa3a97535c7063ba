/- Walks of the model's PutStretch, TrimMap. -/
import Derived.Test.YtgipkpldlkmdkaaSMap
import Derived.Test.YtgipkpldlkmdkaaSPl
import Derived.Test.YtgipkpldlkmdkaaSGm
import Derived.Test.YtgipkpldlkmdkaaIMap
namespace Go.Proofs.Ytgipkpldlkmdkaa
set_option maxRecDepth 100000
open Go.ChangeShapes Go.WideShapes Go.ChangeAt Go.RowKit G00541
set_option maxHeartbeats 2000000 in
theorem sput_no (a : Option Addr) (cap : Nat) (l : List Sx) (p n c : Int) (w : World) (hn : l.length ≤ 1048576) (hZ : Xs w.heap.size a l w) (hg : ¬ (goodM l = true ∧ goodX ⟨p, n, c⟩ = true)) :
    Calls Try.prog 15 #[.slice a l.length cap, .agg #[.int .i64 p, .int .i64 n, .int .i64 c]] w fun e w' => MapOut [] false w e w' := by
  have HP := hid (sgood_any a cap l _ hn (hZ.go ((Below.refl _ _).alloc (Nat.le_refl _) (.cells #[.int .i64 p, .int .i64 n, .int .i64 c] 36))))
  cases hgm : goodM l
  · rw [hgm] at HP
    clear hZ hg hgm
    go_enter Try.func15, Try.ntmps15
    go_wp2_with fail
    refine (HP.out).mono ?_
    rintro e w1 ⟨rfl, b1⟩
    have HB1 : Hid (Below w.heap.size w w1) := ((Below.refl _ _).alloc (Nat.le_refl _) _).trans (b1.mono (by simp))
    clear b1 HP
    go_wp2
    go_ret2
    exact MapOut.no HB1.out
  · have hgx : goodX ⟨p, n, c⟩ = false := by
      cases h : goodX ⟨p, n, c⟩
      · rfl
      · exact absurd ⟨hgm, h⟩ hg
    rw [hgm] at HP
    have HG : Hid (∀ v, Calls Try.prog 44 #[.agg #[.int .i64 p, .int .i64 n, .int .i64 c]] v fun e w' => e = .returned (.bool false) ∧ Below v.heap.size v w') := fun v => by
      have := l4Stretch_any p n c v
      rw [hgx] at this
      exact this
    clear hZ hg hgm hgx
    go_enter Try.func15, Try.ntmps15
    go_wp2_with fail
    refine (HP.out).mono ?_
    rintro e w1 ⟨rfl, b1⟩
    have hxa : ∀ i, w1.cell? ⟨w.heap.size, i, none⟩ = (w.alloc (.cells #[.int .i64 p, .int .i64 n, .int .i64 c] 36)).cell? ⟨w.heap.size, i, none⟩ := fun i => b1.cell (p := ⟨w.heap.size, i, none⟩) (by simp)
    have x0 : w1.cell? ⟨w.heap.size, 0, none⟩ = some (.int .i64 p) := by rw [hxa]; go_simp
    have x1 : w1.cell? ⟨w.heap.size, 1, none⟩ = some (.int .i64 n) := by rw [hxa]; go_simp
    have x2 : w1.cell? ⟨w.heap.size, 2, none⟩ = some (.int .i64 c) := by rw [hxa]; go_simp
    have HB1 : Hid (Below w.heap.size w w1) := ((Below.refl _ _).alloc (Nat.le_refl _) _).trans (b1.mono (by simp))
    clear b1 HP hxa
    go_wp2_with fail
    refine (HG.out _).mono ?_
    rintro e w3 ⟨rfl, b3⟩
    have HB3 : Hid (Below w.heap.size w w3) := HB1.out.trans (b3.mono HB1.out.size)
    clear b3
    go_wp2
    go_ret2
    exact MapOut.no HB3.out
set_option maxHeartbeats 2000000 in
theorem sput_yes (a : Option Addr) (cap : Nat) (l : List Sx) (p n : Nat) (c : Int) (w : World) (hn : l.length ≤ 1048576) (hZ : Xs w.heap.size a l w) (hgm : goodM l = true) (hgx : goodX ⟨p, n, c⟩ = true) :
    Calls Try.prog 15 #[.slice a l.length cap, .agg #[.int .i64 p, .int .i64 n, .int .i64 c]] w fun e w' => MapOut (mapF (putF (plN l) ⟨p, n, c⟩ n) 16) true w e w' := by
  have HP := hid (sgood_any a cap l _ hn (hZ.go ((Below.refl _ _).alloc (Nat.le_refl _) (.cells #[.int .i64 p, .int .i64 n, .int .i64 c] 36))))
  rw [hgm] at HP
  have gx := (goodX_iff _).1 hgx
  simp only at gx
  have HZ : Hid (∀ v, Below w.heap.size w v → Xs v.heap.size a l v) := fun v g => hZ.go g
  have HGA : Hid (∀ x ∈ l, goodX x = true) := chain_all none l hgm
  have HG : Hid (∀ v, Calls Try.prog 44 #[.agg #[.int .i64 p, .int .i64 n, .int .i64 c]] v fun e w' => e = .returned (.bool true) ∧ Below v.heap.size v w') := fun v => by
    have := l4Stretch_any p n c v
    rw [hgx] at this
    exact this
  have HM : Hid (∀ a cap v, Is v.heap.size a (tab (putF (plN l) ⟨p, n, c⟩ n)) v → Calls Try.prog 37 #[.slice a 16 cap] v fun e w' => ∃ u, e = .returned u ∧ w'.ownsRow v.heap.size 36 3 u (mapF (putF (plN l) ⟨p, n, c⟩ n) 16).length (xflat (mapF (putF (plN l) ⟨p, n, c⟩ n) 16)) ∧ Below v.heap.size v w') := fun a cap v hv => l4Map_any a cap _ (putF_range _ _ _ (plN_range l hgm) (by simp only; omega) (by simp only; omega)) v hv
  obtain ⟨g0, g1, g2, g3, g4, g5⟩ := gx
  clear hZ hgm hgx
  generalize mapF (putF (plN l) ⟨p, n, c⟩ n) 16 = V at *
  go_enter Try.func15, Try.ntmps15
  go_wp2_with fail
  refine (HP.out).mono ?_
  rintro e w1 ⟨rfl, b1⟩
  have hX1 : w1.heap[w.heap.size]? = some (.cells #[.int .i64 p, .int .i64 n, .int .i64 c] 36) := by rw [b1.block _ (by simp)]; exact heap_last _ _
  have x0 : w1.cell? ⟨w.heap.size, 0, none⟩ = some (.int .i64 p) := by unfold World.cell?; rw [hX1]; rfl
  have x1 : w1.cell? ⟨w.heap.size, 1, none⟩ = some (.int .i64 n) := by unfold World.cell?; rw [hX1]; rfl
  have x2 : w1.cell? ⟨w.heap.size, 2, none⟩ = some (.int .i64 c) := by unfold World.cell?; rw [hX1]; rfl
  have hs1 : w.heap.size < w1.heap.size := by have := b1.size; simp at this; omega
  have HX1 : Hid (w1.heap[w.heap.size]? = some (.cells #[.int .i64 p, .int .i64 n, .int .i64 c] 36)) := hX1
  have HB1 : Hid (Below w.heap.size w w1) := ((Below.refl _ _).alloc (Nat.le_refl _) _).trans (b1.mono (by simp))
  clear b1 HP hX1
  go_wp2_with fail
  refine (HG.out _).mono ?_
  rintro e w3 ⟨rfl, b3⟩
  have HB3 : Hid (Below w.heap.size w w3) := HB1.out.trans (b3.mono HB1.out.size)
  have HX3 : Hid (w3.heap[w.heap.size]? = some (.cells #[.int .i64 p, .int .i64 n, .int .i64 c] 36)) := (b3.block _ hs1).trans HX1.out
  have hs3 := b3.size
  clear b3 x0 x1 x2 HX1 HB1
  go_wp2_with fail
  refine (l4Places_any a cap l _ hn HGA.out (HZ.out _ HB3.out)).mono ?_
  rintro e w4 ⟨R, c4, rfl, hR, hrow, b4⟩
  have HB4 : Hid (Below w.heap.size w w4) := HB3.out.trans (b4.mono HB3.out.size)
  have HX4 : Hid (w4.heap[w.heap.size]? = some (.cells #[.int .i64 p, .int .i64 n, .int .i64 c] 36)) := (b4.block _ (by omega)).trans HX3.out
  have HROW : Hid (IRow R (tab (plN l)) w4) := hrow
  clear b4 hrow HX3 HB3
  generalize plN l = F at *
  go_wp2
  go_loopw [7] (fun i wi => ∃ (j : Nat), j ≤ n ∧ i = .int .i64 j ∧ IRow R (tab (putF F ⟨p, n, c⟩ j)) wi ∧ wi.heap[w.heap.size]? = some (.cells #[.int .i64 p, .int .i64 n, .int .i64 c] 36) ∧ Below w.heap.size w wi) (fun i _ => n - (intOf i).toNat)
  case atStart => exact ⟨0, Nat.zero_le _, rfl, by rw [putF_zero]; exact HROW.out, HX4.out, HB4.out⟩
  case round =>
    clear HROW HX4 HB4
    obtain ⟨j, hj, rfl, hrow, hx, hbel⟩ := hrel
    have HROW : Hid (IRow R (tab (putF F ⟨p, n, c⟩ j)) wr) := hrow
    have HX : Hid (wr.heap[w.heap.size]? = some (.cells #[.int .i64 p, .int .i64 n, .int .i64 c] 36)) := hx
    have HBEL : Hid (Below w.heap.size w wr) := hbel
    have e0 : wr.cell? ⟨w.heap.size, 0, none⟩ = some (.int .i64 p) := by unfold World.cell?; rw [hx]; rfl
    have e1 : wr.cell? ⟨w.heap.size, 1, none⟩ = some (.int .i64 n) := by unfold World.cell?; rw [hx]; rfl
    have e2 : wr.cell? ⟨w.heap.size, 2, none⟩ = some (.int .i64 c) := by unfold World.cell?; rw [hx]; rfl
    by_cases hjl : j < n
    · have y0 := hrow.cell (p + j) (by rw [tab_len]; omega)
      have f0 := hrow.free (p + j) (by rw [tab_len]; omega)
      have hi1 : (0 : Int) ≤ (p : Int) + (j : Int) := by omega
      have hi2 : (p : Int) + (j : Int) < 16 := by omega
      have hi3 : ((p : Int) + (j : Int)).toNat = p + j := by omega
      clear hrow hx hbel
      go_wp2
      go_roundw
      case rel => exact ⟨j + 1, by omega, by go_num, by rw [← putF_step F ⟨p, n, c⟩ p j rfl (c + j) rfl, ← tab_set]; exact HROW.out.set (p + j) (by rw [tab_len]; omega) _, (Below.heap_setCell _ _ _ _ (by show w.heap.size ≠ R; omega)).trans HX.out, HBEL.out.setCell (by show w.heap.size ≤ R; omega) _⟩
      case measure => simp [intOf]; omega
    · obtain rfl : j = n := by omega
      have hlt := hrow.lt
      clear hrow hx hbel
      go_wp2_with fail
      refine (HM.out _ _ _ (HROW.out.sl hlt)).mono ?_
      rintro e w5 ⟨u, rfl, hown, b5⟩
      have HB5 : Hid (Below w.heap.size w w5) := HBEL.out.trans (b5.mono HBEL.out.size)
      have HO : Hid (w5.ownsRow w.heap.size 36 3 u V.length (xflat V)) := own_le hown HBEL.out.size
      clear hown b5 e0 e1 e2
      go_wp2
      go_ret2
      exact MapOut.of HO.out HB5.out
end Go.Proofs.Ytgipkpldlkmdkaa
