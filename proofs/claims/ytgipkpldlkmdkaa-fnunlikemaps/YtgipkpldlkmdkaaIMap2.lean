/- Walks of the program's TrimMap, PlaceOf. -/
import Derived.Test.YtgipkpldlkmdkaaIMap
namespace Go.Proofs.Ytgipkpldlkmdkaa
set_option maxRecDepth 100000
open Go.ChangeShapes Go.WideShapes Go.ChangeAt Go.RowKit G00541
/-- the blocks of an at and a long lie within -/
def inB (p n : Int) : Bool := decide (1 ≤ n ∧ 0 ≤ p ∧ p ≤ 16 - n)
set_option maxHeartbeats 2000000 in
theorem itrim_no (a : Option Addr) (cap : Nat) (l : List Sx) (p n : Int) (w : World) (hn : l.length ≤ 1048576) (hfit : FitM l) (hp : fit p) (hq : fit n) (hZ : Xs w.heap.size a l w) (hg : ¬ (goodM l = true ∧ inB p n = true)) :
    Calls Try.prog 26 #[.slice a l.length cap, .int .i64 p, .int .i64 n] w fun e w' => MapOut [] false w e w' := by
  cases hgm : goodM l
  · have HP' := hid (placesIn_no a cap l _ hn hfit hZ hgm)
    clear hZ hg hgm
    go_enter Try.func26, Try.ntmps26
    go_wp2_with fail
    refine (HP'.out).mono ?_
    rintro e w1 ⟨⟨F, rfl⟩, b1⟩
    have HA : Hid (Ar w1.heap.size (fun _ => 0) (w1.alloc (.cells (arr fun _ => 0) 61))) := Ar.new w1 _ 61
    have HB1 : Hid (Below w.heap.size w w1) := b1
    clear b1 HP'
    go_wp2_with (refine wpList_store_ar HA.out rfl _ _ rfl rfl rfl ?_; intro w2 ha2 hb2)
    have HB2 : Hid (Below w.heap.size w w2) := (HB1.out.alloc HB1.out.size _).trans (hb2.out.below HB1.out.size (by have := HB1.out.size; simp; omega))
    clear ha2 hb2
    go_ret2
    exact MapOut.no HB2.out
  · have hgx : inB p n = false := by
      cases h : inB p n
      · rfl
      · exact absurd ⟨hgm, h⟩ hg
    have HP' := hid (placesIn_yes a cap l _ hfit hZ hgm)
    have HG : Hid (∀ v, Calls Try.prog 49 #[.int .i64 p, .int .i64 n] v fun e w' => e = .returned (.bool false) ∧ w' = v) := fun v => by
      have := within_any p n v hp hq
      unfold inB at hgx
      rw [hgx] at this
      exact this
    clear hZ hg hgm hgx
    go_enter Try.func26, Try.ntmps26
    go_wp2_with fail
    refine (HP'.out).mono ?_
    rintro e w1 ⟨rfl, b1⟩
    have HA : Hid (Ar w1.heap.size (fun _ => 0) (w1.alloc (.cells (arr fun _ => 0) 61))) := Ar.new w1 _ 61
    have HB1 : Hid (Below w.heap.size w w1) := b1
    clear b1 HP'
    go_wp2_with (first | (refine wpList_store_ar HA.out rfl _ _ rfl rfl rfl ?_; intro w2 ha2 hb2) | fail)
    have HB2 : Hid (Below w.heap.size w w2) := (HB1.out.alloc HB1.out.size _).trans (hb2.out.below HB1.out.size (by have := HB1.out.size; simp; omega))
    clear ha2 hb2
    refine (HG.out _).mono ?_
    rintro e w3 ⟨rfl, hw3⟩
    rw [hw3]
    clear hw3
    go_wp2
    go_ret2
    exact MapOut.no HB2.out
set_option maxHeartbeats 2000000 in
theorem itrim_yes (a : Option Addr) (cap : Nat) (l : List Sx) (p n : Nat) (w : World) (hfit : FitM l) (hZ : Xs w.heap.size a l w) (hgm : goodM l = true) (hgx : inB p n = true) :
    Calls Try.prog 26 #[.slice a l.length cap, .int .i64 p, .int .i64 n] w fun e w' => MapOut (mapF (cutF (plN l) p n) 16) true w e w' := by
  have HP' := hid (placesIn_yes a cap l _ hfit hZ hgm)
  have gx := hgx
  unfold inB at gx
  rw [decide_eq_true_iff] at gx
  have HG : Hid (∀ v, Calls Try.prog 49 #[.int .i64 p, .int .i64 n] v fun e w' => e = .returned (.bool true) ∧ w' = v) := fun v => by
    have := within_any p n v ⟨by omega, by omega⟩ ⟨by omega, by omega⟩
    unfold inB at hgx
    rw [hgx] at this
    exact this
  have HW : Hid (∀ v, Calls Try.prog 50 #[.agg (arr (plN l)), .int .i64 p, .int .i64 n] v fun e w' => e = .returned (.agg (arr (cutF (plN l) p n))) ∧ Below v.heap.size v w') := fun v => without_any (plN l) p n v (by omega) (by omega)
  have HS : Hid (∀ v, Calls Try.prog 35 #[.agg (arr (cutF (plN l) p n))] v fun e w' => ∃ u, e = .returned u ∧ w'.ownsRow v.heap.size 36 3 u (mapF (cutF (plN l) p n) 16).length (xflat (mapF (cutF (plN l) p n) 16)) ∧ Below v.heap.size v w') := fun v => stretchesOf_any _ (cutF_range _ _ _ (plN_range l hgm)) v
  clear hZ hgm hgx gx
  generalize mapF (cutF (plN l) p n) 16 = V at *
  generalize cutF (plN l) p n = G at *
  generalize plN l = F at *
  go_enter Try.func26, Try.ntmps26
  go_wp2_with fail
  refine (HP'.out).mono ?_
  rintro e w1 ⟨rfl, b1⟩
  have HA : Hid (Ar w1.heap.size (fun _ => 0) (w1.alloc (.cells (arr fun _ => 0) 61))) := Ar.new w1 _ 61
  have HB1 : Hid (Below w.heap.size w w1) := b1
  clear b1 HP'
  go_wp2_with (first | (refine wpList_store_ar HA.out rfl _ _ rfl rfl rfl ?_; intro w2 ha2 hb2) | fail)
  have HB2 : Hid (Below w.heap.size w w2) := (HB1.out.alloc HB1.out.size _).trans (hb2.out.below HB1.out.size (by have := HB1.out.size; simp; omega))
  clear hb2
  refine (HG.out _).mono ?_
  rintro e w3 ⟨rfl, hw3⟩
  rw [hw3]
  clear hw3
  go_wp2_with (first | refine wpList_load_ar ha2.out rfl _ rfl rfl ?_ | fail)
  refine (HW.out _).mono ?_
  rintro e w4 ⟨rfl, b4⟩
  have HB4 : Hid (Below w.heap.size w w4) := HB2.out.trans (b4.mono HB2.out.size)
  clear b4
  go_wp2_with fail
  refine (HS.out _).mono ?_
  rintro e w5 ⟨u, rfl, hown, b5⟩
  have HB5 : Hid (Below w.heap.size w w5) := HB4.out.trans (b5.mono HB4.out.size)
  have HO : Hid (w5.ownsRow w.heap.size 36 3 u V.length (xflat V)) := own_le hown HB4.out.size
  clear hown b5
  go_wp2
  go_ret2
  exact MapOut.of HO.out HB5.out
set_option maxHeartbeats 2000000 in
theorem iplace_no (a : Option Addr) (cap : Nat) (l : List Sx) (b : Int) (w : World) (hn : l.length ≤ 1048576) (hfit : FitM l) (hZ : Xs w.heap.size a l w) (hg : ¬ (goodM l = true ∧ 0 ≤ b ∧ b ≤ 15)) :
    Calls Try.prog 12 #[.slice a l.length cap, .int .i64 b] w fun e w' => e = .returned (.tuple #[.int .i64 0, .bool false]) ∧ Below w.heap.size w w' := by
  cases hgm : goodM l
  · have HP' := hid (placesIn_no a cap l _ hn hfit hZ hgm)
    clear hZ hg hgm
    go_enter Try.func12, Try.ntmps12
    go_wp2_with fail
    refine (HP'.out).mono ?_
    rintro e w1 ⟨⟨F, rfl⟩, b1⟩
    have HA : Hid (Ar w1.heap.size (fun _ => 0) (w1.alloc (.cells (arr fun _ => 0) 61))) := Ar.new w1 _ 61
    have HB1 : Hid (Below w.heap.size w w1) := b1
    clear b1 HP'
    go_wp2_with (refine wpList_store_ar HA.out rfl _ _ rfl rfl rfl ?_; intro w2 ha2 hb2)
    have HB2 : Hid (Below w.heap.size w w2) := (HB1.out.alloc HB1.out.size _).trans (hb2.out.below HB1.out.size (by have := HB1.out.size; simp; omega))
    clear ha2 hb2
    go_ret2
    exact ⟨rfl, HB2.out⟩
  · have HP' := hid (placesIn_yes a cap l _ hfit hZ hgm)
    by_cases h0 : b < 0
    · have hd : decide (b < 0) = true := decide_eq_true h0
      clear hZ hg hgm h0
      go_enter Try.func12, Try.ntmps12
      go_wp2_with fail
      refine (HP'.out).mono ?_
      rintro e w1 ⟨rfl, b1⟩
      have HA : Hid (Ar w1.heap.size (fun _ => 0) (w1.alloc (.cells (arr fun _ => 0) 61))) := Ar.new w1 _ 61
      have HB1 : Hid (Below w.heap.size w w1) := b1
      clear b1 HP'
      go_wp2_with (refine wpList_store_ar HA.out rfl _ _ rfl rfl rfl ?_; intro w2 ha2 hb2)
      have HB2 : Hid (Below w.heap.size w w2) := (HB1.out.alloc HB1.out.size _).trans (hb2.out.below HB1.out.size (by have := HB1.out.size; simp; omega))
      clear ha2 hb2
      go_ret2
      exact ⟨rfl, HB2.out⟩
    · have hd : decide (b < 0) = false := decide_eq_false h0
      have hd2 : decide (16 ≤ b) = true := decide_eq_true (by
        rcases Classical.em (16 ≤ b) with h | h
        · exact h
        · exact absurd ⟨hgm, by omega, by omega⟩ hg)
      clear hZ hg hgm h0
      go_enter Try.func12, Try.ntmps12
      go_wp2_with fail
      refine (HP'.out).mono ?_
      rintro e w1 ⟨rfl, b1⟩
      have HA : Hid (Ar w1.heap.size (fun _ => 0) (w1.alloc (.cells (arr fun _ => 0) 61))) := Ar.new w1 _ 61
      have HB1 : Hid (Below w.heap.size w w1) := b1
      clear b1 HP'
      go_wp2_with (refine wpList_store_ar HA.out rfl _ _ rfl rfl rfl ?_; intro w2 ha2 hb2)
      have HB2 : Hid (Below w.heap.size w w2) := (HB1.out.alloc HB1.out.size _).trans (hb2.out.below HB1.out.size (by have := HB1.out.size; simp; omega))
      clear ha2 hb2
      go_ret2
      exact ⟨rfl, HB2.out⟩
set_option maxHeartbeats 2000000 in
theorem iplace_in (a : Option Addr) (cap : Nat) (l : List Sx) (b : Nat) (w : World) (hfit : FitM l) (hZ : Xs w.heap.size a l w) (hgm : goodM l = true) (hb : b < 16) :
    Calls Try.prog 12 #[.slice a l.length cap, .int .i64 b] w fun e w' => e = .returned (.tuple (if 0 ≤ plN l b then #[.int .i64 (plN l b), .bool true] else #[.int .i64 0, .bool false])) ∧ Below w.heap.size w w' := by
  have HP' := hid (placesIn_yes a cap l _ hfit hZ hgm)
  have hr := (plN_range l hgm b hb).1
  have hd1 : decide ((b : Int) < 0) = false := decide_eq_false (by omega)
  have hd2 : decide ((16 : Int) ≤ (b : Int)) = false := decide_eq_false (by omega)
  have hd3 : decide (16 ≤ b) = false := decide_eq_false (by omega)
  clear hZ hgm
  generalize plN l = F at *
  have hi2 : (b : Int) < 16 := by omega
  by_cases h0 : 0 ≤ F b
  · rw [if_pos h0]
    have hd4 : (F b == -1) = false := beq_eq_false_iff_ne.2 (by omega)
    clear h0 hr
    go_enter Try.func12, Try.ntmps12
    go_wp2_with fail
    refine (HP'.out).mono ?_
    rintro e w1 ⟨rfl, b1⟩
    have HA : Hid (Ar w1.heap.size (fun _ => 0) (w1.alloc (.cells (arr fun _ => 0) 61))) := Ar.new w1 _ 61
    have HB1 : Hid (Below w.heap.size w w1) := b1
    clear b1 HP'
    go_wp2_with (first | (refine wpList_store_ar HA.out rfl _ _ rfl rfl rfl ?_; intro w2 ha2 hb2; have y0 := ha2.out.cell b hb))
    have HB2 : Hid (Below w.heap.size w w2) := (HB1.out.alloc HB1.out.size _).trans (hb2.out.below HB1.out.size (by have := HB1.out.size; simp; omega))
    clear ha2 hb2
    go_ret2
    exact ⟨rfl, HB2.out⟩
  · rw [if_neg h0]
    have hd4 : (F b == -1) = true := beq_iff_eq.2 (by omega)
    clear h0 hr
    go_enter Try.func12, Try.ntmps12
    go_wp2_with fail
    refine (HP'.out).mono ?_
    rintro e w1 ⟨rfl, b1⟩
    have HA : Hid (Ar w1.heap.size (fun _ => 0) (w1.alloc (.cells (arr fun _ => 0) 61))) := Ar.new w1 _ 61
    have HB1 : Hid (Below w.heap.size w w1) := b1
    clear b1 HP'
    go_wp2_with (first | (refine wpList_store_ar HA.out rfl _ _ rfl rfl rfl ?_; intro w2 ha2 hb2; have y0 := ha2.out.cell b hb))
    have HB2 : Hid (Below w.heap.size w w2) := (HB1.out.alloc HB1.out.size _).trans (hb2.out.below HB1.out.size (by have := HB1.out.size; simp; omega))
    clear ha2 hb2
    go_ret2
    exact ⟨rfl, HB2.out⟩
end Go.Proofs.Ytgipkpldlkmdkaa
