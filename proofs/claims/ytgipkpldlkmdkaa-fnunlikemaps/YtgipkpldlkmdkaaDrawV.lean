/- Walks of what is drawn: lists of places, maps, maps and stretches, maps and numbers. -/
import Derived.Test.YtgipkpldlkmdkaaDrawZ
import Derived.Test.YtgipkpldlkmdkaaSMap3
namespace Go.Proofs.Ytgipkpldlkmdkaa
set_option maxRecDepth 100000
open Go.ChangeShapes Go.WideShapes Go.ChangeAt Go.RowKit G00541
theorem IRow.tail {R : Nat} {l : List Int} {w : World} (h : IRow R l w) : Is w.heap.size (some ⟨R, 1, none⟩) l.tail w := by
  refine ⟨fun h0 => ⟨R, 1, rfl, h.lt, fun i hi j hj => ?_⟩⟩
  have hi' : i < l.tail.length := by simpa using hi
  have hi2 : i + 1 < l.length := by rw [List.length_tail] at hi'; omega
  obtain rfl : j = 0 := by omega
  have := h.cell (i + 1) hi2
  rw [List.getElem_map, List.getElem_tail]
  have e : 1 + i * 1 + 0 = i + 1 := by omega
  rw [e, this]; rfl
set_option maxHeartbeats 2000000 in
theorem drawMapOf_any (len cap : Nat) (a : Option Addr) (w : World) (hK : Code w.heap.size len cap a w) :
    Calls Try.prog 5 #[.slice a len cap] w fun e w' => ∃ (l : List Int) (b : Option Addr) (c : Nat), e = .returned (.slice b l.length c) ∧ l.length ≤ 16 ∧ Is w'.heap.size b l w' ∧ Below w.heap.size w w' := by
  have HC : Hid (Cur w.heap.size 0 (.slice a len cap) (w.alloc (.cells #[.slice a len cap, .int .i64 0, .int .u64 0] 57))) := Cur.start _ _ _
  have HK : Hid (Code w.heap.size len cap a (w.alloc (.cells #[.slice a len cap, .int .i64 0, .int .u64 0] 57))) := hK.start _
  have HB0 : Hid (But w.heap.size (w.alloc (.cells #[.slice a len cap, .int .i64 0, .int .u64 0] 57)) (w.alloc (.cells #[.slice a len cap, .int .i64 0, .int .u64 0] 57))) := But.refl _ _
  have hz : (w.alloc (.cells #[.slice a len cap, .int .i64 0, .int .u64 0] 57)).heap.size = w.heap.size + 1 := heap_size _ _
  have HD := hid (fun w' (h : But w.heap.size (w.alloc (.cells #[.slice a len cap, .int .i64 0, .int .u64 0] 57)) w') => But.done h)
  clear hK
  go_enter Try.func5, Try.ntmps5
  go_wp2_with fail
  generalize w.alloc (.cells #[.slice a len cap, .int .i64 0, .int .u64 0] 57) = w0 at *
  refine (places_any w.heap.size 0 len cap a _ (by omega) HC.out HK.out).mono ?_
  rintro e w1 ⟨l, R, c, rfl, hR, hl, _, hrow, hcp, hC1, hB1⟩
  have hRB : R ≠ w.heap.size := by omega
  have HC1 : Hid (Cur w.heap.size 100 (.slice a len cap) w1) := hC1.mono (by omega)
  have HK1 : Hid (Code w.heap.size len cap a w1) := HK.out.but hB1 (Nat.le_refl _) (by omega)
  have HR1 : Hid (IRow R l w1) := hrow
  have HB1 : Hid (But w.heap.size w0 w1) := hB1
  have HL : Hid (l.length = 16) := hl
  clear hC1 hB1 hrow HC HK HB0 hl
  go_wp2_with fail
  refine (one_any _ w.heap.size 100 len cap a _ (by omega) (by omega) (by omega) HC1.out HK1.out).mono ?_
  rintro e w2 ⟨v, rfl, _, hB2⟩
  have HR2 : Hid (IRow R l w2) := HR1.out.but hB2 hRB
  have HB2 : Hid (Below w.heap.size w w2) := HD.out _ (HB1.out.trans hB2)
  clear hB2 HC1 HK1 HR1 HB1 HD
  cases v
  · go_wp2
    go_ret
    have h1 := HR2.out.sl HR2.out.lt
    have h2 : Ending.returned (.slice (some ⟨R, 0, none⟩) 16 c) = .returned (.slice (some ⟨R, 0, none⟩) l.length c) := by rw [HL.out]
    have h3 : l.length ≤ 16 := by rw [HL.out]; exact Nat.le_refl _
    first
      | exact ⟨l, some ⟨R, 0, none⟩, c, h2, h3, h1, HB2.out⟩
      | exact ⟨l, some ⟨R, 0, none⟩, ⟨c, h2, h3, h1, HB2.out⟩⟩
      | exact ⟨l, ⟨some ⟨R, 0, none⟩, c, h2⟩, h3, h1, HB2.out⟩
  · have hc1 : ¬ c = 1 := by omega
    go_wp2
    go_ret
    have h1 := HR2.out.tail
    have h2 : Ending.returned (.slice (some ⟨R, 1, none⟩) 15 (c - 1)) = .returned (.slice (some ⟨R, 1, none⟩) l.tail.length (c - 1)) := by rw [List.length_tail, HL.out]
    have h3 : l.tail.length ≤ 16 := by rw [List.length_tail, HL.out]; omega
    first
      | exact ⟨l.tail, some ⟨R, 1, none⟩, c - 1, h2, h3, h1, HB2.out⟩
      | exact ⟨l.tail, some ⟨R, 1, none⟩, ⟨c - 1, h2, h3, h1, HB2.out⟩⟩
      | exact ⟨l.tail, ⟨some ⟨R, 1, none⟩, c - 1, h2⟩, h3, h1, HB2.out⟩
set_option maxHeartbeats 1000000 in
theorem drawGoodMap_any (len cap : Nat) (a : Option Addr) (w : World) (hK : Code w.heap.size len cap a w) :
    Calls Try.prog 48 #[.slice a len cap] w fun e w' => ∃ (l : List Sx) (b : Option Addr) (c : Nat), e = .returned (.slice b l.length c) ∧ l.length ≤ 16 ∧ Bnd l ∧ Xs w'.heap.size b l w' ∧ Below w.heap.size w w' := by
  have HC : Hid (Cur w.heap.size 0 (.slice a len cap) (w.alloc (.cells #[.slice a len cap, .int .i64 0, .int .u64 0] 57))) := Cur.start _ _ _
  have HK : Hid (Code w.heap.size len cap a (w.alloc (.cells #[.slice a len cap, .int .i64 0, .int .u64 0] 57))) := hK.start _
  have hz : (w.alloc (.cells #[.slice a len cap, .int .i64 0, .int .u64 0] 57)).heap.size = w.heap.size + 1 := heap_size _ _
  have HD := hid (fun w' (h : But w.heap.size (w.alloc (.cells #[.slice a len cap, .int .i64 0, .int .u64 0] 57)) w') => But.done h)
  clear hK
  go_enter Try.func48, Try.ntmps48
  go_wp2_with fail
  generalize w.alloc (.cells #[.slice a len cap, .int .i64 0, .int .u64 0] 57) = w0 at *
  refine (stretches_any w.heap.size 0 len cap a _ (by omega) HC.out HK.out).mono ?_
  rintro e w1 ⟨l1, b1, c1, rfl, hl1, hbd1, ho1, hC1, hB1⟩
  have HB1 : Hid (Below w.heap.size w w1) := HD.out _ hB1
  have HX1 := hid ho1.xs
  have HBD := hid hbd1
  clear hC1 hB1 ho1 hbd1 HC HK HD
  go_wp2
  go_ret
  first
    | exact ⟨l1, b1, c1, rfl, hl1, HBD.out, HX1.out, HB1.out⟩
    | exact ⟨l1, b1, ⟨c1, rfl, hl1, HBD.out, HX1.out, HB1.out⟩⟩
    | exact ⟨l1, ⟨b1, c1, rfl⟩, hl1, HBD.out, HX1.out, HB1.out⟩
set_option maxHeartbeats 1000000 in
theorem drawPlacesOf_any (len cap : Nat) (a : Option Addr) (w : World) (hK : Code w.heap.size len cap a w) :
    Calls Try.prog 19 #[.slice a len cap] w fun e w' => ∃ (l : List Sx) (b : Option Addr) (c : Nat), e = .returned (.slice b l.length c) ∧ l.length ≤ 16 ∧ Bnd l ∧ Xs w'.heap.size b l w' ∧ Below w.heap.size w w' := by
  have HD := hid (drawGoodMap_any len cap a w hK)
  clear hK
  go_enter Try.func19, Try.ntmps19
  go_wp2_with fail
  refine (HD.out).mono ?_
  rintro e w1 ⟨l1, b1, c1, rfl, hl1, hbd1, hx1, hB1⟩
  have HB1 := hid hB1
  have HX1 := hid hx1
  have HBD := hid hbd1
  clear hB1 hx1 hbd1 HD
  go_wp2
  go_ret
  first
    | exact ⟨l1, b1, c1, rfl, hl1, HBD.out, HX1.out, HB1.out⟩
    | exact ⟨l1, b1, ⟨c1, rfl, hl1, HBD.out, HX1.out, HB1.out⟩⟩
    | exact ⟨l1, ⟨b1, c1, rfl⟩, hl1, HBD.out, HX1.out, HB1.out⟩
set_option maxHeartbeats 1000000 in
theorem drawPlaceOf_any (len cap : Nat) (a : Option Addr) (w : World) (hK : Code w.heap.size len cap a w) :
    Calls Try.prog 17 #[.slice a len cap] w fun e w' => ∃ (l : List Sx) (b : Option Addr) (c : Nat) (n : Int), e = .returned (.tuple #[.slice b l.length c, .int .i64 n]) ∧ l.length ≤ 16 ∧ Bnd l ∧ Xs w'.heap.size b l w' ∧ Below w.heap.size w w' := by
  have HC : Hid (Cur w.heap.size 0 (.slice a len cap) (w.alloc (.cells #[.slice a len cap, .int .i64 0, .int .u64 0] 57))) := Cur.start _ _ _
  have HK : Hid (Code w.heap.size len cap a (w.alloc (.cells #[.slice a len cap, .int .i64 0, .int .u64 0] 57))) := hK.start _
  have hz : (w.alloc (.cells #[.slice a len cap, .int .i64 0, .int .u64 0] 57)).heap.size = w.heap.size + 1 := heap_size _ _
  have HD := hid (fun w' (h : But w.heap.size (w.alloc (.cells #[.slice a len cap, .int .i64 0, .int .u64 0] 57)) w') => But.done h)
  clear hK
  go_enter Try.func17, Try.ntmps17
  go_wp2_with fail
  generalize w.alloc (.cells #[.slice a len cap, .int .i64 0, .int .u64 0] 57) = w0 at *
  refine (stretches_any w.heap.size 0 len cap a _ (by omega) HC.out HK.out).mono ?_
  rintro e w1 ⟨l1, b1, c1, rfl, hl1, hbd1, ho1, hC1, hB1⟩
  have hs1 := hB1.size
  have HC1 : Hid (Cur w.heap.size 200 (.slice a len cap) w1) := hC1.mono (by omega)
  have HK1 : Hid (Code w.heap.size len cap a w1) := HK.out.but hB1 (Nat.le_refl _) (by omega)
  have HB1 : Hid (But w.heap.size w0 w1) := hB1
  have HO1_1 := hid ho1
  have HBD := hid hbd1
  clear hC1 hB1 ho1 hbd1 HC HK
  go_wp2_with fail
  refine (pick_any _ w.heap.size _ len cap a _ (by omega) (by omega) (by omega) HC1.out HK1.out).mono ?_
  rintro e w2 ⟨n, rfl, n0, n1, _, hB2⟩
  have HO2 : Hid (Xs w2.heap.size b1 l1 w2) := (HO1_1.out.but hB2 (by omega)).xs
  have HB2 : Hid (Below w.heap.size w w2) := HD.out _ (HB1.out.trans hB2)
  clear hB2 HO1_1 HC1 HK1 HB1 HD
  go_wp2
  go_ret2
  first
    | exact ⟨l1, b1, c1, n - 1, rfl, hl1, HBD.out, HO2.out, HB2.out⟩
    | exact ⟨l1, ⟨b1, c1, n - 1, rfl⟩, hl1, HBD.out, HO2.out, HB2.out⟩
    | exact ⟨l1, b1, ⟨c1, n - 1, rfl⟩, hl1, HBD.out, HO2.out, HB2.out⟩
set_option maxHeartbeats 1000000 in
theorem drawTrimMap_any (len cap : Nat) (a : Option Addr) (w : World) (hK : Code w.heap.size len cap a w) :
    Calls Try.prog 25 #[.slice a len cap] w fun e w' => ∃ (l : List Sx) (b : Option Addr) (c : Nat) (p n : Int), e = .returned (.tuple #[.slice b l.length c, .int .i64 p, .int .i64 n]) ∧ l.length ≤ 16 ∧ Bnd l ∧ -1 ≤ p ∧ p ≤ 16 ∧ 0 ≤ n ∧ n ≤ 5 ∧ Xs w'.heap.size b l w' ∧ Below w.heap.size w w' := by
  have HC : Hid (Cur w.heap.size 0 (.slice a len cap) (w.alloc (.cells #[.slice a len cap, .int .i64 0, .int .u64 0] 57))) := Cur.start _ _ _
  have HK : Hid (Code w.heap.size len cap a (w.alloc (.cells #[.slice a len cap, .int .i64 0, .int .u64 0] 57))) := hK.start _
  have hz : (w.alloc (.cells #[.slice a len cap, .int .i64 0, .int .u64 0] 57)).heap.size = w.heap.size + 1 := heap_size _ _
  have HD := hid (fun w' (h : But w.heap.size (w.alloc (.cells #[.slice a len cap, .int .i64 0, .int .u64 0] 57)) w') => But.done h)
  clear hK
  go_enter Try.func25, Try.ntmps25
  go_wp2_with fail
  generalize w.alloc (.cells #[.slice a len cap, .int .i64 0, .int .u64 0] 57) = w0 at *
  refine (stretches_any w.heap.size 0 len cap a _ (by omega) HC.out HK.out).mono ?_
  rintro e w1 ⟨l1, b1, c1, rfl, hl1, hbd1, ho1, hC1, hB1⟩
  have hs1 := hB1.size
  have HC1 : Hid (Cur w.heap.size 200 (.slice a len cap) w1) := hC1.mono (by omega)
  have HK1 : Hid (Code w.heap.size len cap a w1) := HK.out.but hB1 (Nat.le_refl _) (by omega)
  have HB1 : Hid (But w.heap.size w0 w1) := hB1
  have HO1_1 := hid ho1
  have HBD := hid hbd1
  clear hC1 hB1 ho1 hbd1 HC HK
  go_wp2_with fail
  refine (pick_any _ w.heap.size _ len cap a _ (by omega) (by omega) (by omega) HC1.out HK1.out).mono ?_
  rintro e w2 ⟨p, rfl, p0, p1, hC2, hB2⟩
  have hs2 := hB2.size
  have HC2 : Hid (Cur w.heap.size 202 (.slice a len cap) w2) := hC2.mono (by omega)
  have HK2 : Hid (Code w.heap.size len cap a w2) := HK1.out.but hB2 (Nat.le_refl _) (by omega)
  have HB2 : Hid (But w.heap.size w0 w2) := HB1.out.trans hB2
  have HO1_2 : Hid (OwnX w0.heap.size w1.heap.size b1 l1 w2) := HO1_1.out.but hB2 (by omega)
  clear hC2 hB2 HC1 HK1 HB1 HO1_1
  go_wp2_with fail
  refine (pick_any _ w.heap.size _ len cap a _ (by omega) (by omega) (by omega) HC2.out HK2.out).mono ?_
  rintro e w3 ⟨n, rfl, n0, n1, _, hB3⟩
  have HO3 : Hid (Xs w3.heap.size b1 l1 w3) := (HO1_2.out.but hB3 (by omega)).xs
  have HB3 : Hid (Below w.heap.size w w3) := HD.out _ (HB2.out.trans hB3)
  clear hB3 HO1_2 HC2 HK2 HB2 HD
  go_wp2
  refine bodyPost_ret (v := .tuple #[.slice b1 l1.length c1, .int .i64 (p - 1), .int .i64 n]) (by simp [results, Try.results25, go_sem]) rfl ?_
  exact ⟨l1, b1, c1, p - 1, n, rfl, hl1, HBD.out, by omega, by omega, n0, by omega, HO3.out, HB3.out⟩
set_option maxHeartbeats 1000000 in
theorem drawPut_any (len cap : Nat) (a : Option Addr) (w : World) (hK : Code w.heap.size len cap a w) :
    Calls Try.prog 13 #[.slice a len cap] w fun e w' => ∃ (l : List Sx) (b : Option Addr) (c : Nat) (p n d : Int), e = .returned (.tuple #[.slice b l.length c, .agg #[.int .i64 p, .int .i64 n, .int .i64 d]]) ∧ l.length ≤ 16 ∧ Bnd l ∧ BndX ⟨p, n, d⟩ ∧ Xs w'.heap.size b l w' ∧ Below w.heap.size w w' := by
  obtain ⟨wr, hwr⟩ : ∃ wr, wr = w.alloc (.cells #[.int .i64 0, .int .i64 0, .int .i64 0] 36) := ⟨_, rfl⟩
  have hzr : wr.heap.size = w.heap.size + 1 := by rw [hwr]; exact heap_size _ _
  have hBr : Below w.heap.size w wr := by rw [hwr]; exact (Below.refl _ _).alloc (Nat.le_refl _) _
  have hKr : Code wr.heap.size len cap a wr := (hK.below hBr).mono hBr.size
  have HZ : Hid (SxAt w.heap.size 0 0 0 (wr.alloc (.cells #[.slice a len cap, .int .i64 0, .int .u64 0] 57))) := by
    refine SxAt.alloc ?_ _
    rw [hwr]; exact SxAt.new _ _ _ _ _
  have HC : Hid (Cur wr.heap.size 0 (.slice a len cap) (wr.alloc (.cells #[.slice a len cap, .int .i64 0, .int .u64 0] 57))) := Cur.start _ _ _
  have HK : Hid (Code wr.heap.size len cap a (wr.alloc (.cells #[.slice a len cap, .int .i64 0, .int .u64 0] 57))) := hKr.start _
  have hz : (wr.alloc (.cells #[.slice a len cap, .int .i64 0, .int .u64 0] 57)).heap.size = wr.heap.size + 1 := heap_size _ _
  have HD := hid (fun w' (h : But wr.heap.size (wr.alloc (.cells #[.slice a len cap, .int .i64 0, .int .u64 0] 57)) w') => But.done h)
  have HBR := hid hBr
  have HWR := hid hwr
  clear hK hBr hKr hwr
  go_enter Try.func13, Try.ntmps13
  go_wp2_with fail
  rw [← HWR.out, ← hzr]
  generalize wr.alloc (.cells #[.slice a len cap, .int .i64 0, .int .u64 0] 57) = w0 at *
  have hWB : w.heap.size ≠ wr.heap.size := by omega
  generalize wr.heap.size = B at *
  have hzr2 : w.heap.size < B := by omega
  have hz2 : B < w0.heap.size := by omega
  clear hzr hz
  refine (stretches_any B 0 len cap a _ (by omega) HC.out HK.out).mono ?_
  rintro e w1 ⟨l1, b1, c1, rfl, hl1, hbd1, ho1, hC1, hB1⟩
  have hs1 := hB1.size
  have HC1 : Hid (Cur B 200 (.slice a len cap) w1) := hC1.mono (by omega)
  have HK1 : Hid (Code B len cap a w1) := HK.out.but hB1 (Nat.le_refl _) (by omega)
  have HB1 : Hid (But B w0 w1) := hB1
  have HO1 := hid ho1
  have HBD := hid hbd1
  have HZ1 : Hid (SxAt w.heap.size 0 0 0 w1) := HZ.out.but hB1 hWB
  clear hC1 hB1 ho1 hbd1 HC HK HZ
  go_wp2_with fail
  refine (stretch_any B _ len cap a _ (by omega) HC1.out HK1.out).mono ?_
  rintro e w2 ⟨p, n, d, rfl, hbx, _, hB2⟩
  have hs2 := hB2.size
  have HO2 : Hid (OwnX w0.heap.size w1.heap.size b1 l1 w2) := HO1.out.but hB2 (by omega)
  have HB2 : Hid (Below w.heap.size w w2) := HBR.out.trans ((HD.out _ (HB1.out.trans hB2)).mono (by omega))
  have HZ2 : Hid (SxAt w.heap.size 0 0 0 w2) := HZ1.out.but hB2 hWB
  have HBX := hid hbx
  clear hB2 HO1 HC1 HK1 HB1 HD HZ1 hbx
  obtain ⟨z0, z1, z2, zf0, zf1, zf2, _⟩ := HZ2.out
  go_wp2
  refine bodyPost_ret (v := .tuple #[.slice b1 l1.length c1, .agg #[.int .i64 p, .int .i64 n, .int .i64 d]]) (by simp [results, Try.results13, go_sem, z0, z1, z2]) rfl ?_
  refine ⟨l1, b1, c1, p, n, d, rfl, hl1, HBD.out, HBX.out, ?_, ((HB2.out.setCell (Nat.le_refl _) _).setCell (Nat.le_refl _) _).setCell (Nat.le_refl _) _⟩
  rcases HO2.out with h | ⟨R, r1, r2, rfl, hr⟩
  · rw [h]; exact ⟨fun h0 => absurd h0 (by simp)⟩
  · have hRW : R ≠ w.heap.size := by omega
    have h3 : XRow R l1 (((w2.setCell ⟨w.heap.size, 0, none⟩ (.int .i64 p)).setCell ⟨w.heap.size, 1, none⟩ (.int .i64 n)).setCell ⟨w.heap.size, 2, none⟩ (.int .i64 d)) := hr.same (by simp [World.setCell]) ((Below.heap_setCell _ _ _ _ hRW).trans ((Below.heap_setCell _ _ _ _ hRW).trans (Below.heap_setCell _ _ _ _ hRW)))
    exact h3.sl h3.lt
end Go.Proofs.Ytgipkpldlkmdkaa
