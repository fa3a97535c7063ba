/- Walks of RecordText, of the program and of its model. -/
import Derived.Test.YthoeffbefmhkjaaDoorQA
import Derived.Test.YthoeffbefmhkjaaDoorSWith
namespace Go.Proofs.YthoeffbefmhkjaaDoor
set_option maxRecDepth 100000
open Go.ChangeShapes Go.WideShapes Go.ChangeAt Go.RowKit G00541
theorem three_bytes (w : World) (x y z : Int) : Sem.run Tryd.prog (convert 22 9 (.slice (some ⟨w.heap.size, 0, none⟩) 3 3)) (w.alloc (.cells #[.int .u8 x, .int .u8 y, .int .u8 z] 5)) =
    .ok (.string (strOfNums [x, y, z])) (w.alloc (.cells #[.int .u8 x, .int .u8 y, .int .u8 z] 5)) :=
  run_convert_bytes_arg (w.alloc (.cells #[.int .u8 x, .int .u8 y, .int .u8 z] 5)) 22 5 Tryd.underlying22 Tryd.underlying5 w.heap.size 0 3 3 [x, y, z] rfl (fun i hi => by
    rcases (by omega : i = 0 ∨ i = 1 ∨ i = 2) with rfl | rfl | rfl
    · go_simp
    · go_simp
    · go_simp) 9 Tryd.underlying9
theorem byte_one (w : World) (x : Int) : Sem.run Tryd.prog (convert 22 9 (.slice (some ⟨w.heap.size, 0, none⟩) 1 1)) (w.alloc (.cells #[.int .u8 x] 5)) =
    .ok (.string (strOfNums [x])) (w.alloc (.cells #[.int .u8 x] 5)) :=
  run_convert_bytes_arg (w.alloc (.cells #[.int .u8 x] 5)) 22 5 Tryd.underlying22 Tryd.underlying5 w.heap.size 0 1 1 [x] rfl (fun i hi => by
    obtain rfl : i = 0 := by omega
    go_simp) 9 Tryd.underlying9
theorem three_size (x y z : Int) : (strOfNums [x, y, z]).size = 3 := strOfNums_size _
theorem one_size (x : Int) : (strOfNums [x]).size = 1 := strOfNums_size _
theorem withText_list (s : ByteArray) : (withText s).data.toList = withL s.data.toList := by
  unfold withText
  rw [ByteArray.data_append, Array.toList_append, strOfNums_data]
  have hz : sumZZ s = G00541.sumZZ s.data.toList := by
    unfold sumZZ G00541.sumZZ
    rw [ByteArray.data_append, Array.toList_append]
  rw [hz]
  unfold withL
  congr 1
theorem withText_size (s : ByteArray) : (withText s).size = s.size + 2 := by
  rw [← bytes_size, withText_list, withL_len, bytes_size]
/-- a record's text, as both sides make it -/
def headB (k p n : Int) (D : ByteArray) : ByteArray := strOfNums [k, p, n] ++ D
def textB (k p n : Int) (D : ByteArray) : ByteArray := strOfNums [((withText (headB k p n D)).size : Int)] ++ withText (headB k p n D)
theorem headB_size (k p n : Int) (D : ByteArray) : (headB k p n D).size = 3 + D.size := by
  unfold headB; rw [ByteArray.size_append, three_size]
theorem headB_list (k p n : Int) (D : ByteArray) : (headB k p n D).data.toList = bodyL ⟨k, p, n, D.data.toList⟩ := by
  unfold headB
  rw [ByteArray.data_append, Array.toList_append, strOfNums_data]
  rfl
theorem textB_eq (k p n : Int) (D : ByteArray) : textB k p n D = str (textL ⟨k, p, n, D.data.toList⟩) := by
  rw [← str_back (textB k p n D)]
  congr 1
theorem textB_size (k p n : Int) (D : ByteArray) : (textB k p n D).size = 6 + D.size := by
  unfold textB
  rw [ByteArray.size_append, one_size, withText_size, headB_size]; omega
set_option maxHeartbeats 400000 in
theorem stext_any (k p n : Int) (D : ByteArray) (w : World) (k0 : 0 ≤ k) (k1 : k ≤ 255) (p0 : 0 ≤ p) (p1 : p ≤ 255) (n0 : 0 ≤ n) (n1 : n ≤ 255) (hD : D.size ≤ 200) :
    Calls Tryd.prog 50 #[.agg #[.int .i64 k, .int .i64 p, .int .i64 n, .string D]] w fun e w' => e = .returned (.string (textB k p n D)) ∧ Below w.heap.size w w' := by
  have hcv := three_bytes (w.alloc (.cells #[.int .i64 k, .int .i64 p, .int .i64 n, .string D] 36))
  rw [heap_size] at hcv
  have hcv1 := byte_one
  have hs3 := three_size
  have hs1 := one_size
  have HH := headB_size k p n D
  have HC : Hid (∀ v, Calls Tryd.prog 60 #[.string (strOfNums [k, p, n] ++ D)] v fun e w' => e = .returned (.string (withText (headB k p n D))) ∧ Below v.heap.size v w') := fun v => l1With_any (headB k p n D) v (by omega)
  have HT : (withText (headB k p n D)).size ≤ 255 := by rw [withText_size]; omega
  clear HH
  have HE : Hid (textB k p n D = strOfNums [((withText (headB k p n D)).size : Int)] ++ withText (headB k p n D)) := rfl
  generalize withText (headB k p n D) = T at *
  go_enter Tryd.func50, Tryd.ntmps50
  go_wp2_with fail
  refine (HC.out _).mono ?_
  rintro e w1 ⟨rfl, b1⟩
  have HB : Hid (Below w.heap.size w w1) := (((Below.refl _ _).alloc (Nat.le_refl _) _).alloc (by simp) _).trans (b1.mono (by simp; omega))
  clear b1
  go_wp2
  go_ret
  exact ⟨ret_str HE.out.symm, HB.out.alloc HB.out.size _⟩
set_option maxHeartbeats 400000 in
theorem srectext_no (k p n : Int) (D : ByteArray) (w : World) (h : goodR ⟨k, p, n, D.data.toList⟩ = false) :
    Calls Tryd.prog 27 #[.agg #[.int .i64 k, .int .i64 p, .int .i64 n, .string D]] w fun e w' => e = .returned (.tuple #[.string ⟨#[]⟩, .bool false]) ∧ Below w.heap.size w w' := by
  have HG : Hid (∀ v, Calls Tryd.prog 49 #[.agg #[.int .i64 k, .int .i64 p, .int .i64 n, .string D]] v fun e w' => e = .returned (.bool false) ∧ Below v.heap.size v w') := fun v => by rw [← h]; exact sgood_any k p n D v
  clear h
  go_enter Tryd.func27, Tryd.ntmps27
  go_wp2_with fail
  refine (HG.out _).mono ?_
  rintro e w1 ⟨rfl, b1⟩
  have HB : Hid (Below w.heap.size w w1) := below_in b1
  clear b1
  go_wp2
  go_ret2
  exact ⟨rfl, HB.out⟩
theorem good_bounds {k p n : Int} {D : ByteArray} (h : goodR ⟨k, p, n, D.data.toList⟩ = true) : 0 ≤ k ∧ k ≤ 255 ∧ 0 ≤ p ∧ p ≤ 255 ∧ 0 ≤ n ∧ n ≤ 255 ∧ D.size ≤ 8 := by
  have g := good_cases h
  have hs := bytes_size D
  simp only at g
  omega
set_option maxHeartbeats 400000 in
theorem srectext_yes (k p n : Int) (D : ByteArray) (w : World) (h : goodR ⟨k, p, n, D.data.toList⟩ = true) :
    Calls Tryd.prog 27 #[.agg #[.int .i64 k, .int .i64 p, .int .i64 n, .string D]] w fun e w' => e = .returned (.tuple #[.string (textB k p n D), .bool true]) ∧ Below w.heap.size w w' := by
  have HG : Hid (∀ v, Calls Tryd.prog 49 #[.agg #[.int .i64 k, .int .i64 p, .int .i64 n, .string D]] v fun e w' => e = .returned (.bool true) ∧ Below v.heap.size v w') := fun v => by rw [← h]; exact sgood_any k p n D v
  obtain ⟨k0, k1, p0, p1, n0, n1, hD⟩ := good_bounds h
  have HT : Hid (∀ v, Calls Tryd.prog 50 #[.agg #[.int .i64 k, .int .i64 p, .int .i64 n, .string D]] v fun e w' => e = .returned (.string (textB k p n D)) ∧ Below v.heap.size v w') := fun v => stext_any k p n D v k0 k1 p0 p1 n0 n1 (by omega)
  clear h
  generalize textB k p n D = T at *
  go_enter Tryd.func27, Tryd.ntmps27
  go_wp2_with fail
  refine (HG.out _).mono ?_
  rintro e w1 ⟨rfl, b1⟩
  have c0 := (b1.cell (p := ⟨w.heap.size, 0, none⟩) (by simp)).trans (show _ = some (.int .i64 k) by go_simp)
  have c1 := (b1.cell (p := ⟨w.heap.size, 1, none⟩) (by simp)).trans (show _ = some (.int .i64 p) by go_simp)
  have c2 := (b1.cell (p := ⟨w.heap.size, 2, none⟩) (by simp)).trans (show _ = some (.int .i64 n) by go_simp)
  have c3 := (b1.cell (p := ⟨w.heap.size, 3, none⟩) (by simp)).trans (show _ = some (.string D) by go_simp)
  have HB : Hid (Below w.heap.size w w1) := below_in b1
  clear b1
  go_wp2_with fail
  refine (HT.out _).mono ?_
  rintro e w2 ⟨rfl, b2⟩
  have HB2 : Hid (Below w.heap.size w w2) := HB.out.trans (b2.mono HB.out.size)
  clear b2
  go_wp2
  go_ret2
  exact ⟨rfl, HB2.out⟩
set_option maxHeartbeats 400000 in
theorem irectext_no (k p n : Int) (D : ByteArray) (w : World) (h : goodR ⟨k, p, n, D.data.toList⟩ = false) :
    Calls Tryd.prog 19 #[.agg #[.int .i64 k, .int .i64 p, .int .i64 n, .string D]] w fun e w' => e = .returned (.tuple #[.string ⟨#[]⟩, .bool false]) ∧ Below w.heap.size w w' := by
  have HG : Hid (∀ v, Calls Tryd.prog 30 #[.agg #[.int .i64 k, .int .i64 p, .int .i64 n, .string D]] v fun e w' => e = .returned (.bool false) ∧ Below v.heap.size v w') := fun v => by rw [← h]; exact igood_any k p n D v
  clear h
  go_enter Tryd.func19, Tryd.ntmps19
  go_wp2_with fail
  refine (HG.out _).mono ?_
  rintro e w1 ⟨rfl, b1⟩
  have HB : Hid (Below w.heap.size w w1) := below_in b1
  clear b1
  go_wp2
  go_ret2
  exact ⟨rfl, HB.out⟩
set_option maxHeartbeats 1000000 in
theorem irectext_yes (k p n : Int) (D : ByteArray) (w : World) (hT : Tab w) (h : goodR ⟨k, p, n, D.data.toList⟩ = true) :
    Calls Tryd.prog 19 #[.agg #[.int .i64 k, .int .i64 p, .int .i64 n, .string D]] w fun e w' => e = .returned (.tuple #[.string (textB k p n D), .bool true]) ∧ Below w.heap.size w w' := by
  have HG : Hid (∀ v, Calls Tryd.prog 30 #[.agg #[.int .i64 k, .int .i64 p, .int .i64 n, .string D]] v fun e w' => e = .returned (.bool true) ∧ Below v.heap.size v w') := fun v => by rw [← h]; exact igood_any k p n D v
  obtain ⟨k0, k1, p0, p1, n0, n1, hD⟩ := good_bounds h
  have hcv := three_bytes
  have hcv1 := byte_one
  have hs3 := three_size
  have hs1 := one_size
  have HH := headB_size k p n D
  have HTab : Hid (∀ v, Below w.heap.size w v → Tab v) := fun v g => hT.below g
  have HC : Hid (∀ v, Tab v → Calls Tryd.prog 42 #[.string (strOfNums [k, p, n] ++ D)] v fun e w' => e = .returned (.tuple #[.string (withText (headB k p n D)), .bool true]) ∧ Below v.heap.size v w') := fun v hv => by
    have := implWith_any (headB k p n D) v hv (by omega)
    rw [okWith_yes (by omega), valWith_yes (by omega)] at this
    exact this
  have HT : (withText (headB k p n D)).size ≤ 255 := by rw [withText_size]; omega
  clear HH
  have HE : Hid (textB k p n D = strOfNums [((withText (headB k p n D)).size : Int)] ++ withText (headB k p n D)) := rfl
  generalize withText (headB k p n D) = T at *
  clear h hT
  go_enter Tryd.func19, Tryd.ntmps19
  go_wp2_with fail
  refine (HG.out _).mono ?_
  rintro e w1 ⟨rfl, b1⟩
  have c0 := (b1.cell (p := ⟨w.heap.size, 0, none⟩) (by simp)).trans (show _ = some (.int .i64 k) by go_simp)
  have c1 := (b1.cell (p := ⟨w.heap.size, 1, none⟩) (by simp)).trans (show _ = some (.int .i64 p) by go_simp)
  have c2 := (b1.cell (p := ⟨w.heap.size, 2, none⟩) (by simp)).trans (show _ = some (.int .i64 n) by go_simp)
  have c3 := (b1.cell (p := ⟨w.heap.size, 3, none⟩) (by simp)).trans (show _ = some (.string D) by go_simp)
  have hlt : w.heap.size < w1.heap.size := by have := b1.size; rw [heap_size] at this; omega
  have HB : Hid (Below w.heap.size w w1) := below_in b1
  clear b1
  go_wp2_with fail
  refine (HC.out _ (HTab.out _ (HB.out.alloc HB.out.size _))).mono ?_
  rintro e w2 ⟨rfl, b2⟩
  have HB2 : Hid (Below w.heap.size w w2) := (HB.out.alloc HB.out.size _).trans (b2.mono (by have := HB.out.size; simp; omega))
  clear b2
  go_wp2
  go_ret2
  exact ⟨ret_str2 HE.out.symm rfl, HB2.out.alloc HB2.out.size _⟩
end Go.Proofs.YthoeffbefmhkjaaDoor
