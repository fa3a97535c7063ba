/- The exact law of ReadRecord: its walk. -/
import Derived.Test.YtbbnbkofomaefaaDoorReadR
import Derived.Test.YtbbnbkofomaefaaDoorERec
namespace Go.Proofs.YtbbnbkofomaefaaDoor
set_option maxRecDepth 100000
open Go.ChangeShapes Go.WideShapes Go.ChangeAt Go.RowKit G00541
set_option maxHeartbeats 400000 in
theorem sread_off (s : ByteArray) (p : Int) (w : World) (h : 300 < s.size ∨ p < 0) :
    Calls Tryd.prog 12 #[.string s, .int .i64 p] w fun e w' => e = .returned (.tuple #[zrec, .int .i64 0, .bool false]) ∧ Below w.heap.size w w' := by
  by_cases h0 : 300 < s.size
  · have hd0 : decide ((300 : Int) < (s.size : Int)) = true := by simp; omega
    go_enter Tryd.func12, Tryd.ntmps12
    go_wp2
    refine bodyPost_ret (v := .tuple #[zrec, .int .i64 0, .bool false]) (by simp [results, Tryd.results12, go_sem, zrec]) rfl ⟨rfl, (Below.refl _ _).alloc (Nat.le_refl _) _⟩
  · have hd0 : decide ((300 : Int) < (s.size : Int)) = false := by simp; omega
    have hd1 : decide (p < 0) = true := by simp; omega
    go_enter Tryd.func12, Tryd.ntmps12
    go_wp2
    refine bodyPost_ret (v := .tuple #[zrec, .int .i64 0, .bool false]) (by simp [results, Tryd.results12, go_sem, zrec]) rfl ⟨rfl, (Below.refl _ _).alloc (Nat.le_refl _) _⟩
set_option maxHeartbeats 1000000 in
theorem sread_none (s : ByteArray) (p : Nat) (w : World) (hs : s.size ≤ 300) (h : readR s.data.toList p = none) :
    Calls Tryd.prog 12 #[.string s, .int .i64 p] w fun e w' => e = .returned (.tuple #[zrec, .int .i64 0, .bool false]) ∧ Below w.heap.size w w' := by
  have hd0 : decide ((300 : Int) < (s.size : Int)) = false := by simp; omega
  have hd1 : decide ((p : Int) < 0) = false := by simp
  have HC : Hid (∀ v, Calls Tryd.prog 30 #[.string s, .int .i64 p] v fun e w' => e = .returned (.tuple #[.agg #[.int .i64 0, .int .i64 0, .int .i64 0, .string ⟨#[]⟩], .int .i64 (-1)]) ∧ Below v.heap.size v w') := fun v => sl3_none s p v hs h
  have HZ0 : Hid (ZeroAt w w.heap.size (w.alloc (.cells #[.int .i64 0, .int .i64 0, .int .i64 0, .string ⟨#[]⟩] 27))) := ZeroAt.start w
  clear h
  go_enter Tryd.func12, Tryd.ntmps12
  go_wp2_with fail
  refine (HC.out _).mono ?_
  rintro e w1 ⟨rfl, g1⟩
  have HZ1 : Hid (ZeroAt w w.heap.size w1) := HZ0.out.below g1
  obtain ⟨z0, z1, z2, z3, f0, f1, f2, f3, _, _, hlt⟩ := HZ1.out
  clear g1 HZ0
  go_wp2
  refine bodyPost_ret (v := .tuple #[zrec, .int .i64 0, .bool false]) (by simp [results, Tryd.results12, go_sem, zrec, z0, z1, z2, z3, hlt]) rfl ⟨rfl, ?_⟩
  first | exact setFour (HZ1.out.bel.alloc HZ1.out.bel.size _) (Nat.le_refl _) _ _ _ _ | exact (setFour HZ1.out.bel (Nat.le_refl _) _ _ _ _).alloc (setFour HZ1.out.bel (Nat.le_refl _) _ _ _ _).size _
set_option maxHeartbeats 1000000 in
theorem sread_some (s : ByteArray) (p : Nat) (w : World) (hs : s.size ≤ 300) (k q n : Int) (D : ByteArray) (e : Nat)
    (HC : Hid (∀ v, Calls Tryd.prog 30 #[.string s, .int .i64 p] v fun x w' => x = .returned (.tuple #[.agg #[.int .i64 k, .int .i64 q, .int .i64 n, .string D], .int .i64 (e : Int)]) ∧ Below v.heap.size v w')) :
    Calls Tryd.prog 12 #[.string s, .int .i64 p] w fun x w' => x = .returned (.tuple #[.agg #[.int .i64 k, .int .i64 q, .int .i64 n, .string D], .int .i64 (e : Int), .bool true]) ∧ Below w.heap.size w w' := by
  have hd0 : decide ((300 : Int) < (s.size : Int)) = false := by simp; omega
  have hd1 : decide ((p : Int) < 0) = false := by simp
  have hd2 : decide ((e : Int) < 0) = false := by simp
  have HZ0 : Hid (ZeroAt w w.heap.size (w.alloc (.cells #[.int .i64 0, .int .i64 0, .int .i64 0, .string ⟨#[]⟩] 27))) := ZeroAt.start w
  go_enter Tryd.func12, Tryd.ntmps12
  go_wp2_with fail
  refine (HC.out _).mono ?_
  rintro x w1 ⟨rfl, g1⟩
  have HZ1 : Hid (ZeroAt w w.heap.size w1) := HZ0.out.below g1
  obtain ⟨z0, z1, z2, z3, f0, f1, f2, f3, _, _, hlt⟩ := HZ1.out
  clear g1 HZ0
  go_wp2
  refine bodyPost_ret (v := .tuple #[.agg #[.int .i64 k, .int .i64 q, .int .i64 n, .string D], .int .i64 (e : Int), .bool true]) (by simp [results, Tryd.results12, go_sem, z0, z1, z2, z3, hlt]) rfl ⟨rfl, ?_⟩
  first | exact setFour (HZ1.out.bel.alloc HZ1.out.bel.size _) (Nat.le_refl _) _ _ _ _ | exact (setFour HZ1.out.bel (Nat.le_refl _) _ _ _ _).alloc (setFour HZ1.out.bel (Nat.le_refl _) _ _ _ _).size _
set_option maxHeartbeats 1000000 in
theorem law_ReadRecord (s : ByteArray) (p : Int) (w : World) (hs : s.size ≤ 1048576) (k q n t : Int) (D : ByteArray) (ok : Bool)
    (HS : Hid (∀ v, Below w.heap.size w v → Calls Tryd.prog 12 #[.string s, .int .i64 p] v fun x w' => x = .returned (.tuple #[.agg #[.int .i64 k, .int .i64 q, .int .i64 n, .string D], .int .i64 t, .bool ok]) ∧ Below v.heap.size v w'))
    (HG : Hid (∀ v, Below w.heap.size w v → Calls Tryd.prog 13 #[.string s, .int .i64 p] v fun x w' => x = .returned (.tuple #[.agg #[.int .i64 k, .int .i64 q, .int .i64 n, .string D], .int .i64 t, .bool ok]) ∧ Below v.heap.size v w')) :
    Calls Tryd.prog 4 #[.string s, .int .i64 p] w fun e w' => e = .returned (.bool true) ∧ Below w.heap.size w w' := by
  have hd0 : decide ((1048576 : Int) < (s.size : Int)) = false := by simp; omega
  go_enter Tryd.func4, Tryd.ntmps4
  go_wp2_with fail
  refine (HS.out _ (Below.refl _ _)).mono ?_
  rintro e w1 ⟨rfl, g1⟩
  have HB1 : Hid (Below w.heap.size w (w1.alloc (.cells #[.int .i64 k, .int .i64 q, .int .i64 n, .string D] 27))) := g1.alloc g1.size _
  have HR1 : Hid (RecAt w1.heap.size k q n D (w1.alloc (.cells #[.int .i64 k, .int .i64 q, .int .i64 n, .string D] 27))) := RecAt.start k q n D w1 27
  clear g1
  go_wp2_with fail
  refine (HG.out _ HB1.out).mono ?_
  rintro e w2 ⟨rfl, g2⟩
  have HB2 : Hid (Below w.heap.size w (w2.alloc (.cells #[.int .i64 k, .int .i64 q, .int .i64 n, .string D] 27))) := (HB1.out.trans (g2.mono HB1.out.size)).alloc (HB1.out.trans (g2.mono HB1.out.size)).size _
  obtain ⟨c0, c1, c2, c3, hlt⟩ := HR1.out.below g2
  clear g2 HB1 HR1
  go_wp2_with fail
  refine (eqRecord_same k q n D _).mono ?_
  rintro e w3 ⟨rfl, g3⟩
  have HB3 : Hid (Below w.heap.size w w3) := HB2.out.trans (g3.mono HB2.out.size)
  clear g3 HB2
  go_wp2
  go_ret
  exact ⟨rfl, HB3.out⟩
theorem walk_ReadRecord (s : ByteArray) (p : Int) (w : World) (hT : Tab w) (hs : s.size ≤ maxLen) :
    Calls Tryd.prog 4 #[.string s, .int .i64 p] w fun e w' => e = .returned (.bool true) ∧ Below w.heap.size w w' := by
  by_cases hb : s.size ≤ 1048576
  case neg =>
    unfold maxLen at hs
    have hd0 : decide ((1048576 : Int) < (s.size : Int)) = true := by simp; omega
    go_enter Tryd.func4, Tryd.ntmps4
    go_wp2
    go_ret
    exact ⟨rfl, Below.refl _ _⟩
  by_cases hoff : 300 < s.size ∨ p < 0
  · exact law_ReadRecord s p w hb 0 0 0 0 ⟨#[]⟩ false (fun v _ => sread_off s p v hoff) (fun v _ => ird_out s p v (by omega))
  obtain ⟨q, rfl⟩ : ∃ q : Nat, p = q := ⟨p.toNat, by omega⟩
  have hs3 : s.size ≤ 300 := by omega
  cases h : readR s.data.toList q with
  | none => exact law_ReadRecord s q w hb 0 0 0 0 ⟨#[]⟩ false (fun v _ => sread_none s q v hs3 h) (fun v g => iread_none s q v hs3 (hT.below g) h)
  | some x =>
    obtain ⟨r, e⟩ := x
    exact law_ReadRecord s q w hb r.kind r.place r.long e (str r.data) true (fun v _ => sread_some s q v hs3 r.kind r.place r.long (str r.data) e (fun v => sl3_some s q v hs3 r e h)) (fun v g => iread_some s q v hs3 (hT.below g) r e h)
end Go.Proofs.YtbbnbkofomaefaaDoor
