/- The exact law of TornSegment: its walk. -/
import Derived.Test.YtbbnbkofomaefaaDoorAllI
import Derived.Test.YtbbnbkofomaefaaDoorIJoin
import Derived.Test.YtbbnbkofomaefaaDoorIn
namespace Go.Proofs.YtbbnbkofomaefaaDoor
set_option maxRecDepth 100000
open Go.ChangeShapes Go.WideShapes Go.ChangeAt Go.RowKit G00541
set_option maxHeartbeats 400000 in
theorem storn_off (s : ByteArray) (k : Int) (w : World) (h : 300 < s.size ∨ k < 0 ∨ (s.size : Int) < k) :
    Calls Tryd.prog 24 #[.string s, .int .i64 k] w fun e w' => e = .returned (.tuple #[.string ⟨#[]⟩, .bool false]) ∧ Below w.heap.size w w' := by
  by_cases h0 : 300 < s.size
  · have hd0 : decide ((300 : Int) < (s.size : Int)) = true := by simp; omega
    go_enter Tryd.func24, Tryd.ntmps24
    go_wp2
    go_ret2
    exact ⟨rfl, Below.refl _ _⟩
  · have hd0 : decide ((300 : Int) < (s.size : Int)) = false := by simp; omega
    have h1 : k < 0 ∨ (s.size : Int) < k := by omega
    go_enter Tryd.func24, Tryd.ntmps24
    go_wp2_with fail
    refine (l1In_no _ _ _ _ h1).mono ?_
    rintro e w1 ⟨rfl, rfl⟩
    go_wp2
    go_ret2
    exact ⟨rfl, Below.refl _ _⟩
set_option maxHeartbeats 400000 in
theorem itorn_off (s : ByteArray) (k : Int) (w : World) (h : 300 < s.size ∨ k < 0 ∨ (s.size : Int) < k) :
    Calls Tryd.prog 25 #[.string s, .int .i64 k] w fun e w' => e = .returned (.tuple #[.string ⟨#[]⟩, .bool false]) ∧ Below w.heap.size w w' := by
  by_cases h0 : 300 < s.size
  · have hd0 : decide ((300 : Int) < (s.size : Int)) = true := by simp; omega
    go_enter Tryd.func25, Tryd.ntmps25
    go_wp2
    go_ret2
    exact ⟨rfl, Below.refl _ _⟩
  · have hd0 : decide ((300 : Int) < (s.size : Int)) = false := by simp; omega
    by_cases h1 : k < 0
    · have hd1 : decide (k < 0) = true := by simpa using h1
      go_enter Tryd.func25, Tryd.ntmps25
      go_wp2
      go_ret2
      exact ⟨rfl, Below.refl _ _⟩
    · have hd1 : decide (k < 0) = false := by simpa using h1
      have hd2 : decide ((s.size : Int) < k) = true := by simp; omega
      go_enter Tryd.func25, Tryd.ntmps25
      go_wp2
      go_ret2
      exact ⟨rfl, Below.refl _ _⟩
set_option maxHeartbeats 1000000 in
theorem storn_any (s T X : ByteArray) (k : Nat) (w : World) (hs : s.size ≤ 300) (hk : k ≤ s.size) (A : List Rc × Nat)
    (hc1 : ∀ v, Sem.run Tryd.prog (Instr.slice 9 (.string s) none (some (.int .i64 (k : Int))) none) v = .ok (.string T) v)
    (hc2 : ∀ v, Sem.run Tryd.prog (Instr.slice 9 (.string s) none (some (.int .i64 (A.2 : Int))) none) v = .ok (.string X) v)
    (HC : Hid (∀ v, Calls Tryd.prog 34 #[.string T] v fun e w' => ∃ x, e = .returned (.tuple #[x, .int .i64 (A.2 : Int)]) ∧ w'.ownsRow v.heap.size 27 4 x A.1.length (rflat A.1) ∧ Below v.heap.size v w')) :
    Calls Tryd.prog 24 #[.string s, .int .i64 k] w fun e w' => e = .returned (.tuple #[.string X, .bool true]) ∧ Below w.heap.size w w' := by
  have hd0 : decide ((300 : Int) < (s.size : Int)) = false := by simp; omega
  go_enter Tryd.func24, Tryd.ntmps24
  go_wp2_with fail
  refine (l1In_yes _ _ _ _ (by omega) (by omega)).mono ?_
  rintro e w1 ⟨rfl, rfl⟩
  go_wp2_with fail
  refine (HC.out _).mono ?_
  rintro e w2 ⟨x, rfl, hown, b2⟩
  have HB : Hid (Below w1.heap.size w1 w2) := b2
  clear hown b2
  go_wp2
  go_ret2
  exact ⟨rfl, HB.out⟩
set_option maxHeartbeats 1000000 in
theorem itorn_any (s T X : ByteArray) (k : Nat) (w : World) (hs : s.size ≤ 300) (hk : k ≤ s.size) (A : List Rc × Nat)
    (hc1 : ∀ v, Sem.run Tryd.prog (Instr.slice 9 (.string s) none (some (.int .i64 (k : Int))) none) v = .ok (.string T) v)
    (hc2 : ∀ v, Sem.run Tryd.prog (Instr.slice 9 (.string s) none (some (.int .i64 (A.2 : Int))) none) v = .ok (.string X) v)
    (HC : Hid (Calls Tryd.prog 21 #[.string T] w fun e w' => ∃ x, e = .returned (.tuple #[x, .int .i64 (A.2 : Int), .bool true]) ∧ w'.ownsRow w.heap.size 27 4 x A.1.length (rflat A.1) ∧ Below w.heap.size w w'))
    (HJ : Hid (∀ v, Calls Tryd.prog 37 #[.string X, .string ⟨#[]⟩] v fun e w' => e = .returned (.string X) ∧ Below v.heap.size v w')) :
    Calls Tryd.prog 25 #[.string s, .int .i64 k] w fun e w' => e = .returned (.tuple #[.string X, .bool true]) ∧ Below w.heap.size w w' := by
  have hd0 : decide ((300 : Int) < (s.size : Int)) = false := by simp; omega
  have hd1 : decide ((k : Int) < 0) = false := by simp
  have hd2 : decide ((s.size : Int) < (k : Int)) = false := by simp; omega
  go_enter Tryd.func25, Tryd.ntmps25
  go_wp2_with fail
  refine (HC.out).mono ?_
  rintro e w2 ⟨x, rfl, hown, b2⟩
  have HB : Hid (Below w.heap.size w w2) := b2
  clear hown b2
  go_wp2_with fail
  refine (HJ.out _).mono ?_
  rintro e w3 ⟨rfl, b3⟩
  have HB3 : Hid (Below w.heap.size w w3) := HB.out.trans (b3.mono HB.out.size)
  clear b3
  go_wp2
  go_ret2
  exact ⟨rfl, HB3.out⟩
set_option maxHeartbeats 1000000 in
theorem law_TornSegment (s : ByteArray) (k : Int) (X : ByteArray) (ok : Bool) (w : World) (hs : s.size ≤ 1048576)
    (HS : Hid (∀ v, Below w.heap.size w v → Calls Tryd.prog 24 #[.string s, .int .i64 k] v fun e w' => e = .returned (.tuple #[.string X, .bool ok]) ∧ Below v.heap.size v w'))
    (HG : Hid (∀ v, Below w.heap.size w v → Calls Tryd.prog 25 #[.string s, .int .i64 k] v fun e w' => e = .returned (.tuple #[.string X, .bool ok]) ∧ Below v.heap.size v w')) :
    Calls Tryd.prog 7 #[.string s, .int .i64 k] w fun e w' => e = .returned (.bool true) ∧ Below w.heap.size w w' := by
  have hd0 : decide ((1048576 : Int) < (s.size : Int)) = false := by simp; omega
  go_enter Tryd.func7, Tryd.ntmps7
  go_wp2_with fail
  refine (HS.out _ (Below.refl _ _)).mono ?_
  rintro e w1 ⟨rfl, g1⟩
  have HB1 : Hid (Below w.heap.size w w1) := g1
  clear g1
  go_wp2_with fail
  refine (HG.out _ HB1.out).mono ?_
  rintro e w2 ⟨rfl, g2⟩
  have HB2 : Hid (Below w.heap.size w w2) := HB1.out.trans (g2.mono HB1.out.size)
  clear g2
  go_wp2
  go_ret
  exact ⟨rfl, HB2.out⟩
theorem walk_TornSegment (s : ByteArray) (k : Int) (w : World) (hT : Tab w) (hs : s.size ≤ maxLen) :
    Calls Tryd.prog 7 #[.string s, .int .i64 k] w fun e w' => e = .returned (.bool true) ∧ Below w.heap.size w w' := by
  by_cases hb : s.size ≤ 1048576
  case neg =>
    unfold maxLen at hs
    have hd0 : decide ((1048576 : Int) < (s.size : Int)) = true := by simp; omega
    go_enter Tryd.func7, Tryd.ntmps7
    go_wp2
    go_ret
    exact ⟨rfl, Below.refl _ _⟩
  by_cases hoff : 300 < s.size ∨ k < 0 ∨ (s.size : Int) < k
  · exact law_TornSegment s k ⟨#[]⟩ false w hb (fun v _ => storn_off s k v hoff) (fun v _ => itorn_off s k v hoff)
  obtain ⟨q, rfl⟩ : ∃ q : Nat, k = q := ⟨k.toNat, by omega⟩
  have hq : q ≤ s.size := by omega
  have hs3 : s.size ≤ 300 := by omega
  have hTs := ext_size s 0 q (by omega) hq
  have hA := allR_end (s.extract 0 q).data.toList
  rw [bytes_size] at hA
  have hc1 := fun v => cut_to s q (q : Int) rfl hq v
  have hc2 := fun v => cut_to s (allR (s.extract 0 q).data.toList).2 ((allR (s.extract 0 q).data.toList).2 : Int) rfl (by omega) v
  refine law_TornSegment s q _ true w hb (fun v _ => storn_any s _ _ q v hs3 hq _ hc1 hc2 (fun u => l3all_any _ u (by omega))) (fun v g => itorn_any s _ _ q v hs3 hq _ hc1 hc2 (iall_any _ v (hT.below g) (by omega)) (fun u => ?_))
  have := join_any (s.extract 0 (allR (s.extract 0 q).data.toList).2) ⟨#[]⟩ u (by rw [ByteArray.size_extract]; omega) (by decide)
  rw [show s.extract 0 (allR (s.extract 0 q).data.toList).2 ++ (⟨#[]⟩ : ByteArray) = s.extract 0 (allR (s.extract 0 q).data.toList).2 from ByteArray.append_empty] at this
  exact this
end Go.Proofs.YtbbnbkofomaefaaDoor
