/- The exact law of ReadSegment: its walk. -/
import Derived.Test.YtbbnbkofomaefaaDoorAllI
import Derived.Test.YtbbnbkofomaefaaDoorMarkR
namespace Go.Proofs.YtbbnbkofomaefaaDoor
set_option maxRecDepth 100000
open Go.ChangeShapes Go.WideShapes Go.ChangeAt Go.RowKit G00541
set_option maxHeartbeats 400000 in
theorem sseg_off (s : ByteArray) (w : World) (h : 300 < s.size) :
    Calls Tryd.prog 20 #[.string s] w fun e w' => e = .returned (.tuple #[.slice none 0 0, .int .i64 0, .bool false]) ∧ Below w.heap.size w w' := by
  have hd : decide ((300 : Int) < (s.size : Int)) = true := by simp; omega
  go_enter Tryd.func20, Tryd.ntmps20
  go_wp2
  refine bodyPost_ret (v := .tuple #[.slice none 0 0, .int .i64 0, .bool false]) (by simp [results, Tryd.results20, go_sem]) rfl ⟨rfl, Below.refl _ _⟩
set_option maxHeartbeats 400000 in
theorem iseg_off (s : ByteArray) (w : World) (h : 300 < s.size) :
    Calls Tryd.prog 21 #[.string s] w fun e w' => e = .returned (.tuple #[.slice none 0 0, .int .i64 0, .bool false]) ∧ Below w.heap.size w w' := by
  have hd : decide ((300 : Int) < (s.size : Int)) = true := by simp; omega
  go_enter Tryd.func21, Tryd.ntmps21
  go_wp2_with fail
  apply wp_scope_straight
  go_wp2
  simp only [Exit.noGoto]
  refine bodyPost_ret (v := .tuple #[.slice none 0 0, .int .i64 0, .bool false]) (by simp [results, Tryd.results21, go_sem]) rfl ⟨rfl, Below.refl _ _⟩
set_option maxHeartbeats 400000 in
theorem ssegm_any (s : ByteArray) (w : World) (hs : s.size ≤ 300) :
    Calls Tryd.prog 20 #[.string s] w fun e w' => ∃ v, e = .returned (.tuple #[v, .int .i64 ((allR s.data.toList).2 : Int), .bool true]) ∧ w'.ownsRow w.heap.size 27 4 v (allR s.data.toList).1.length (rflat (allR s.data.toList).1) ∧ Below w.heap.size w w' := by
  have hd : decide ((300 : Int) < (s.size : Int)) = false := by simp; omega
  have HC : Hid (∀ v, Calls Tryd.prog 34 #[.string s] v fun e w' => ∃ x, e = .returned (.tuple #[x, .int .i64 ((allR s.data.toList).2 : Int)]) ∧ w'.ownsRow v.heap.size 27 4 x (allR s.data.toList).1.length (rflat (allR s.data.toList).1) ∧ Below v.heap.size v w') := fun v => l3all_any s v hs
  generalize allR s.data.toList = A at *
  go_enter Tryd.func20, Tryd.ntmps20
  go_wp2_with fail
  refine (HC.out _).mono ?_
  rintro e w1 ⟨x, rfl, hown, b1⟩
  have HX : Hid (w1.ownsRow w.heap.size 27 4 x A.1.length (rflat A.1) ∧ Below w.heap.size w w1) := ⟨hown, b1⟩
  clear hown b1
  go_wp2
  refine bodyPost_ret (v := .tuple #[x, .int .i64 (A.2 : Int), .bool true]) (by simp [results, Tryd.results20, go_sem]) rfl ⟨x, rfl, HX.out.1, HX.out.2⟩
/-- function f answers the records V, the place p and ok of s, in memory of its own -/
def TellsSeg (f : Nat) (s : ByteArray) (V : List Rc) (p : Int) (ok : Bool) (P : World → Prop) : Prop := ∀ (w : World), P w →
  Calls Tryd.prog f #[.string s] w fun e w' => ∃ b c, e = .returned (.tuple #[.slice b V.length c, .int .i64 p, .bool ok]) ∧ OwnR w.heap.size w'.heap.size b V w' ∧ Below w.heap.size w w'
set_option maxHeartbeats 4000000 in
theorem law_ReadSegment (s : ByteArray) (V : List Rc) (p : Int) (ok : Bool) (w : World) (hs : s.size ≤ 1048576) (hV : V.length ≤ 1048576)
    (H9 : Hid (TellsSeg 20 s V p ok (fun v => Below w.heap.size w v))) (H11 : Hid (TellsSeg 21 s V p ok (fun v => Below w.heap.size w v))) :
    Calls Tryd.prog 6 #[.string s] w fun e w' => e = .returned (.bool true) ∧ Below w.heap.size w w' := by
  have hd0 : decide ((1048576 : Int) < (s.size : Int)) = false := by simp; omega
  go_enter Tryd.func6, Tryd.ntmps6
  go_wp2_with fail
  refine (H9.out _ (Below.refl _ _)).mono ?_
  rintro e w3 ⟨b3, c3, rfl, o3, g3⟩
  have HB3 : Hid (Below w.heap.size w w3) := g3
  have HW3 : Hid (OwnR w.heap.size w3.heap.size b3 V w3) := o3
  have s3 := g3.size
  clear o3 g3 H9
  go_wp2_with fail
  refine (H11.out _ HB3.out).mono ?_
  rintro e w5 ⟨b5, c5, rfl, o5, g5⟩
  have s5 := g5.size
  have HB5 : Hid (Below w.heap.size w w5) := HB3.out.trans (g5.mono HB3.out.size)
  have HW5 : Hid (OwnR w.heap.size w3.heap.size b3 V w5) := HW3.out.below g5
  have HG5 : Hid (OwnR w3.heap.size w5.heap.size b5 V w5) := o5
  clear o5 g5 HB3 HW3
  go_wp2_with fail
  refine (eqRecordS_same b5 b3 c5 c3 V _ hV HG5.out.rs HW5.out.rs).mono ?_
  rintro e w6 ⟨rfl, g6⟩
  have s6 := g6.size
  have HB6 : Hid (Below w.heap.size w w6) := HB5.out.trans (g6.mono HB5.out.size)
  have HW6 : Hid (OwnR w.heap.size w3.heap.size b3 V w6) := HW5.out.below g6
  have HG6 : Hid (OwnR w3.heap.size w5.heap.size b5 V w6) := HG5.out.below g6
  clear g6 HB5 HW5 HG5
  go_wp2_with fail
  refine (mark_ownR _ _ b5 c5 V _ hV HG6.out).mono ?_
  rintro e w7 ⟨rfl, o7, t7⟩
  have HB7 : Hid (Below w.heap.size w w7) := HB6.out.trans (t7.below (by omega) HB6.out.size)
  have HW7 : Hid (OwnR w.heap.size w3.heap.size b3 V w7) := HW6.out.out t7 (by omega)
  have HG7 : Hid (OwnR w3.heap.size w5.heap.size b5 (rmarks V.length 1) w7) := o7
  clear o7 t7 HB6 HW6 HG6
  have hm : decide (((1 + 4 * V.length : Nat) : Int) < 0) = false := by simp; omega
  go_wp2_with fail
  refine (held_ownR _ _ b5 c5 V.length _ hV HG7.out).mono ?_
  rintro e w8 ⟨rfl, g8⟩
  have HB8 : Hid (Below w.heap.size w w8) := HB7.out.trans (g8.mono HB7.out.size)
  have HW8 : Hid (OwnR w.heap.size w3.heap.size b3 V w8) := HW7.out.below g8
  have HG8 : Hid (OwnR w3.heap.size w5.heap.size b5 (rmarks V.length 1) w8) := HG7.out.below g8
  clear g8 HB7 HW7 HG7
  go_wp2_with fail
  refine (H11.out _ HB8.out).mono ?_
  rintro e w9 ⟨b9, c9, rfl, o9, g9⟩
  have HB9 : Hid (Below w.heap.size w w9) := HB8.out.trans (g9.mono HB8.out.size)
  have HW9 : Hid (OwnR w.heap.size w3.heap.size b3 V w9) := HW8.out.below g9
  have HG9 : Hid (OwnR w3.heap.size w5.heap.size b5 (rmarks V.length 1) w9) := HG8.out.below g9
  have HH9 : Hid (OwnR w8.heap.size w9.heap.size b9 V w9) := o9
  clear o9 g9 HB8 HW8 HG8
  go_wp2_with fail
  refine (eqRecordS_same b9 b3 c9 c3 V _ hV HH9.out.rs HW9.out.rs).mono ?_
  rintro e w10 ⟨rfl, g10⟩
  have HB10 : Hid (Below w.heap.size w w10) := HB9.out.trans (g10.mono HB9.out.size)
  have HG10 : Hid (OwnR w3.heap.size w5.heap.size b5 (rmarks V.length 1) w10) := HG9.out.below g10
  clear g10 HB9 HW9 HG9 HH9
  go_wp2_with fail
  refine (held_ownR _ _ b5 c5 V.length _ hV HG10.out).mono ?_
  rintro e w11 ⟨rfl, g11⟩
  have HB11 : Hid (Below w.heap.size w w11) := HB10.out.trans (g11.mono HB10.out.size)
  clear g11 HB10 HG10
  go_wp2
  go_ret
  exact ⟨rfl, HB11.out⟩
theorem allR_len (s : List UInt8) : (allR s).1.length ≤ s.length := by
  have key : ∀ f p, p ≤ s.length → p + (readsR s f p).1.length ≤ s.length := by
    intro f
    induction f with
    | zero => intro p hp; exact hp
    | succ f ih =>
      intro p hp
      cases hr : readR s p with
      | none => rw [readsR_none hr]; exact hp
      | some x =>
        obtain ⟨r, e⟩ := x
        rw [readsR_some hr]
        have h1 := readR_some hr
        have h2 := ih e h1.2.1
        show p + ((readsR s f e).1.length + 1) ≤ _
        omega
  have := key (s.length + 1) 0 (Nat.zero_le _)
  unfold allR
  omega
theorem walk_ReadSegment (s : ByteArray) (w : World) (hT : Tab w) (hs : s.size ≤ maxLen) :
    Calls Tryd.prog 6 #[.string s] w fun e w' => e = .returned (.bool true) ∧ Below w.heap.size w w' := by
  by_cases hb : s.size ≤ 1048576
  case neg =>
    unfold maxLen at hs
    have hd0 : decide ((1048576 : Int) < (s.size : Int)) = true := by simp; omega
    go_enter Tryd.func6, Tryd.ntmps6
    go_wp2
    go_ret
    exact ⟨rfl, Below.refl _ _⟩
  by_cases h3 : s.size ≤ 300
  · have hl := allR_len s.data.toList
    rw [bytes_size] at hl
    refine law_ReadSegment s (allR s.data.toList).1 (allR s.data.toList).2 true w hb (by omega) (fun v _ => (ssegm_any s v h3).mono ?_) (fun v g => (iall_any s v (hT.below g) h3).mono ?_)
    all_goals
      rintro e w' ⟨x, rfl, hown, hbel⟩
      obtain ⟨b, c, rfl, ho⟩ := own_recs hown rfl
      exact ⟨b, c, rfl, ho, hbel⟩
  · refine law_ReadSegment s [] 0 false w hb (by decide) (fun v _ => (sseg_off s v (by omega)).mono ?_) (fun v _ => (iseg_off s v (by omega)).mono ?_)
    all_goals
      rintro e w' ⟨rfl, hbel⟩
      exact ⟨none, 0, rfl, Or.inl rfl, hbel⟩
end Go.Proofs.YtbbnbkofomaefaaDoor
