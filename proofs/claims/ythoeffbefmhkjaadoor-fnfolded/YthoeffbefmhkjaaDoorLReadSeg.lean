/- The exact law of ReadSegment: its walk. -/
import Derived.Test.YthoeffbefmhkjaaDoorAllI
import Derived.Test.YthoeffbefmhkjaaDoorMarkR
namespace Go.Proofs.YthoeffbefmhkjaaDoor
set_option maxRecDepth 100000
open Go.ChangeShapes Go.WideShapes Go.ChangeAt Go.RowKit G00541
set_option maxHeartbeats 400000 in
theorem sseg_off (s : ByteArray) (w : World) (h : 300 < s.size) :
    Calls Tryd.prog 13 #[.string s] w fun e w' => e = .returned (.tuple #[.slice none 0 0, .int .i64 0, .bool false]) ∧ Below w.heap.size w w' := by
  have hd : decide ((300 : Int) < (s.size : Int)) = true := by simp; omega
  go_enter Tryd.func13, Tryd.ntmps13
  go_wp2
  refine bodyPost_ret (v := .tuple #[.slice none 0 0, .int .i64 0, .bool false]) (by simp [results, Tryd.results13, go_sem]) rfl ⟨rfl, Below.refl _ _⟩
set_option maxHeartbeats 400000 in
theorem iseg_off (s : ByteArray) (w : World) (h : 300 < s.size) :
    Calls Tryd.prog 8 #[.string s] w fun e w' => e = .returned (.tuple #[.slice none 0 0, .int .i64 0, .bool false]) ∧ Below w.heap.size w w' := by
  have hd : decide ((300 : Int) < (s.size : Int)) = true := by simp; omega
  go_enter Tryd.func8, Tryd.ntmps8
  go_wp2_with fail
  apply wp_scope_straight
  go_wp2
  simp only [Exit.noGoto]
  refine bodyPost_ret (v := .tuple #[.slice none 0 0, .int .i64 0, .bool false]) (by simp [results, Tryd.results8, go_sem]) rfl ⟨rfl, Below.refl _ _⟩
set_option maxHeartbeats 400000 in
theorem ssegm_any (s : ByteArray) (w : World) (hs : s.size ≤ 300) :
    Calls Tryd.prog 13 #[.string s] w fun e w' => ∃ v, e = .returned (.tuple #[v, .int .i64 ((allR s.data.toList).2 : Int), .bool true]) ∧ w'.ownsRow w.heap.size 36 4 v (allR s.data.toList).1.length (rflat (allR s.data.toList).1) ∧ Below w.heap.size w w' := by
  have hd : decide ((300 : Int) < (s.size : Int)) = false := by simp; omega
  have HC : Hid (∀ v, Calls Tryd.prog 37 #[.string s] v fun e w' => ∃ x, e = .returned (.tuple #[x, .int .i64 ((allR s.data.toList).2 : Int)]) ∧ w'.ownsRow v.heap.size 36 4 x (allR s.data.toList).1.length (rflat (allR s.data.toList).1) ∧ Below v.heap.size v w') := fun v => l3all_any s v hs
  generalize allR s.data.toList = A at *
  go_enter Tryd.func13, Tryd.ntmps13
  go_wp2_with fail
  refine (HC.out _).mono ?_
  rintro e w1 ⟨x, rfl, hown, b1⟩
  have HX : Hid (w1.ownsRow w.heap.size 36 4 x A.1.length (rflat A.1) ∧ Below w.heap.size w w1) := ⟨hown, b1⟩
  clear hown b1
  go_wp2
  refine bodyPost_ret (v := .tuple #[x, .int .i64 (A.2 : Int), .bool true]) (by simp [results, Tryd.results13, go_sem]) rfl ⟨x, rfl, HX.out.1, HX.out.2⟩
/-- function f answers the records V, the place p and ok of s, in memory of its own -/
def TellsSeg (f : Nat) (s : ByteArray) (V : List Rc) (p : Int) (ok : Bool) (P : World → Prop) : Prop := ∀ (w : World), P w →
  Calls Tryd.prog f #[.string s] w fun e w' => ∃ b c, e = .returned (.tuple #[.slice b V.length c, .int .i64 p, .bool ok]) ∧ OwnR w.heap.size w'.heap.size b V w' ∧ Below w.heap.size w w'
theorem allR_len (s : List UInt8) : (allR s).1.length ≤ s.length := by
  have key : ∀ f p, p ≤ s.length → p + (readsR s f p).1.length ≤ s.length := by
    intro f
    induction f with
    | zero => intro p hp; exact hp
    | succ f ih =>
      intro p hp
      cases hr : readR s p with
      | none => rw [readsR_none hr]; exact hp
      | some x =>
        obtain ⟨r, e⟩ := x
        rw [readsR_some hr]
        have h1 := readR_some hr
        have h2 := ih e h1.2.1
        show p + ((readsR s f e).1.length + 1) ≤ _
        omega
  have := key (s.length + 1) 0 (Nat.zero_le _)
  unfold allR
  omega
end Go.Proofs.YthoeffbefmhkjaaDoor
