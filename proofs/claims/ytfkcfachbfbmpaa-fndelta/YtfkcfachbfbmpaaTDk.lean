/- Parts of one's own that grow; withText, alikeLength, sumsAlong of the program. -/
import Derived.Test.YtfkcfachbfbmpaaTDp
import Derived.Test.YtfkcfachbfbmpaaTBs
import Derived.Test.YtfkcfachbfbmpaaPApp
import Derived.Test.YtfkcfachbfbmpaaShelf
import Derived.Test.YtfkcfachbfbmpaaTGd
import Derived.Deep.QuietTactic
import Derived.BigQuiet
namespace Go.Proofs.Ytfkcfachbfbmpaa
set_option maxRecDepth 100000
open Go Go.ChangeShapes Go.WideShapes Go.ChangeAt Go.RowKit
def KT : Kd Pt := ⟨25, 63, 3, tcells⟩
theorem KT.ok : KdOk KT := ⟨fun _ => rfl, fun x u hu => by
  rcases List.mem_cons.1 hu with rfl | hu
  · rfl
  · rcases List.mem_cons.1 hu with rfl | hu
    · rfl
    · obtain rfl := List.mem_singleton.1 hu
      rfl, by decide, Try.underlying25, by
  obtain ⟨i0, hi, hz0, hz1, hz2⟩ := info_parts infoPt
  exact ⟨i0, _, _, hi, hz0, hz1, hz2, rfl, by decide⟩⟩
theorem GL.parts {lo : Nat} {v : Value} {l : List Pt} {w : World} (h : GL KT lo v l w) : ∃ b c, v = .slice b l.length c ∧ OwnT lo w.heap.size b l w ∧ l.length ≤ c := h.own KT.ok
theorem GL.pushT {lo : Nat} {v : Value} {l : List Pt} {w : World} (h : GL KT lo v l w) (hlo : lo ≤ w.heap.size) (x : Pt) (hm : l.length + 1 ≤ 4194304) :
    ∃ v' w', (∀ ty, (Builtin.append_ #[25, 25] ty #[v, .slice (some ⟨w.heap.size, 0, none⟩) 1 1]).run Try.prog (w.alloc (.cells #[.int .i64 x.fr, .int .i64 x.lg, .string x.tx] 63)) = .ok v' w') ∧ GL KT lo v' (l ++ [x]) w' ∧ Below lo w w' := by
  obtain ⟨v', w', h1, h2, h3, _⟩ := h.push KT.ok hlo x hm
  exact ⟨v', w', h1, h2, h3⟩
/-- parts and a truth value, in memory of one's own -/
def TOut (V : List Pt) (ok : Bool) (w : World) (e : Ending) (w' : World) : Prop := ∃ b c, e = .returned (.tuple #[.slice b V.length c, .bool ok]) ∧ OwnT w.heap.size w'.heap.size b V w' ∧ Below w.heap.size w w'
theorem TOut.no {w w' : World} (g : Below w.heap.size w w') : TOut [] false w (.returned (.tuple #[.slice none 0 0, .bool false])) w' := ⟨none, 0, rfl, Or.inl rfl, g⟩
theorem TOut.yes {V : List Pt} {w w' : World} {v : Value} (h : GL KT w.heap.size v V w') (g : Below w.heap.size w w') : TOut V true w (.returned (.tuple #[v, .bool true])) w' := by
  obtain ⟨b, c, rfl, ho, _⟩ := h.parts
  exact ⟨b, c, rfl, ho, g⟩
set_option maxHeartbeats 400000 in
theorem clone_any (s : ByteArray) (w : World) (hs : s.size ≤ 281474976710656) :
    Calls Try.prog 54 #[.string s] w fun e w' => e = .returned (.string s) ∧ Below w.heap.size w w' := by
  go_enter Try.func54, Try.ntmps54
  go_wp2_with fail
  refine (Try.stringslite_Clone _ _ hs).mono ?_
  rintro e w1 ⟨rfl, hb⟩
  go_wp2
  go_ret
  exact ⟨rfl, hb⟩
theorem txtP_none {s : ByteArray} {i j : Nat} (h : ¬ i < j) : txtP s i j = [] := by unfold txtP; rw [if_neg h]
theorem txtP_some {s : ByteArray} {i j : Nat} (h : i < j) : txtP s i j = [⟨0, 0, s.extract i j⟩] := by unfold txtP; rw [if_pos h]
set_option maxHeartbeats 1000000 in
theorem withText_any (lo : Nat) (v : Value) (l : List Pt) (s : ByteArray) (i j : Nat) (w : World) (hij : i ≤ j) (hj : j ≤ s.size) (hs : s.size ≤ 1048576) (hl : l.length ≤ 4000) (hlo : lo ≤ w.heap.size) (h : GL KT lo v l w) :
    Calls Try.prog 36 #[v, .string (s.extract i j)] w fun e w' => ∃ v', e = .returned v' ∧ GL KT lo v' (l ++ txtP s i j) w' ∧ Below lo w w' := by
  have hz := ext_size s i j hij hj
  by_cases hlt : i < j
  · rw [txtP_some hlt]
    have hne := ba_some (D := s.extract i j) (by omega)
    have hz2 : (s.extract i j).size ≤ 1048576 := by omega
    clear hz
    generalize s.extract i j = D at *
    have HC := hid (fun v => clone_any D v (by omega))
    have HW := hid h
    clear h
    go_enter Try.func36, Try.ntmps36
    go_wp2_with fail
    refine (HC.out _).mono ?_
    rintro e w1 ⟨rfl, b1⟩
    have HB1 := hid (b1.mono hlo)
    obtain ⟨v', w', r1, o1, g1⟩ := (HW.out.below b1).pushT (Nat.le_trans hlo b1.size) ⟨0, 0, D⟩ (by omega)
    have HO := hid o1
    have HB2 := hid (HB1.out.trans g1)
    clear o1 g1 b1
    go_wp2_with (at_builtin; refine wpList_append_run rfl (.tmp 8) (.tmp 12) 25 rfl _ _ rfl rfl _ _ r1 ?_)
    go_ret
    exact ⟨_, rfl, HO.out, HB2.out⟩
  · rw [txtP_none hlt, List.append_nil]
    have e := ba_zero (D := s.extract i j) (by omega)
    rw [e]
    clear e hz
    have HW := hid h
    clear h
    go_enter Try.func36, Try.ntmps36
    go_wp2_with fail
    go_ret
    exact ⟨_, rfl, HW.out, Below.refl _ _⟩
end Go.Proofs.Ytfkcfachbfbmpaa
