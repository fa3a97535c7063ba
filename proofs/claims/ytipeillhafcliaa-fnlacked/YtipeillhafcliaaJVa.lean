/- ValueAt: the program and the model. -/
import Derived.Test.YtipeillhafcliaaJVal
namespace Go.Proofs.Ytipeillhafcliaa
set_option maxRecDepth 100000
open Go Go.ChangeShapes Go.WideShapes Go.ChangeAt Go.RowKit
def inX (x : Int) : Bool := decide (0 ≤ x ∧ x ≤ 60)
def vaOk (e : List Int) (x : Int) : Bool := goodN e && inX x
def vaV (e : List Int) (x : Int) : Int := bif vaOk e x then valE e x else 0
theorem vaV_yes {e : List Int} {x : Int} (h : vaOk e x = true) : vaV e x = valE e x := by unfold vaV; rw [h]; rfl
theorem vaV_no {e : List Int} {x : Int} (h : vaOk e x = false) : vaV e x = 0 := by unfold vaV; rw [h]; rfl
theorem inX_iff {x : Int} : inX x = true ↔ 0 ≤ x ∧ x ≤ 60 := by unfold inX; simp
set_option maxHeartbeats 1000000 in
theorem iValueAt_any (a : Option Addr) (cap : Nat) (l : List Int) (x : Int) (w : World) (hn : l.length ≤ 1048576) (hZ : Is w.heap.size a l w) :
    Calls Try.prog 21 #[.slice a l.length cap, .int .i64 x] w fun e w' => e = .returned (.tuple #[.int .i64 (vaV l x), .bool (vaOk l x)]) ∧ w' = w := by
  have HT := hid (goodTerms_any a cap l w hn hZ)
  cases hg : goodN l
  · have e1 : vaOk l x = false := by unfold vaOk; rw [hg]; rfl
    rw [vaV_no e1, e1]
    rw [hg] at HT
    go_enter Try.func21, Try.ntmps21
    go_wp2_with fail
    refine HT.out.mono ?_
    rintro e w2 ⟨rfl, hw2⟩
    rw [hw2]
    clear hw2
    go_wp2
    go_ret2
    exact ⟨rfl, rfl⟩
  rw [hg] at HT
  by_cases hx0 : 0 ≤ x
  case neg =>
    have e1 : vaOk l x = false := by unfold vaOk inX; rw [hg, decide_eq_false (by omega)]; rfl
    rw [vaV_no e1, e1]
    have d1 : decide (x < 0) = true := decide_eq_true (by omega)
    go_enter Try.func21, Try.ntmps21
    go_wp2_with fail
    refine HT.out.mono ?_
    rintro e w2 ⟨rfl, hw2⟩
    rw [hw2]
    clear hw2
    go_wp2
    go_ret2
    exact ⟨rfl, rfl⟩
  by_cases hx1 : x ≤ 60
  case neg =>
    have e1 : vaOk l x = false := by unfold vaOk inX; rw [hg, decide_eq_false (by omega)]; rfl
    rw [vaV_no e1, e1]
    have d1 : decide (x < 0) = false := decide_eq_false (by omega)
    have d2 : decide (60 < x) = true := decide_eq_true (by omega)
    go_enter Try.func21, Try.ntmps21
    go_wp2_with fail
    refine HT.out.mono ?_
    rintro e w2 ⟨rfl, hw2⟩
    rw [hw2]
    clear hw2
    go_wp2
    go_ret2
    exact ⟨rfl, rfl⟩
  have e1 : vaOk l x = true := by unfold vaOk; rw [hg, inX_iff.2 ⟨hx0, hx1⟩]; rfl
  rw [vaV_yes e1, e1]
  have HV := hid (valueAt_any a cap l x w hg hx0 hx1 hZ)
  have d1 : decide (x < 0) = false := decide_eq_false (by omega)
  have d2 : decide (60 < x) = false := decide_eq_false (by omega)
  clear hg e1
  generalize valE l x = v at *
  go_enter Try.func21, Try.ntmps21
  go_wp2_with fail
  refine HT.out.mono ?_
  rintro e w2 ⟨rfl, hw2⟩
  rw [hw2]
  clear hw2
  go_wp2_with fail
  refine HV.out.mono ?_
  rintro e w2 ⟨rfl, hw2⟩
  rw [hw2]
  clear hw2
  go_wp2
  go_ret2
  exact ⟨rfl, rfl⟩
set_option maxHeartbeats 1000000 in
theorem sValueAt_any (a : Option Addr) (cap : Nat) (l : List Int) (x : Int) (w : World) (hn : l.length ≤ 1048576) (hZ : Is w.heap.size a l w) :
    Calls Try.prog 28 #[.slice a l.length cap, .int .i64 x] w fun e w' => e = .returned (.tuple #[.int .i64 (vaV l x), .bool (vaOk l x)]) ∧ w' = w := by
  have HT := hid (l12Numbers_any a cap l w hn hZ)
  cases hg : goodN l
  · have e1 : vaOk l x = false := by unfold vaOk; rw [hg]; rfl
    rw [vaV_no e1, e1]
    rw [hg] at HT
    go_enter Try.func28, Try.ntmps28
    go_wp2_with fail
    refine HT.out.mono ?_
    rintro e w2 ⟨rfl, hw2⟩
    rw [hw2]
    clear hw2
    go_wp2
    go_ret2
    exact ⟨rfl, rfl⟩
  rw [hg] at HT
  by_cases hx : 0 ≤ x ∧ x ≤ 60
  case neg =>
    have e1 : vaOk l x = false := by unfold vaOk inX; rw [hg, decide_eq_false (by omega)]; rfl
    rw [vaV_no e1, e1]
    have h2 : x < 0 ∨ 60 < x := by omega
    clear hx
    go_enter Try.func28, Try.ntmps28
    go_wp2_with fail
    refine HT.out.mono ?_
    rintro e w2 ⟨rfl, hw2⟩
    rw [hw2]
    clear hw2
    go_wp2_with fail
    refine (l1In_no _ _ _ _ h2).mono ?_
    rintro e w2 ⟨rfl, hw2⟩
    rw [hw2]
    clear hw2
    go_wp2
    go_ret2
    exact ⟨rfl, rfl⟩
  obtain ⟨hx0, hx1⟩ := hx
  have e1 : vaOk l x = true := by unfold vaOk; rw [hg, inX_iff.2 ⟨hx0, hx1⟩]; rfl
  rw [vaV_yes e1, e1]
  have HV := hid (l12Value_any a cap l x w hg hx0 hx1 hZ)
  clear hg e1
  generalize valE l x = v at *
  go_enter Try.func28, Try.ntmps28
  go_wp2_with fail
  refine HT.out.mono ?_
  rintro e w2 ⟨rfl, hw2⟩
  rw [hw2]
  clear hw2
  go_wp2_with fail
  refine (l1In_yes _ _ _ _ hx0 hx1).mono ?_
  rintro e w2 ⟨rfl, hw2⟩
  rw [hw2]
  clear hw2
  go_wp2_with fail
  refine HV.out.mono ?_
  rintro e w2 ⟨rfl, hw2⟩
  rw [hw2]
  clear hw2
  go_wp2
  go_ret2
  exact ⟨rfl, rfl⟩
end Go.Proofs.Ytipeillhafcliaa
