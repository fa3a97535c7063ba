/- What makes a fence good, in plain Bools; the small functions of both sides. -/
import Derived.Test.YtikmkkklgdkpaaaFcW
import Derived.Test.YtikmkkklgdkpaaaFcMaj
import Derived.BigQuiet
import Derived.Deep.QuietTactic
namespace Go.Proofs.Ytikmkkklgdkpaaa
set_option maxRecDepth 100000
open Go Go.ChangeShapes Go.WideShapes Go.ChangeAt Go.RowKit
theorem val_b {a b : Bool} (h : a = b) : Value.bool a = .bool b := by rw [h]
def inB (lo hi x : Int) : Bool := decide (lo ≤ x) && decide (x ≤ hi)
theorem inB_yes {lo hi x : Int} (h1 : lo ≤ x) (h2 : x ≤ hi) : inB lo hi x = true := by unfold inB; rw [decide_eq_true h1, decide_eq_true h2]; rfl
theorem inB_no {lo hi x : Int} (h : x < lo ∨ hi < x) : inB lo hi x = false := by
  unfold inB
  rcases h with h | h
  · rw [decide_eq_false (by omega)]; rfl
  · rw [decide_eq_false (p := x ≤ hi) (by omega)]; simp
theorem inB_at {lo hi x : Int} (h : inB lo hi x = true) : lo ≤ x ∧ x ≤ hi := by unfold inB at h; simpa using h
def noB (x : Int) : Bool := inB 1 200 x
def plB (x : Int) : Bool := inB 0 1 x
def noOr (x : Int) : Bool := decide (x = 0) || noB x
def promB (n g : Int) : Bool := if n = 0 then decide (g = -1) else noB n && plB g
def jdOk (jd gv : List Int) : Bool := (judgesN jd.length && decide (gv.length = jd.length)) && (List.range jd.length).all fun k => promB (jd.getD k 0) (gv.getD k 0)
def plaOk (pl : List Int) (vt : List (List Int)) (m : Int) : Bool := (decide (pl.length = 2) && decide (vt.length = 2)) && (List.range 2).all fun k => noOr (pl.getD k 0) && votesV m (vt.getD k [])
def ppB (m : Int) (p : Pp) : Bool := if p.kd = 1 then plB p.fr && inB 0 (m - 1) p.tt && noB p.no else if p.kd = 2 then plB p.tt && inB 0 (m - 1) p.fr && noB p.no else false
def lnOk (ln : List Pp) (m : Int) : Bool := decide (ln.length ≤ 30) && ln.all (ppB m)
def prB (x : List Int) : Bool := decide (x.length = 2) && noB (x.getD 0 0) && plB (x.getD 1 0)
def prOk (L : List (List Int)) : Bool := decide (L.length ≤ 60) && L.all prB
/-- a fence that is good -/
def goodF (X : Fc) : Bool := jdOk X.jd X.gv && (plaOk X.pl X.vt X.jd.length && (lnOk X.ln X.jd.length && (prOk X.wn && (prOk X.st && noOr X.sn))))
theorem all_bad {α : Type} {L : List α} {p : α → Bool} {k : Nat} (h : k < L.length) (hb : p L[k] = false) : L.all p = false := by
  rw [List.all_eq_false]; exact ⟨L[k], List.getElem_mem h, by rw [hb]; decide⟩
theorem all_all {α : Type} {L : List α} {p : α → Bool} (h : ∀ j (hj : j < L.length), p L[j] = true) : L.all p = true := by
  rw [List.all_eq_true]; intro x hx
  obtain ⟨j, hj, rfl⟩ := List.getElem_of_mem hx
  exact h j hj
theorem all_at {α : Type} {L : List α} {p : α → Bool} (h : L.all p = true) (j : Nat) (hj : j < L.length) : p L[j] = true := by
  rw [List.all_eq_true] at h; exact h _ (List.getElem_mem hj)
theorem rng_bad {n : Nat} {p : Nat → Bool} {k : Nat} (h : k < n) (hb : p k = false) : (List.range n).all p = false := by
  rw [List.all_eq_false]; exact ⟨k, List.mem_range.2 h, by rw [hb]; decide⟩
theorem rng_all {n : Nat} {p : Nat → Bool} (h : ∀ j, j < n → p j = true) : (List.range n).all p = true := by
  rw [List.all_eq_true]; intro x hx; exact h x (List.mem_range.1 hx)
theorem rng_at {n : Nat} {p : Nat → Bool} (h : (List.range n).all p = true) (j : Nat) (hj : j < n) : p j = true := by
  rw [List.all_eq_true] at h; exact h _ (List.mem_range.2 hj)
theorem getD_in {α : Type} (l : List α) (k : Nat) (d : α) (h : k < l.length) : l.getD k d = l[k] := by
  rw [List.getD_eq_getElem?_getD, List.getElem?_eq_getElem h]; rfl
theorem l1In_b (x lo hi : Int) (w : World) : Calls Try.prog 34 #[.int .i64 x, .int .i64 lo, .int .i64 hi] w fun e w' => e = .returned (.bool (inB lo hi x)) ∧ w' = w := by
  by_cases h : lo ≤ x ∧ x ≤ hi
  · rw [inB_yes h.1 h.2]; exact l1In_yes _ _ _ _ h.1 h.2
  · rw [inB_no (by omega)]; exact l1In_no _ _ _ _ (by omega)
set_option maxHeartbeats 400000 in
theorem isNo_any (x : Int) (w : World) : Calls Try.prog 75 #[.int .i64 x] w fun e w' => e = .returned (.bool (noB x)) ∧ w' = w := by
  by_cases h1 : 1 ≤ x
  · by_cases h2 : x ≤ 200
    · have e : noB x = true := inB_yes h1 h2
      have d1 : decide ((1 : Int) ≤ x) = true := decide_eq_true h1
      have d2 : decide (x ≤ 200) = true := decide_eq_true h2
      rw [e]
      go_enter Try.func75, Try.ntmps75
      go_wp2
      go_ret
      exact ⟨rfl, rfl⟩
    · have e : noB x = false := inB_no (by omega)
      have d1 : decide ((1 : Int) ≤ x) = true := decide_eq_true h1
      have d2 : decide (x ≤ 200) = false := decide_eq_false h2
      rw [e]
      go_enter Try.func75, Try.ntmps75
      go_wp2
      go_ret
      exact ⟨rfl, rfl⟩
  · have e : noB x = false := inB_no (by omega)
    have d1 : decide ((1 : Int) ≤ x) = false := decide_eq_false h1
    rw [e]
    go_enter Try.func75, Try.ntmps75
    go_wp2
    go_ret
    exact ⟨rfl, rfl⟩
set_option maxHeartbeats 400000 in
theorem isPlace_any (x : Int) (w : World) : Calls Try.prog 67 #[.int .i64 x] w fun e w' => e = .returned (.bool (plB x)) ∧ w' = w := by
  by_cases h1 : 0 ≤ x
  · by_cases h2 : x < 2
    · have e : plB x = true := inB_yes h1 (by omega)
      have d1 : decide ((0 : Int) ≤ x) = true := decide_eq_true h1
      have d2 : decide (x < 2) = true := decide_eq_true h2
      rw [e]
      go_enter Try.func67, Try.ntmps67
      go_wp2
      go_ret
      exact ⟨rfl, rfl⟩
    · have e : plB x = false := inB_no (by omega)
      have d1 : decide ((0 : Int) ≤ x) = true := decide_eq_true h1
      have d2 : decide (x < 2) = false := decide_eq_false h2
      rw [e]
      go_enter Try.func67, Try.ntmps67
      go_wp2
      go_ret
      exact ⟨rfl, rfl⟩
  · have e : plB x = false := inB_no (by omega)
    have d1 : decide ((0 : Int) ≤ x) = false := decide_eq_false h1
    rw [e]
    go_enter Try.func67, Try.ntmps67
    go_wp2
    go_ret
    exact ⟨rfl, rfl⟩
set_option maxHeartbeats 400000 in
theorem isNoOr_any (x : Int) (w : World) : Calls Try.prog 60 #[.int .i64 x] w fun e w' => e = .returned (.bool (noOr x)) ∧ w' = w := by
  have HC := hid (isNo_any x w)
  by_cases h1 : x = 0
  · have e : noOr x = true := by unfold noOr; rw [decide_eq_true h1]; rfl
    have d1 : (x == 0) = true := beq_iff_eq.2 h1
    have d2 : decide (x = 0) = true := decide_eq_true h1
    rw [e]
    clear h1
    go_enter Try.func60, Try.ntmps60
    go_wp2
    go_ret
    exact ⟨rfl, rfl⟩
  · have e : noOr x = noB x := by unfold noOr; rw [decide_eq_false h1]; rfl
    have d1 : (x == 0) = false := beq_eq_false_iff_ne.2 h1
    have d2 : decide (x = 0) = false := decide_eq_false h1
    rw [e]
    clear e
    generalize noB x = b at *
    clear h1
    go_enter Try.func60, Try.ntmps60
    go_wp2_with fail
    refine HC.out.mono ?_
    rintro e w2 ⟨rfl, hw2⟩
    rw [hw2]
    clear hw2
    go_wp2_with fail
    go_ret
    exact ⟨rfl, rfl⟩
set_option maxHeartbeats 400000 in
theorem goodPromise_any (n g : Int) (w : World) : Calls Try.prog 72 #[.int .i64 n, .int .i64 g] w fun e w' => e = .returned (.bool (promB n g)) ∧ w' = w := by
  have HC := hid (isNo_any n w)
  have HD := hid (isPlace_any g w)
  by_cases h1 : n = 0
  · have e : promB n g = decide (g = -1) := by unfold promB; rw [if_pos h1]
    have d1 : (n == 0) = true := beq_iff_eq.2 h1
    have d2 : decide (n = 0) = true := decide_eq_true h1
    rw [e]
    clear h1 e
    by_cases h2 : g = -1
    · have d3 : (g == -1) = true := beq_iff_eq.2 h2
      have d4 : decide (g = -1) = true := decide_eq_true h2
      rw [d4]
      clear h2
      go_enter Try.func72, Try.ntmps72
      go_wp2
      go_ret
      exact ⟨rfl, rfl⟩
    · have d3 : (g == -1) = false := beq_eq_false_iff_ne.2 h2
      have d4 : decide (g = -1) = false := decide_eq_false h2
      rw [d4]
      clear h2
      go_enter Try.func72, Try.ntmps72
      go_wp2
      go_ret
      exact ⟨rfl, rfl⟩
  · have e : promB n g = (noB n && plB g) := by unfold promB; rw [if_neg h1]
    have d1 : (n == 0) = false := beq_eq_false_iff_ne.2 h1
    have d2 : decide (n = 0) = false := decide_eq_false h1
    rw [e]
    clear e h1
    generalize noB n = b at *
    generalize plB g = c at *
    go_enter Try.func72, Try.ntmps72
    go_wp2_with fail
    refine HC.out.mono ?_
    rintro e w2 ⟨rfl, hw2⟩
    rw [hw2]
    clear hw2
    cases b
    · go_wp2_with fail
      go_ret
      exact ⟨rfl, rfl⟩
    · go_wp2_with fail
      refine HD.out.mono ?_
      rintro e w2 ⟨rfl, hw2⟩
      rw [hw2]
      clear hw2
      go_wp2_with fail
      go_ret
      exact ⟨rfl, rfl⟩
set_option maxHeartbeats 1000000 in
theorem endsAsk_any (p : Pp) (w : World) : Calls Try.prog 97 #[.agg #[.int .i64 p.kd, .int .i64 p.fr, .int .i64 p.tt, .int .i64 p.no]] w fun e w' => e = .returned (.tuple #[.int .i64 p.fr, .int .i64 p.tt]) ∧ Below w.heap.size w w' := by
  have HB := hid (boxB w (.cells #[.int .i64 p.kd, .int .i64 p.fr, .int .i64 p.tt, .int .i64 p.no] 74))
  go_enter Try.func97, Try.ntmps97
  go_wp2_with fail
  go_quiet (fail)
  go_wp2_with fail
  go_ret2
  exact ⟨rfl, HB.out.trans ((belowN _ _).mono HB.out.size)⟩
set_option maxHeartbeats 1000000 in
theorem endsPromise_any (p : Pp) (w : World) : Calls Try.prog 98 #[.agg #[.int .i64 p.kd, .int .i64 p.fr, .int .i64 p.tt, .int .i64 p.no]] w fun e w' => e = .returned (.tuple #[.int .i64 p.tt, .int .i64 p.fr]) ∧ Below w.heap.size w w' := by
  have HB := hid (boxB w (.cells #[.int .i64 p.kd, .int .i64 p.fr, .int .i64 p.tt, .int .i64 p.no] 74))
  go_enter Try.func98, Try.ntmps98
  go_wp2_with fail
  go_quiet (fail)
  go_wp2_with fail
  go_ret2
  exact ⟨rfl, HB.out.trans ((belowN _ _).mono HB.out.size)⟩
end Go.Proofs.Ytikmkkklgdkpaaa
