/- A sweep turns once at most; waits rise; plain. -/
import Derived.Test.YtpjmblhfahbopaaASwM
import Derived.Test.YtpjmblhfahbopaaAWait
namespace Go.Proofs.Ytpjmblhfahbopaa
set_option maxRecDepth 100000
/-- how often it has turned, where it is, which way it goes -/
structure Tn where
  turns : Nat
  arm : Int
  up : Bool
/-- the next one turns it -/
def turnB (t : Tn) (n : Int) : Bool := !(n == t.arm) && (decide (t.arm < n) != t.up)
def stepT (t : Tn) (n : Int) : Tn := if turnB t n then ⟨t.turns + 1, n, !t.up⟩ else ⟨t.turns, n, t.up⟩
def runT (t : Tn) (l : List Int) : Tn := l.foldl stepT t
theorem runT_snoc (t : Tn) (l : List Int) (n : Int) : runT t (l ++ [n]) = stepT (runT t l) n := by simp [runT]
theorem runT_app (t : Tn) (a b : List Int) : runT t (a ++ b) = runT (runT t a) b := by simp [runT]
theorem stepT_le (t : Tn) (n : Int) : (stepT t n).turns ≤ t.turns + 1 := by unfold stepT; split <;> simp
theorem runT_le : ∀ (l : List Int) (t : Tn), (runT t l).turns ≤ t.turns + l.length
  | [], t => by simp [runT]
  | x :: r, t => by
    have h := runT_le r (stepT t x)
    have g := stepT_le t x
    show (runT (stepT t x) r).turns ≤ _
    rw [List.length_cons]; omega
/-- rising ones, going up: no turn -/
theorem runT_rise : ∀ (A : List Int) (t : Tn), t.up = true → A.Pairwise (· ≤ ·) → (∀ x ∈ A, t.arm ≤ x) → runT t A = ⟨t.turns, armAt t.arm A, true⟩
  | [], ⟨_, _, _⟩, h, _, _ => by simp only at h; subst h; rfl
  | x :: r, t, h, p, g => by
    rw [List.pairwise_cons] at p
    have hx := g x (List.mem_cons_self)
    have e : stepT t x = ⟨t.turns, x, true⟩ := by
      unfold stepT turnB
      rw [h]
      by_cases c : x = t.arm
      · simp [c]
      · have : t.arm < x := by omega
        simp [this]
    show runT (stepT t x) r = _
    rw [e, runT_rise r ⟨t.turns, x, true⟩ rfl p.2 p.1]
    rfl
theorem runT_fall : ∀ (A : List Int) (t : Tn), t.up = false → A.Pairwise (· ≥ ·) → (∀ x ∈ A, x ≤ t.arm) → runT t A = ⟨t.turns, armAt t.arm A, false⟩
  | [], ⟨_, _, _⟩, h, _, _ => by simp only at h; subst h; rfl
  | x :: r, t, h, p, g => by
    rw [List.pairwise_cons] at p
    have hx := g x (List.mem_cons_self)
    have e : stepT t x = ⟨t.turns, x, false⟩ := by
      unfold stepT turnB
      rw [h]
      have : ¬ t.arm < x := by omega
      simp [this]
    show runT (stepT t x) r = _
    rw [e, runT_fall r ⟨t.turns, x, false⟩ rfl p.2 p.1]
    rfl
theorem runT_rise1 (A : List Int) (t : Tn) (p : A.Pairwise (· ≤ ·)) (g : ∀ x ∈ A, t.arm ≤ x) : (runT t A).turns ≤ t.turns + 1 := by
  cases hu : t.up
  · induction A generalizing t with
    | nil => simp [runT]
    | cons x r ih =>
      rw [List.pairwise_cons] at p
      have hx := g x (List.mem_cons_self)
      by_cases c : x = t.arm
      · have e : stepT t x = ⟨t.turns, x, false⟩ := by
          unfold stepT turnB
          rw [hu]; simp [c]
        show (runT (stepT t x) r).turns ≤ _
        rw [e]
        exact ih ⟨t.turns, x, false⟩ p.2 p.1 rfl
      · have e : stepT t x = ⟨t.turns + 1, x, true⟩ := by
          unfold stepT turnB
          rw [hu]
          have : t.arm < x := by omega
          simp [this, c]
        show (runT (stepT t x) r).turns ≤ _
        rw [e, runT_rise r ⟨t.turns + 1, x, true⟩ rfl p.2 p.1]
        exact Nat.le_refl _
  · rw [runT_rise A t hu p g]; simp
theorem runT_fall1 (A : List Int) (t : Tn) (p : A.Pairwise (· ≥ ·)) (g : ∀ x ∈ A, x ≤ t.arm) : (runT t A).turns ≤ t.turns + 1 := by
  cases hu : t.up
  · rw [runT_fall A t hu p g]; simp
  · induction A generalizing t with
    | nil => simp [runT]
    | cons x r ih =>
      rw [List.pairwise_cons] at p
      have hx := g x (List.mem_cons_self)
      by_cases c : x = t.arm
      · have e : stepT t x = ⟨t.turns, x, true⟩ := by
          unfold stepT turnB
          rw [hu]; simp [c]
        show (runT (stepT t x) r).turns ≤ _
        rw [e]
        exact ih ⟨t.turns, x, true⟩ p.2 p.1 rfl
      · have e : stepT t x = ⟨t.turns + 1, x, false⟩ := by
          unfold stepT turnB
          rw [hu]
          have : ¬ t.arm < x := by omega
          simp [this, c]
        show (runT (stepT t x) r).turns ≤ _
        rw [e, runT_fall r ⟨t.turns + 1, x, false⟩ rfl p.2 p.1]
        exact Nat.le_refl _
/-- a sweep turns once at most -/
theorem sweep_turns (s : Int) (l : List Int) (up : Bool) : (runT ⟨0, s, up⟩ (sweepL s l up)).turns ≤ 1 := by
  cases up
  · rw [sweep_down_eq, runT_app]
    have a0 : ∀ x ∈ (sortN (l.filter fun x => decide (x ≤ s))).reverse, x ≤ s := fun x hx => by
      have := (List.mem_filter.1 (sortN_mem.1 (List.mem_reverse.1 hx))).2; simpa using this
    rw [runT_fall _ ⟨0, s, false⟩ rfl (pair_rev (sortN_sorted _)) a0]
    have a1 := (trav_fall _ s (pair_rev (sortN_sorted _)) a0).2
    have h0 := (lo_le (sortN (l.filter fun x => decide (x ≤ s))).reverse s).1
    refine runT_rise1 _ _ (sortN_sorted _) (fun x hx => ?_)
    have := (List.mem_filter.1 (sortN_mem.1 hx)).2
    show armAt s _ ≤ x
    rw [a1]
    simp at this; omega
  · rw [sweep_up_eq, runT_app]
    have a0 : ∀ x ∈ sortN (l.filter fun x => decide (s ≤ x)), s ≤ x := fun x hx => by
      have := (List.mem_filter.1 (sortN_mem.1 hx)).2; simpa using this
    rw [runT_rise _ ⟨0, s, true⟩ rfl (sortN_sorted _) a0]
    have a1 := (trav_rise _ s (sortN_sorted _) a0).2
    have h0 := (hi_ge (sortN (l.filter fun x => decide (s ≤ x))) s).1
    refine runT_fall1 _ _ (pair_rev (sortN_sorted _)) (fun x hx => ?_)
    have := (List.mem_filter.1 (sortN_mem.1 (List.mem_reverse.1 hx))).2
    show x ≤ armAt s _
    rw [a1]
    simp at this; omega
theorem trav_snoc (s : Int) (l : List Int) (t : Int) : trav s l ≤ trav s (l ++ [t]) := by rw [trav_app]; omega
theorem waits_at (s : Int) (l : List Int) (n k : Nat) (h : k < (waitsL s l n).length) : (waitsL s l n)[k] = (trav s (l.take (k + 1)) : Int) := by simp [waitsL]
theorem waits_rise (s : Int) (l : List Int) (k : Nat) (h : k + 1 < l.length) : (trav s (l.take (k + 1)) : Int) ≤ (trav s (l.take (k + 1 + 1)) : Int) := by
  have := trav_snoc s (l.take (k + 1)) l[k + 1]
  rw [← List.take_succ_eq_append_getElem h] at this
  omega
end Go.Proofs.Ytpjmblhfahbopaa
