/- The better sweep is the least way; plain. -/
import Derived.Test.YtpjmblhfahbopaaANeM
import Derived.Test.YtpjmblhfahbopaaABst
namespace Go.Proofs.Ytpjmblhfahbopaa
set_option maxRecDepth 100000
theorem arm_app : ∀ (A B : List Int) (s : Int), armAt s (A ++ B) = armAt (armAt s A) B
  | [], _, _ => rfl
  | x :: r, B, s => by simp only [List.cons_append, armAt]; exact arm_app r B x
theorem trav_app : ∀ (A B : List Int) (s : Int), trav s (A ++ B) = trav s A + trav (armAt s A) B
  | [], B, s => by simp [trav, ups, dns, armAt]
  | x :: r, B, s => by
    rw [List.cons_append, trav_cons, trav_cons, trav_app r B x]
    simp only [armAt]; omega
/-- up along rising ones -/
theorem trav_rise : ∀ (A : List Int) (s : Int), A.Pairwise (· ≤ ·) → (∀ x ∈ A, s ≤ x) → (trav s A : Int) = hiN s A - s ∧ armAt s A = hiN s A
  | [], s, _, _ => by simp [trav, ups, dns, hiN, armAt]
  | x :: r, s, h, g => by
    rw [List.pairwise_cons] at h
    have hs := g x (List.mem_cons_self)
    obtain ⟨i1, i2⟩ := trav_rise r x h.2 h.1
    have hx := (hi_ge r x).1
    have hst := step_eq s x
    constructor
    · rw [trav_cons]; simp only [hiN]; omega
    · simp only [armAt, hiN]; rw [i2]; omega
/-- down along falling ones -/
theorem trav_fall : ∀ (A : List Int) (s : Int), A.Pairwise (· ≥ ·) → (∀ x ∈ A, x ≤ s) → (trav s A : Int) = s - loN s A ∧ armAt s A = loN s A
  | [], s, _, _ => by simp [trav, ups, dns, loN, armAt]
  | x :: r, s, h, g => by
    rw [List.pairwise_cons] at h
    have hs := g x (List.mem_cons_self)
    obtain ⟨i1, i2⟩ := trav_fall r x h.2 h.1
    have hx := (lo_le r x).1
    have hst := step_eq s x
    constructor
    · rw [trav_cons]; simp only [loN]; omega
    · simp only [armAt, loN]; rw [i2]; omega
theorem pair_rev {l : List Int} (h : l.Pairwise (· ≤ ·)) : l.reverse.Pairwise (· ≥ ·) := List.pairwise_reverse.2 h
theorem hi_in (s : Int) (l A : List Int) (h : ∀ x ∈ A, x ∈ l) : hiN s A ≤ hiN s l := by
  rcases hi_mem A s with e | e
  · rw [e]; exact (hi_ge l s).1
  · exact (hi_ge l s).2 _ (h _ e)
theorem lo_in (s m : Int) (l A : List Int) (h : ∀ x ∈ A, x ∈ l) (hm : loN s l ≤ m) : loN s l ≤ loN m A := by
  rcases lo_mem A m with e | e
  · rw [e]; exact hm
  · exact (lo_le l s).2 _ (h _ e)
theorem lo_in0 (s : Int) (l A : List Int) (h : ∀ x ∈ A, x ∈ l) : loN s l ≤ loN s A := lo_in s s l A h (lo_le l s).1
theorem hi_in2 (s m : Int) (l A : List Int) (h : ∀ x ∈ A, x ∈ l) (hm : m ≤ hiN s l) : hiN m A ≤ hiN s l := by
  rcases hi_mem A m with e | e
  · rw [e]; exact hm
  · exact (hi_ge l s).2 _ (h _ e)
theorem sweep_up_trav (s : Int) (l : List Int) : (trav s (sweepL s l true) : Int) ≤ (hiN s l - s) + (hiN s l - loN s l) := by
  rw [sweep_up_eq, trav_app]
  have a1 := trav_rise (sortN (l.filter fun x => decide (s ≤ x))) s (sortN_sorted _) (fun x hx => by
    have := (List.mem_filter.1 (sortN_mem.1 hx)).2; simpa using this)
  have m1 : ∀ x ∈ sortN (l.filter fun x => decide (s ≤ x)), x ∈ l := fun x hx => (List.mem_filter.1 (sortN_mem.1 hx)).1
  have m2 : ∀ x ∈ (sortN (l.filter fun x => !decide (s ≤ x))).reverse, x ∈ l := fun x hx => (List.mem_filter.1 (sortN_mem.1 (List.mem_reverse.1 hx))).1
  have h0 := (hi_ge (sortN (l.filter fun x => decide (s ≤ x))) s).1
  have a2 := trav_fall (sortN (l.filter fun x => !decide (s ≤ x))).reverse (armAt s (sortN (l.filter fun x => decide (s ≤ x)))) (pair_rev (sortN_sorted _)) (fun x hx => by
    have := (List.mem_filter.1 (sortN_mem.1 (List.mem_reverse.1 hx))).2
    rw [a1.2]
    simp at this; omega)
  have h1 := hi_in s l _ m1
  have hl := (lo_le l s).1
  have h2 := lo_in s (armAt s (sortN (l.filter fun x => decide (s ≤ x)))) l _ m2 (by rw [a1.2]; omega)
  rw [a1.2] at a2 h2
  have e1 := a1.1
  have e2 := a2.1
  rw [a1.2]
  omega
theorem sweep_down_trav (s : Int) (l : List Int) : (trav s (sweepL s l false) : Int) ≤ (s - loN s l) + (hiN s l - loN s l) := by
  rw [sweep_down_eq, trav_app]
  have a1 := trav_fall (sortN (l.filter fun x => decide (x ≤ s))).reverse s (pair_rev (sortN_sorted _)) (fun x hx => by
    have := (List.mem_filter.1 (sortN_mem.1 (List.mem_reverse.1 hx))).2; simpa using this)
  have m1 : ∀ x ∈ (sortN (l.filter fun x => decide (x ≤ s))).reverse, x ∈ l := fun x hx => (List.mem_filter.1 (sortN_mem.1 (List.mem_reverse.1 hx))).1
  have m2 : ∀ x ∈ sortN (l.filter fun x => !decide (x ≤ s)), x ∈ l := fun x hx => (List.mem_filter.1 (sortN_mem.1 hx)).1
  have h0 := (lo_le (sortN (l.filter fun x => decide (x ≤ s))).reverse s).1
  have a2 := trav_rise (sortN (l.filter fun x => !decide (x ≤ s))) (armAt s (sortN (l.filter fun x => decide (x ≤ s))).reverse) (sortN_sorted _) (fun x hx => by
    have := (List.mem_filter.1 (sortN_mem.1 hx)).2
    rw [a1.2]
    simp at this; omega)
  have h1 := lo_in0 s l _ m1
  have hl := (hi_ge l s).1
  have h2 := hi_in2 s (armAt s (sortN (l.filter fun x => decide (x ≤ s))).reverse) l _ m2 (by rw [a1.2]; omega)
  rw [a1.2] at a2 h2
  have e1 := a1.1
  have e2 := a2.1
  rw [a1.2]
  omega
/-- Denning: the better sweep is the least way -/
theorem best_least (s : Int) (l : List Int) : (trav s (bestL s l) : Int) = costI s l := by
  have hu := cost_le_trav (sweepL s l true) s
  have hd := cost_le_trav (sweepL s l false) s
  rw [← cost_congr s (fun y => (sweepL_mem (s := s) (l := l) (up := true) (x := y)).symm)] at hu
  rw [← cost_congr s (fun y => (sweepL_mem (s := s) (l := l) (up := false) (x := y)).symm)] at hd
  have tu := sweep_up_trav s l
  have td := sweep_down_trav s l
  have hc : costI s l = hiN s l - loN s l + min (hiN s l - s) (s - loN s l) := rfl
  cases hb : downB s l
  · rw [bestL_up hb]
    unfold downB at hb
    have := of_decide_eq_false hb
    omega
  · rw [bestL_down hb]
    unfold downB at hb
    have := of_decide_eq_true hb
    omega
theorem bestL_mem {s : Int} {l : List Int} {x : Int} : x ∈ bestL s l ↔ x ∈ l := by
  unfold bestL; split <;> exact sweepL_mem
theorem near_perm : ∀ {arm : Int} {l o : List Int}, NearOrd arm l o → o.Perm l
  | _, _, _, .nil _ => List.Perm.refl _
  | _, _, _, .cons _ _ v _ _ _ q g => ((near_perm g).cons v).trans q.symm
theorem good_perm {s : Int} {l m : List Int} (h : goodT s l = true) (hl : m.length = l.length) (hm : ∀ x ∈ m, x ∈ l) : goodT s m = true := by
  have hp := goodT_parts h
  unfold goodT
  rw [trkB_iff.2 hp.1, goodA_of (by rw [hl]; exact goodA_len hp.2) (fun x hx => goodA_mem hp.2 x (hm x hx))]
  rfl
theorem near_cost {s : Int} {l o : List Int} (h : NearOrd s l o) : costI s l ≤ trav s o := by
  have := cost_le_trav o s
  rwa [cost_congr s (fun y => (near_perm h).mem_iff (a := y))] at this
end Go.Proofs.Ytpjmblhfahbopaa
