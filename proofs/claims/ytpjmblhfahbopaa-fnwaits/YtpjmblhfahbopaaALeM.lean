/- The least way there is; plain. -/
import Derived.Test.YtpjmblhfahbopaaATrav
import Derived.Test.YtpjmblhfahbopaaASort
namespace Go.Proofs.Ytpjmblhfahbopaa
set_option maxRecDepth 100000
/-- the highest and the lowest of a start and tracks -/
def hiN : Int → List Int → Int
  | s, [] => s
  | s, x :: r => max s (hiN x r)
def loN : Int → List Int → Int
  | s, [] => s
  | s, x :: r => min s (loN x r)
theorem hi_snoc (t : Int) : ∀ (l : List Int) (s : Int), hiN s (l ++ [t]) = max (hiN s l) t
  | [], s => rfl
  | x :: r, s => by simp only [List.cons_append, hiN]; rw [hi_snoc t r x]; omega
theorem lo_snoc (t : Int) : ∀ (l : List Int) (s : Int), loN s (l ++ [t]) = min (loN s l) t
  | [], s => rfl
  | x :: r, s => by simp only [List.cons_append, loN]; rw [lo_snoc t r x]; omega
theorem hi_ge : ∀ (l : List Int) (s : Int), s ≤ hiN s l ∧ ∀ y ∈ l, y ≤ hiN s l
  | [], s => ⟨Int.le_refl _, fun _ h => by cases h⟩
  | x :: r, s => by
    have h := hi_ge r x
    simp only [hiN]
    refine ⟨by omega, fun y hy => ?_⟩
    rcases List.mem_cons.1 hy with rfl | hy
    · have := h.1; omega
    · have := h.2 y hy; omega
theorem lo_le : ∀ (l : List Int) (s : Int), loN s l ≤ s ∧ ∀ y ∈ l, loN s l ≤ y
  | [], s => ⟨Int.le_refl _, fun _ h => by cases h⟩
  | x :: r, s => by
    have h := lo_le r x
    simp only [loN]
    refine ⟨by omega, fun y hy => ?_⟩
    rcases List.mem_cons.1 hy with rfl | hy
    · have := h.1; omega
    · have := h.2 y hy; omega
theorem hi_mem : ∀ (l : List Int) (s : Int), hiN s l = s ∨ hiN s l ∈ l
  | [], s => Or.inl rfl
  | x :: r, s => by
    simp only [hiN]
    rcases Int.le_total s (hiN x r) with h | h
    · right
      rw [Int.max_eq_right h]
      rcases hi_mem r x with e | e
      · rw [e]; exact List.mem_cons_self
      · exact List.mem_cons_of_mem _ e
    · left; omega
theorem lo_mem : ∀ (l : List Int) (s : Int), loN s l = s ∨ loN s l ∈ l
  | [], s => Or.inl rfl
  | x :: r, s => by
    simp only [loN]
    rcases Int.le_total (loN x r) s with h | h
    · right
      rw [Int.min_eq_right h]
      rcases lo_mem r x with e | e
      · rw [e]; exact List.mem_cons_self
      · exact List.mem_cons_of_mem _ e
    · left; omega
theorem hi_congr {l m : List Int} (s : Int) (h : ∀ y, y ∈ l ↔ y ∈ m) : hiN s l = hiN s m := by
  have a := hi_ge l s; have b := hi_ge m s
  have c := hi_mem l s; have d := hi_mem m s
  apply Int.le_antisymm
  · rcases c with c | c
    · have := b.1; omega
    · exact b.2 _ ((h _).1 c)
  · rcases d with d | d
    · have := a.1; omega
    · exact a.2 _ ((h _).2 d)
theorem lo_congr {l m : List Int} (s : Int) (h : ∀ y, y ∈ l ↔ y ∈ m) : loN s l = loN s m := by
  have a := lo_le l s; have b := lo_le m s
  have c := lo_mem l s; have d := lo_mem m s
  apply Int.le_antisymm
  · rcases d with d | d
    · have := a.1; omega
    · exact a.2 _ ((h _).2 d)
  · rcases c with c | c
    · have := b.1; omega
    · exact b.2 _ ((h _).1 c)
/-- the least way -/
def costI (s : Int) (l : List Int) : Int := hiN s l - loN s l + min (hiN s l - s) (s - loN s l)
theorem cost_nonneg (s : Int) (l : List Int) : 0 ≤ costI s l := by
  have a := hi_ge l s; have b := lo_le l s
  unfold costI; omega
theorem cost_congr {l m : List Int} (s : Int) (h : ∀ y, y ∈ l ↔ y ∈ m) : costI s l = costI s m := by
  unfold costI; rw [hi_congr s h, lo_congr s h]
theorem cost_nil (s : Int) : costI s [] = 0 := by unfold costI; simp only [hiN, loN]; omega
/-- steps between two -/
def stepN (a b : Int) : Nat := upN a b + upN b a
theorem step_eq (a b : Int) : (stepN a b : Int) = max (a - b) (b - a) := by unfold stepN upN; omega
theorem cost_cons_le (s x : Int) (r : List Int) : costI s (x :: r) ≤ stepN s x + costI x r := by
  have a := hi_ge r x; have b := lo_le r x
  rw [step_eq]
  unfold costI
  simp only [hiN, loN]
  omega
theorem trav_cons (s x : Int) (r : List Int) : trav s (x :: r) = stepN s x + trav x r := by unfold trav stepN; simp only [ups, dns]; omega
theorem cost_le_trav : ∀ (l : List Int) (s : Int), costI s l ≤ trav s l
  | [], s => by rw [cost_nil]; omega
  | x :: r, s => by
    have h1 := cost_cons_le s x r
    have h2 := cost_le_trav r x
    rw [trav_cons]; omega
theorem erase_mem (l : List Int) (k : Nat) (h : k < l.length) (y : Int) : y ∈ l ↔ y ∈ l[k] :: l.eraseIdx k := by
  have : l.Perm (l[k] :: l.eraseIdx k) := by
    rw [List.eraseIdx_eq_take_drop_succ]
    have e : l = l.take k ++ l[k] :: l.drop (k + 1) := by
      rw [← List.drop_eq_getElem_cons h, List.take_append_drop]
    exact (List.Perm.of_eq e).trans List.perm_middle
  exact this.mem_iff
/-- what the k-th as the next one costs -/
def nextI (s : Int) (l : List Int) (k : Nat) : Int := stepN s (l.getD k 0) + costI (l.getD k 0) (l.eraseIdx k)
theorem getD_at (l : List Int) (k : Nat) (h : k < l.length) : l.getD k 0 = l[k] := by rw [List.getD_eq_getElem?_getD, List.getElem?_eq_getElem h]; rfl
theorem next_ge (s : Int) (l : List Int) (k : Nat) (h : k < l.length) : costI s l ≤ nextI s l k := by
  unfold nextI
  rw [getD_at l k h, cost_congr s (erase_mem l k h)]
  exact cost_cons_le _ _ _
theorem next_eq (s : Int) (l : List Int) (h0 : 0 < l.length) : ∃ k, k < l.length ∧ nextI s l k = costI s l := by
  cases l with
  | nil => exact absurd h0 (Nat.lt_irrefl _)
  | cons y r =>
    have hM : hiN y r ∈ y :: r := by
      rcases hi_mem r y with e | e
      · rw [e]; exact List.mem_cons_self
      · exact List.mem_cons_of_mem _ e
    have hm : loN y r ∈ y :: r := by
      rcases lo_mem r y with e | e
      · rw [e]; exact List.mem_cons_self
      · exact List.mem_cons_of_mem _ e
    have hge : ∀ z ∈ y :: r, z ≤ hiN y r := fun z hz => by
      rcases List.mem_cons.1 hz with rfl | hz
      · exact (hi_ge r _).1
      · exact (hi_ge r _).2 z hz
    have hle : ∀ z ∈ y :: r, loN y r ≤ z := fun z hz => by
      rcases List.mem_cons.1 hz with rfl | hz
      · exact (lo_le r _).1
      · exact (lo_le r _).2 z hz
    have key : ∀ k (hk : k < (y :: r).length), nextI s (y :: r) k = stepN s (y :: r)[k] + costI (y :: r)[k] ((y :: r).eraseIdx k) ∧
        hiN (y :: r)[k] ((y :: r).eraseIdx k) = hiN y r ∧ loN (y :: r)[k] ((y :: r).eraseIdx k) = loN y r := fun k hk => by
      refine ⟨by unfold nextI; rw [getD_at _ _ hk], ?_, ?_⟩
      · have a := hi_ge ((y :: r).eraseIdx k) (y :: r)[k]
        have c := hi_mem ((y :: r).eraseIdx k) (y :: r)[k]
        apply Int.le_antisymm
        · rcases c with c | c
          · rw [c]; exact hge _ (List.getElem_mem hk)
          · exact hge _ ((erase_mem _ k hk _).2 (List.mem_cons_of_mem _ c))
        · rcases List.mem_cons.1 ((erase_mem _ k hk _).1 hM) with e | e
          · rw [e]; exact a.1
          · exact a.2 _ e
      · have a := lo_le ((y :: r).eraseIdx k) (y :: r)[k]
        have c := lo_mem ((y :: r).eraseIdx k) (y :: r)[k]
        apply Int.le_antisymm
        · rcases List.mem_cons.1 ((erase_mem _ k hk _).1 hm) with e | e
          · rw [e]; exact a.1
          · exact a.2 _ e
        · rcases c with c | c
          · rw [c]; exact hle _ (List.getElem_mem hk)
          · exact hle _ ((erase_mem _ k hk _).2 (List.mem_cons_of_mem _ c))
    have hml := hle _ hM
    by_cases c : hiN y r ≤ s ∨ (s < hiN y r ∧ loN y r < s ∧ hiN y r - s ≤ s - loN y r)
    · obtain ⟨k, hk, e⟩ := List.getElem_of_mem hM
      obtain ⟨e1, e2, e3⟩ := key k hk
      refine ⟨k, hk, ?_⟩
      rw [e1, step_eq]
      unfold costI
      rw [e2, e3, e]
      simp only [hiN, loN]
      omega
    · obtain ⟨k, hk, e⟩ := List.getElem_of_mem hm
      obtain ⟨e1, e2, e3⟩ := key k hk
      refine ⟨k, hk, ?_⟩
      rw [e1, step_eq]
      unfold costI
      rw [e2, e3, e]
      simp only [hiN, loN]
      omega
/-- the best that the search has when k have been tried -/
structure Best (s : Int) (l : List Int) (more best : Int) (k : Nat) (b : Int) : Prop where
  le : b ≤ best
  all : ∀ j, j < k → b ≤ more + nextI s l j
  one : b = best ∨ ∃ j, j < k ∧ b = more + nextI s l j
theorem Best.start (s : Int) (l : List Int) (more best : Int) : Best s l more best 0 best := ⟨Int.le_refl _, fun _ h => absurd h (Nat.not_lt_zero _), Or.inl rfl⟩
theorem Best.step {s : Int} {l : List Int} {more best : Int} {k : Nat} {b : Int} (h : Best s l more best k b) : Best s l more best (k + 1) (min b (more + nextI s l k)) := by
  refine ⟨by have := h.le; omega, fun j hj => ?_, ?_⟩
  · by_cases e : j = k
    · subst e; omega
    · have := h.all j (by omega); omega
  · rcases Int.le_total b (more + nextI s l k) with c | c
    · rw [Int.min_eq_left c]
      rcases h.one with e | ⟨j, hj, e⟩
      · exact Or.inl e
      · exact Or.inr ⟨j, by omega, e⟩
    · exact Or.inr ⟨k, by omega, by rw [Int.min_eq_right c]⟩
theorem Best.done {s : Int} {l : List Int} {more best b : Int} (h : Best s l more best l.length b) (h0 : 0 < l.length) : b = min best (more + costI s l) := by
  obtain ⟨k, hk, e⟩ := next_eq s l h0
  have h1 := h.all k hk
  have h2 := h.le
  rcases h.one with e2 | ⟨j, hj, e2⟩
  · omega
  · have := next_ge s l j hj; omega
theorem cost_le (s : Int) (l : List Int) (hs : 0 ≤ s ∧ s ≤ 200) (h : ∀ x ∈ l, 0 ≤ x ∧ x ≤ 200) : costI s l ≤ 400 := by
  have a := hi_mem l s; have b := lo_mem l s
  have c := hi_ge l s; have d := lo_le l s
  have e1 : 0 ≤ hiN s l ∧ hiN s l ≤ 200 := by
    rcases a with a | a
    · rw [a]; exact hs
    · exact h _ a
  have e2 : 0 ≤ loN s l ∧ loN s l ≤ 200 := by
    rcases b with b | b
    · rw [b]; exact hs
    · exact h _ b
  unfold costI; omega
/-- both ways over both ends -/
theorem cost_two (s : Int) (l : List Int) : (trav s [hiN s l, loN s l] : Int) = (hiN s l - s) + (hiN s l - loN s l) ∧ (trav s [loN s l, hiN s l] : Int) = (s - loN s l) + (hiN s l - loN s l) ∧ costI s l = min (trav s [hiN s l, loN s l] : Int) (trav s [loN s l, hiN s l]) := by
  have c := hi_ge l s; have d := lo_le l s
  have h1 : (trav s [hiN s l, loN s l] : Int) = (hiN s l - s) + (hiN s l - loN s l) := by unfold trav; simp only [ups, dns]; unfold upN; omega
  have h2 : (trav s [loN s l, hiN s l] : Int) = (s - loN s l) + (hiN s l - loN s l) := by unfold trav; simp only [ups, dns]; unfold upN; omega
  refine ⟨h1, h2, ?_⟩
  rw [h1, h2]; unfold costI; omega
end Go.Proofs.Ytpjmblhfahbopaa
