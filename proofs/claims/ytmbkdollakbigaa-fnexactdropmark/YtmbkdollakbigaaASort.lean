/- Lists in order; plain. -/
namespace Go.Proofs.Ytmbkdollakbigaa
set_option maxRecDepth 100000
/-- a number put behind all that are not greater -/
def insN (n : Int) : List Int → List Int
  | [] => [n]
  | x :: r => if x ≤ n then x :: insN n r else n :: x :: r
/-- how many lead that are not greater -/
def leadN (n : Int) : List Int → Nat
  | [] => 0
  | x :: r => if x ≤ n then leadN n r + 1 else 0
theorem leadN_le (n : Int) : ∀ l : List Int, leadN n l ≤ l.length
  | [] => Nat.le_refl _
  | x :: r => by
    simp only [leadN, List.length_cons]
    split
    · have := leadN_le n r; omega
    · omega
theorem insN_lead (n : Int) : ∀ l : List Int, insN n l = l.take (leadN n l) ++ n :: l.drop (leadN n l)
  | [] => rfl
  | x :: r => by
    simp only [insN, leadN]
    split
    · rw [insN_lead n r]; rfl
    · rfl
/-- the first that is greater stands at leadN -/
theorem leadN_at (n : Int) : ∀ (l : List Int) (k : Nat), k ≤ leadN n l → (∀ j (h : j < l.length), j < k → l[j] ≤ n) ∧ (k < leadN n l → ∃ h : k < l.length, l[k] ≤ n) ∧ (k = leadN n l → ∀ h : k < l.length, n < l[k])
  | [], k, hk => ⟨fun j h => absurd h (Nat.not_lt_zero _), fun h => absurd h (Nat.not_lt_zero _), fun _ h => absurd h (Nat.not_lt_zero _)⟩
  | x :: r, k, hk => by
    simp only [leadN] at hk ⊢
    by_cases hx : x ≤ n
    · rw [if_pos hx] at hk ⊢
      cases k with
      | zero => exact ⟨fun j _ h => absurd h (Nat.not_lt_zero _), fun _ => ⟨Nat.zero_lt_succ _, hx⟩, fun h => absurd h (by omega)⟩
      | succ k =>
        obtain ⟨h1, h2, h3⟩ := leadN_at n r k (by omega)
        refine ⟨fun j hj hjk => ?_, fun h => ?_, fun h hl => ?_⟩
        · cases j with
          | zero => exact hx
          | succ j => exact h1 j (by simpa using hj) (by omega)
        · obtain ⟨h4, h5⟩ := h2 (by omega)
          exact ⟨by simpa using h4, by simpa using h5⟩
        · exact h3 (by omega) (by simpa using hl)
    · rw [if_neg hx] at hk ⊢
      have : k = 0 := by omega
      subst this
      exact ⟨fun j _ h => absurd h (Nat.not_lt_zero _), fun h => absurd h (by omega), fun _ _ => by show n < x; omega⟩
theorem insN_perm (n : Int) : ∀ l : List Int, (insN n l).Perm (n :: l)
  | [] => List.Perm.refl _
  | x :: r => by
    simp only [insN]
    split
    · exact ((insN_perm n r).cons x).trans (List.Perm.swap n x r)
    · exact List.Perm.refl _
theorem insN_sorted (n : Int) : ∀ l : List Int, l.Pairwise (· ≤ ·) → (insN n l).Pairwise (· ≤ ·)
  | [], _ => by simp [insN]
  | x :: r, h => by
    rw [List.pairwise_cons] at h
    simp only [insN]
    split
    · rename_i hx
      rw [List.pairwise_cons]
      refine ⟨fun y hy => ?_, insN_sorted n r h.2⟩
      rcases List.mem_cons.1 ((insN_perm n r).mem_iff.1 hy) with rfl | hy
      · exact hx
      · exact h.1 y hy
    · rename_i hx
      rw [List.pairwise_cons, List.pairwise_cons]
      refine ⟨fun y hy => ?_, h⟩
      rcases List.mem_cons.1 hy with rfl | hy
      · omega
      · have := h.1 y hy; omega
/-- numbers in order -/
def sortN (l : List Int) : List Int := l.foldl (fun o n => insN n o) []
theorem sortN_snoc (l : List Int) (n : Int) : sortN (l ++ [n]) = insN n (sortN l) := by simp [sortN, List.foldl_append]
theorem fold_perm : ∀ (l o : List Int), (l.foldl (fun o n => insN n o) o).Perm (l ++ o)
  | [], o => List.Perm.refl _
  | x :: r, o => by
    rw [List.foldl_cons]
    refine (fold_perm r (insN x o)).trans ?_
    exact (List.Perm.append_left r (insN_perm x o)).trans List.perm_middle
theorem sortN_perm (l : List Int) : (sortN l).Perm l := by
  have := fold_perm l []
  rwa [List.append_nil] at this
theorem fold_sorted : ∀ (l o : List Int), o.Pairwise (· ≤ ·) → (l.foldl (fun o n => insN n o) o).Pairwise (· ≤ ·)
  | [], _, h => h
  | x :: r, o, h => fold_sorted r _ (insN_sorted x o h)
theorem sortN_sorted (l : List Int) : (sortN l).Pairwise (· ≤ ·) := fold_sorted l [] List.Pairwise.nil
theorem sorted_eq {a b : List Int} (ha : a.Pairwise (· ≤ ·)) (hb : b.Pairwise (· ≤ ·)) (h : a.Perm b) : a = b :=
  h.eq_of_pairwise (fun _ _ _ _ h1 h2 => Int.le_antisymm h1 h2) ha hb
theorem merge_eq (l : List Int) : (l.mergeSort fun x y => decide (x ≤ y)) = sortN l := by
  refine sorted_eq ?_ (sortN_sorted l) ((List.mergeSort_perm l _).trans (sortN_perm l).symm)
  have := List.pairwise_mergeSort (le := fun x y : Int => decide (x ≤ y)) (fun a b c h1 h2 => by simp only [decide_eq_true_eq] at *; omega) (fun a b => by simp only [Bool.or_eq_true, decide_eq_true_eq]; omega) l
  exact this.imp (fun h => of_decide_eq_true h)
theorem sortN_len (l : List Int) : (sortN l).length = l.length := (sortN_perm l).length_eq
theorem sortN_mem {l : List Int} {x : Int} : x ∈ sortN l ↔ x ∈ l := (sortN_perm l).mem_iff
theorem sortN_filter (p : Int → Bool) (l : List Int) : (sortN l).filter p = sortN (l.filter p) :=
  sorted_eq ((sortN_sorted l).filter _) (sortN_sorted _) (((sortN_perm l).filter p).trans (sortN_perm _).symm)
/-- those of the first way down, and the others -/
def lowB (s : Int) (up : Bool) (n : Int) : Bool := decide (n < s) || (decide (n = s) && !up)
def sweepL (s : Int) (l : List Int) (up : Bool) : List Int :=
  if up then (sortN l).filter (fun n => !lowB s up n) ++ ((sortN l).filter (lowB s up)).reverse else ((sortN l).filter (lowB s up)).reverse ++ (sortN l).filter (fun n => !lowB s up n)
theorem sweepL_perm (s : Int) (l : List Int) (up : Bool) : (sweepL s l up).Perm l := by
  have h : ((sortN l).filter (lowB s up) ++ (sortN l).filter (fun n => !lowB s up n)).Perm l := (List.filter_append_perm (lowB s up) (sortN l)).trans (sortN_perm l)
  unfold sweepL
  cases up
  · exact (List.Perm.append_right _ (List.reverse_perm _)).trans h
  · exact ((List.Perm.append_left _ (List.reverse_perm _)).trans List.perm_append_comm).trans h
theorem sweepL_len (s : Int) (l : List Int) (up : Bool) : (sweepL s l up).length = l.length := (sweepL_perm s l up).length_eq
theorem sweepL_mem {s : Int} {l : List Int} {up : Bool} {x : Int} : x ∈ sweepL s l up ↔ x ∈ l := (sweepL_perm s l up).mem_iff
def roundL (s : Int) (l : List Int) : List Int := (sortN l).filter (fun n => !decide (n < s)) ++ (sortN l).filter (fun n => decide (n < s))
theorem roundL_perm (s : Int) (l : List Int) : (roundL s l).Perm l := by
  unfold roundL
  exact (List.perm_append_comm.trans (List.filter_append_perm (fun n => decide (n < s)) (sortN l))).trans (sortN_perm l)
theorem roundL_len (s : Int) (l : List Int) : (roundL s l).length = l.length := (roundL_perm s l).length_eq
end Go.Proofs.Ytmbkdollakbigaa
