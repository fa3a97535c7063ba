/- The nearest one that is left, again and again; plain. -/
import Derived.Test.YtpjmblhfahbopaaALeM
namespace Go.Proofs.Ytpjmblhfahbopaa
set_option maxRecDepth 100000
/-- v is the nearest of l, of as near ones the least -/
def IsNear (arm : Int) (l : List Int) (v : Int) : Prop := v ∈ l ∧ ∀ y ∈ l, stepN arm v < stepN arm y ∨ (stepN arm v = stepN arm y ∧ v ≤ y)
theorem IsNear.eq {arm : Int} {l m : List Int} {v u : Int} (h : IsNear arm l v) (g : IsNear arm m u) (p : l.Perm m) : v = u := by
  have h1 := h.2 u (p.mem_iff.2 g.1)
  have h2 := g.2 v (p.mem_iff.1 h.1)
  rcases h1 with h1 | h1 <;> rcases h2 with h2 | h2 <;> omega
/-- the order in which they are taken -/
inductive NearOrd : Int → List Int → List Int → Prop
  | nil (arm : Int) : NearOrd arm [] []
  | cons (arm : Int) (l : List Int) (v : Int) (r o : List Int) (h : IsNear arm l v) (p : l.Perm (v :: r)) (g : NearOrd v r o) : NearOrd arm l (v :: o)
theorem NearOrd.eq : ∀ {arm : Int} {l o : List Int}, NearOrd arm l o → ∀ {m u : List Int}, NearOrd arm m u → l.Perm m → o = u
  | _, _, _, .nil _, _, _, g, p => by
    cases g with
    | nil => rfl
    | cons _ _ v r o h q _ => exact absurd (p.length_eq.trans q.length_eq) (by simp)
  | _, _, _, .cons arm l v r o h q g, _, _, g', p => by
    cases g' with
    | nil => exact absurd (p.symm.length_eq.trans q.length_eq) (by simp)
    | cons _ m u r' o' h' q' g' =>
      obtain rfl := h.eq h' p
      have pr : r.Perm r' := List.Perm.cons_inv ((q.symm.trans p).trans q')
      rw [NearOrd.eq g g' pr]
theorem near_ex (arm : Int) : ∀ l : List Int, l ≠ [] → ∃ v, IsNear arm l v
  | [], h => absurd rfl h
  | [x], _ => ⟨x, List.mem_cons_self, fun y hy => by simp at hy; subst hy; exact Or.inr ⟨rfl, Int.le_refl _⟩⟩
  | x :: y :: r, _ => by
    obtain ⟨v, h1, h2⟩ := near_ex arm (y :: r) (by simp)
    by_cases c : stepN arm v < stepN arm x ∨ (stepN arm v = stepN arm x ∧ v ≤ x)
    · refine ⟨v, List.mem_cons_of_mem _ h1, fun z hz => ?_⟩
      rcases List.mem_cons.1 hz with rfl | hz
      · exact c
      · exact h2 z hz
    · refine ⟨x, List.mem_cons_self, fun z hz => ?_⟩
      rcases List.mem_cons.1 hz with rfl | hz
      · exact Or.inr ⟨rfl, Int.le_refl _⟩
      · have := h2 z hz; omega
theorem ord_ex : ∀ (n : Nat) (arm : Int) (l : List Int), l.length = n → ∃ o, NearOrd arm l o ∧ o.length = n
  | 0, arm, l, h => by
    obtain rfl := List.eq_nil_of_length_eq_zero h
    exact ⟨[], .nil arm, rfl⟩
  | n + 1, arm, l, h => by
    obtain ⟨v, hv⟩ := near_ex arm l (fun e => by rw [e] at h; cases h)
    obtain ⟨o, ho, hl⟩ := ord_ex n v (l.erase v) (by rw [List.length_erase_of_mem hv.1]; omega)
    exact ⟨v :: o, .cons arm l v _ o hv (List.perm_cons_erase hv.1) ho, by simp [hl]⟩
theorem perm_erase (l : List Int) (k : Nat) (h : k < l.length) : l.Perm (l[k] :: l.eraseIdx k) := by
  rw [List.eraseIdx_eq_take_drop_succ]
  have e : l = l.take k ++ l[k] :: l.drop (k + 1) := by
    rw [← List.drop_eq_getElem_cons h, List.take_append_drop]
  exact (List.Perm.of_eq e).trans List.perm_middle
/-- how far the taking has come: d are taken, the arm is at m, r are left -/
structure NSt (s : Int) (l : List Int) (d : List Int) (m : Int) (r : List Int) : Prop where
  all : ∀ o, NearOrd m r o → NearOrd s l (d ++ o)
  mem : ∀ x ∈ r, x ∈ l
  armIn : m = s ∨ m ∈ l
  len : d.length + r.length = l.length
theorem NSt.start {s : Int} {l r : List Int} (p : l.Perm r) (H : ∀ o, NearOrd s r o → NearOrd s l o) : NSt s l [] s r := ⟨fun o h => H o h, fun _ hx => p.mem_iff.2 hx, Or.inl rfl, by simp [p.length_eq]⟩
theorem ord_perm {arm : Int} {l m o : List Int} (p : l.Perm m) (h : NearOrd arm m o) : NearOrd arm l o := by
  cases h with
  | nil =>
    have : l = [] := List.eq_nil_of_length_eq_zero (by simpa using p.length_eq)
    subst this; exact .nil arm
  | cons _ _ v r o h q g => exact .cons arm l v r o ⟨p.mem_iff.2 h.1, fun y hy => h.2 y (p.mem_iff.1 hy)⟩ (p.trans q) g
theorem NSt.step {s : Int} {l d : List Int} {m : Int} {r : List Int} (h : NSt s l d m r) (k : Nat) (hk : k < r.length) (hn : IsNear m r r[k]) : NSt s l (d ++ [r[k]]) r[k] (r.eraseIdx k) := by
  refine ⟨fun o ho => ?_, fun x hx => h.mem x (List.mem_of_mem_eraseIdx hx), Or.inr (h.mem _ (List.getElem_mem hk)), ?_⟩
  · rw [List.append_assoc]
    exact h.all _ (.cons m r r[k] _ o hn (perm_erase r k hk) ho)
  · have := h.len
    rw [List.length_append, List.length_eraseIdx, if_pos hk]
    simp; omega
theorem NSt.done {s : Int} {l d : List Int} {m : Int} (h : NSt s l d m []) : NearOrd s l d := by
  have := h.all [] (.nil m)
  rwa [List.append_nil] at this
/-- the first of the nearest up to place j -/
structure NFst (arm : Int) (l : List Int) (j k : Nat) : Prop where
  lt : k < l.length
  le : ∀ i (h : i < l.length), i < j → stepN arm l[k] ≤ stepN arm l[i]
  first : ∀ i (h : i < l.length), i < k → stepN arm l[k] < stepN arm l[i]
theorem NFst.start {arm : Int} {l : List Int} (h : 0 < l.length) : NFst arm l 0 0 := ⟨h, fun _ _ h => absurd h (Nat.not_lt_zero _), fun _ _ h => absurd h (Nat.not_lt_zero _)⟩
theorem NFst.stay {arm : Int} {l : List Int} {j k : Nat} (h : NFst arm l j k) (hj : j < l.length) (hn : ¬ stepN arm l[j] < stepN arm (l[k]'h.lt)) : NFst arm l (j + 1) k := by
  refine ⟨h.lt, fun i hi hij => ?_, h.first⟩
  by_cases e : i = j
  · subst e; omega
  · exact h.le i hi (by omega)
theorem NFst.move {arm : Int} {l : List Int} {j k : Nat} (h : NFst arm l j k) (hj : j < l.length) (hn : stepN arm l[j] < stepN arm (l[k]'h.lt)) : NFst arm l (j + 1) j := by
  refine ⟨hj, fun i hi hij => ?_, fun i hi hij => ?_⟩
  · by_cases e : i = j
    · subst e; omega
    · have := h.le i hi (by omega); omega
  · have := h.le i hi (by omega); omega
theorem NFst.near {arm : Int} {l : List Int} {k : Nat} (h : NFst arm l l.length k) (hs : l.Pairwise (· ≤ ·)) : IsNear arm l (l[k]'h.lt) := by
  refine ⟨List.getElem_mem h.lt, fun y hy => ?_⟩
  obtain ⟨i, hi, rfl⟩ := List.getElem_of_mem hy
  have h1 := h.le i hi hi
  by_cases c : stepN arm (l[k]'h.lt) < stepN arm l[i]
  · exact Or.inl c
  · refine Or.inr ⟨by omega, ?_⟩
    rcases Nat.lt_trichotomy i k with e | e | e
    · have := h.first i hi e; omega
    · subst e; exact Int.le_refl _
    · exact List.pairwise_iff_getElem.1 hs k i h.lt hi e
/-- the best up to place j -/
structure NBst (arm : Int) (l : List Int) (j k : Nat) : Prop where
  lt : k < l.length
  le : ∀ i (h : i < l.length), i < j → stepN arm l[k] < stepN arm l[i] ∨ (stepN arm l[k] = stepN arm l[i] ∧ l[k] ≤ l[i])
theorem NBst.start {arm : Int} {l : List Int} (h : 0 < l.length) : NBst arm l 0 0 := ⟨h, fun _ _ h => absurd h (Nat.not_lt_zero _)⟩
theorem NBst.stay {arm : Int} {l : List Int} {j k : Nat} (h : NBst arm l j k) (hj : j < l.length) (hn : ¬ (stepN arm l[j] < stepN arm (l[k]'h.lt) ∨ (stepN arm l[j] = stepN arm (l[k]'h.lt) ∧ l[j] < l[k]'h.lt))) : NBst arm l (j + 1) k := by
  refine ⟨h.lt, fun i hi hij => ?_⟩
  by_cases e : i = j
  · subst e; omega
  · exact h.le i hi (by omega)
theorem NBst.move {arm : Int} {l : List Int} {j k : Nat} (h : NBst arm l j k) (hj : j < l.length) (hn : stepN arm l[j] < stepN arm (l[k]'h.lt) ∨ (stepN arm l[j] = stepN arm (l[k]'h.lt) ∧ l[j] < l[k]'h.lt)) : NBst arm l (j + 1) j := by
  refine ⟨hj, fun i hi hij => ?_⟩
  by_cases e : i = j
  · subst e; exact Or.inr ⟨rfl, Int.le_refl _⟩
  · have := h.le i hi (by omega); omega
theorem NBst.near {arm : Int} {l : List Int} {k : Nat} (h : NBst arm l l.length k) : IsNear arm l (l[k]'h.lt) := by
  refine ⟨List.getElem_mem h.lt, fun y hy => ?_⟩
  obtain ⟨i, hi, rfl⟩ := List.getElem_of_mem hy
  exact h.le i hi hi
/-- how long a slice's value is -/
def lenV : Go.Value → Nat
  | .slice _ n _ => n
  | _ => 0
end Go.Proofs.Ytpjmblhfahbopaa
