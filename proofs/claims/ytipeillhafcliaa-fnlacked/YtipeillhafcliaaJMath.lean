/- Newton and Girard for at most four numbers. -/
import Derived.Test.YtipeillhafcliaaJLack
namespace Go.Proofs.Ytipeillhafcliaa
set_option maxRecDepth 100000
open Go
def prodD (x : Int) : List Int → Int
  | [] => 1
  | t :: l => (x - t) * prodD x l
theorem prodD_zero (x : Int) : ∀ l : List Int, prodD x l = 0 ↔ x ∈ l
  | [] => by simp [prodD]
  | t :: l => by
    show (x - t) * prodD x l = 0 ↔ _
    rw [Int.mul_eq_zero, prodD_zero x l, List.mem_cons]
    constructor
    · rintro (h | h)
      · exact Or.inl (by omega)
      · exact Or.inr h
    · rintro (h | h)
      · exact Or.inl (by omega)
      · exact Or.inr h
theorem four (T : List Int) (h : T.length ≤ 4) : T = [] ∨ (∃ a, T = [a]) ∨ (∃ a b, T = [a, b]) ∨ (∃ a b c, T = [a, b, c]) ∨ ∃ a b c d, T = [a, b, c, d] := by
  match T, h with
  | [], _ => exact Or.inl rfl
  | [a], _ => exact Or.inr (Or.inl ⟨a, rfl⟩)
  | [a, b], _ => exact Or.inr (Or.inr (Or.inl ⟨a, b, rfl⟩))
  | [a, b, c], _ => exact Or.inr (Or.inr (Or.inr (Or.inl ⟨a, b, c, rfl⟩)))
  | [a, b, c, d], _ => exact Or.inr (Or.inr (Or.inr (Or.inr ⟨a, b, c, d, rfl⟩)))
  | _ :: _ :: _ :: _ :: _ :: l, h => simp at h
theorem val_prod (T : List Int) (h : T.length ≤ 4) (x : Int) : valE (symT T T.length) x = prodD x T := by
  rcases four T h with rfl | ⟨a, rfl⟩ | ⟨a, b, rfl⟩ | ⟨a, b, c, rfl⟩ | ⟨a, b, c, d, rfl⟩
  · rfl
  · simp [symT, List.range_succ, sym, symR, valE, valF, prodD]; grind
  · simp [symT, List.range_succ, sym, symR, valE, valF, prodD]; grind
  · simp [symT, List.range_succ, sym, symR, valE, valF, prodD]; grind
  · simp [symT, List.range_succ, sym, symR, valE, valF, prodD]; grind
theorem newton (T : List Int) (h : T.length ≤ 4) (k : Nat) (hk : k < T.length) : nsI (symL T k) (powL T T.length) (k + 1) (k + 1) = ((k : Int) + 1) * sym T (k + 1) := by
  rcases four T h with rfl | ⟨a, rfl⟩ | ⟨a, b, rfl⟩ | ⟨a, b, c, rfl⟩ | ⟨a, b, c, d, rfl⟩
  · exact absurd hk (Nat.not_lt_zero _)
  · obtain rfl : k = 0 := by simp at hk; omega
    simp [symL, powL, psum, List.range_succ, sym, symR, nsI]; grind
  · have : k = 0 ∨ k = 1 := by simp at hk; omega
    rcases this with rfl | rfl
    · simp [symL, powL, psum, List.range_succ, sym, symR, nsI]; grind
    · simp [symL, powL, psum, List.range_succ, sym, symR, nsI]; grind
  · have : k = 0 ∨ k = 1 ∨ k = 2 := by simp at hk; omega
    rcases this with rfl | rfl | rfl
    · simp [symL, powL, psum, List.range_succ, sym, symR, nsI]; grind
    · simp [symL, powL, psum, List.range_succ, sym, symR, nsI]; grind
    · simp [symL, powL, psum, List.range_succ, sym, symR, nsI]; grind
  · have : k = 0 ∨ k = 1 ∨ k = 2 ∨ k = 3 := by simp at hk; omega
    rcases this with rfl | rfl | rfl | rfl
    · simp [symL, powL, psum, List.range_succ, sym, symR, nsI]; grind
    · simp [symL, powL, psum, List.range_succ, sym, symR, nsI]; grind
    · simp [symL, powL, psum, List.range_succ, sym, symR, nsI]; grind
    · simp [symL, powL, psum, List.range_succ, sym, symR, nsI]; grind
/-- numbers of 1 to 60 -/
def in60 (T : List Int) : Prop := ∀ x ∈ T, 1 ≤ x ∧ x ≤ 60
theorem sym_term (T : List Int) (h : T.length ≤ 4) (hT : in60 T) (k : Nat) (hk : k ≤ T.length) : -1000000000 ≤ sym T k ∧ sym T k ≤ 1000000000 := by
  have hf : few60 T := ⟨by omega, fun j hj => hT _ (List.getElem_mem hj)⟩
  obtain ⟨h1, h2, h3, _⟩ := sym_bnd hf T.length (Nat.le_refl _)
  rw [List.take_length] at h1 h2 h3
  have : k = 0 ∨ k = 1 ∨ k = 2 ∨ k = 3 ∨ k = 4 := by omega
  rcases this with rfl | rfl | rfl | rfl | rfl
  · rw [sym_zero]; omega
  · omega
  · omega
  · omega
  · rcases four T h with rfl | ⟨a, rfl⟩ | ⟨a, b, rfl⟩ | ⟨a, b, c, rfl⟩ | ⟨a, b, c, d, rfl⟩
    · simp at hk
    · simp at hk
    · simp at hk
    · simp at hk
    · have ha := hT a (by simp)
      have hb := hT b (by simp)
      have hc := hT c (by simp)
      have hd := hT d (by simp)
      have m1 := mul60' (v := a) (x := b) (M := 60) (by omega) ha.2 (by omega) hb.2
      have m2 := mul60' (v := a * b) (x := c) (M := 3600) m1.1 m1.2 (by omega) hc.2
      have m3 := mul60' (v := a * b * c) (x := d) (M := 216000) m2.1 m2.2 (by omega) hd.2
      have e : sym [a, b, c, d] 4 = a * b * c * d := by simp [sym, symR]; grind
      rw [e]
      omega
theorem symL_snoc (T : List Int) (k : Nat) : symL T (k + 1) = symL T k ++ [sym T (k + 1)] := by
  unfold symL
  rw [List.range_succ (n := k + 1), List.map_append]
  rfl
theorem elE_sym (T : List Int) (h : T.length ≤ 4) (hT : in60 T) : ∀ k, k ≤ T.length → elE (powL T T.length) k = some (symL T k)
  | 0, _ => by
    show some [1] = some (symL T 0)
    rw [symL_cons]; rfl
  | k + 1, hk => by
    have ih := elE_sym T h hT k (by omega)
    have hn := newton T h k (by omega)
    have hk0 : ((k : Int) + 1) ≠ 0 := by omega
    have e1 : (nsI (symL T k) (powL T T.length) (k + 1) (k + 1)).tmod ((k : Int) + 1) = 0 := by rw [hn]; exact Int.mul_tmod_right _ _
    have e2 : (nsI (symL T k) (powL T T.length) (k + 1) (k + 1)).tdiv ((k : Int) + 1) = sym T (k + 1) := by rw [hn]; exact Int.mul_tdiv_cancel_left _ hk0
    have e3 := elE_on ih e1 (by rw [e2]; exact termB_iff.2 (sym_term T h hT (k + 1) hk))
    rw [e3, e2, symL_snoc]
theorem pow_good (T : List Int) (h : T.length ≤ 4) (hT : in60 T) (n : Nat) (hn : n ≤ 4) : goodN (powL T n) = true := by
  refine goodN_of (by rw [powL_len]; exact hn) fun x hx => ?_
  unfold powL at hx
  obtain ⟨k, hk, rfl⟩ := List.mem_map.1 hx
  have hk' := List.mem_range.1 hk
  have hf : few60 T := ⟨by omega, fun j hj => hT _ (List.getElem_mem hj)⟩
  have := psum_bnd hf (k := k + 1) (by omega) T.length (Nat.le_refl _)
  rw [List.take_length] at this
  omega
theorem pow_good20 (T : List Int) (hf : few60 T) (n : Nat) (hn : n ≤ 4) : goodN (powL T n) = true := by
  refine goodN_of (by rw [powL_len]; exact hn) fun x hx => ?_
  unfold powL at hx
  obtain ⟨k, hk, rfl⟩ := List.mem_map.1 hx
  have hk' := List.mem_range.1 hk
  have := psum_bnd hf (k := k + 1) (by omega) T.length (Nat.le_refl _)
  rw [List.take_length] at this
  have := hf.1
  omega
theorem sym_good (T : List Int) (h : T.length ≤ 4) (hT : in60 T) : goodN (symT T T.length) = true := by
  refine goodN_of (by rw [symT_len]; exact h) fun x hx => ?_
  unfold symT at hx
  obtain ⟨k, hk, rfl⟩ := List.mem_map.1 hx
  exact sym_term T h hT (k + 1) (List.mem_range.1 hk)
/-- sums of products come of sums of powers -/
theorem elem_pow (T : List Int) (h : T.length ≤ 4) (hT : in60 T) : elemOk (powL T T.length) = true ∧ elemV (powL T T.length) = symT T T.length := by
  have h1 := elE_sym T h hT T.length (Nat.le_refl _)
  have h2 : elE (powL T T.length) (powL T T.length).length = some (symL T T.length) := by rw [powL_len]; exact h1
  have h3 := elem_yes (pow_good T h hT T.length h) h2
  rw [symL_cons] at h3
  exact h3
theorem rising_ext {l m : List Int} (hl : l.Pairwise (fun a b => a < b)) (hm : m.Pairwise (fun a b => a < b)) (h : ∀ x, x ∈ l ↔ x ∈ m) : l = m :=
  List.Perm.eq_of_pairwise (le := fun a b : Int => a < b) (fun a b _ _ h1 h2 => by omega) hl hm ((List.perm_ext_iff_of_nodup (rising_nodup hl) (rising_nodup hm)).2 h)
/-- the roots are the numbers themselves -/
theorem roots_sym (T : List Int) (h : T.length ≤ 4) (hT : in60 T) (hr : T.Pairwise (fun a b => a < b)) : rootOk (symT T T.length) = true ∧ rootV (symT T T.length) = T := by
  have e : rootsN (symT T T.length) 60 = T := by
    refine rising_ext (rootsN_rising _ _) hr fun x => ?_
    unfold rootsN
    rw [List.mem_filter, nums_mem, decide_eq_true_eq, val_prod T h x, prodD_zero]
    exact ⟨fun g => g.2, fun g => ⟨by have := hT x g; omega, g⟩⟩
  have h1 : rootOk (symT T T.length) = true := by
    rw [rootOk_as (sym_good T h hT), e, symT_len]
    exact decide_eq_true rfl
  exact ⟨h1, by rw [rootV_yes h1, e]⟩
theorem goodS_in {l : List Int} (h : goodS l = true) : in60 l := fun x hx => by
  obtain ⟨j, hj, rfl⟩ := List.getElem_of_mem hx
  exact (goodS_few h).2 j hj
theorem upB_of : ∀ (l : List Int) (lo : Int), (∀ x ∈ l, lo < x ∧ x ≤ 60) → l.Pairwise (fun a b => a < b) → upB lo l = true
  | [], _, _, _ => rfl
  | y :: l, lo, h, hp => by
    have h1 := h y (by simp)
    rw [List.pairwise_cons] at hp
    show ((decide (lo < y) && decide (y ≤ 60)) && upB y l) = true
    rw [decide_eq_true h1.1, decide_eq_true h1.2, upB_of l y (fun x hx => ⟨hp.1 x hx, (h x (by simp [hx])).2⟩) hp.2]
    rfl
theorem goodS_of {l : List Int} (h : l.length ≤ 20) (hi : in60 l) (hr : l.Pairwise (fun a b => a < b)) : goodS l = true := by
  unfold goodS
  rw [decide_eq_true h, upB_of l 0 (fun x hx => by have := hi x hx; omega) hr]
  rfl
/-- of the first k numbers those that P tells -/
def sel (l : List Int) (P : Nat → Bool) : Nat → List Int
  | 0 => []
  | k + 1 => sel l P k ++ (if P k then [l.getD k 0] else [])
theorem sel_yes {l : List Int} {P : Nat → Bool} {k : Nat} (h : P k = true) (hk : k < l.length) : sel l P (k + 1) = sel l P k ++ [l[k]] := by
  show sel l P k ++ (if P k then [l.getD k 0] else []) = _
  rw [if_pos h, getD_at l k hk]
theorem sel_no {l : List Int} {P : Nat → Bool} {k : Nat} (h : P k = false) : sel l P (k + 1) = sel l P k := by
  show sel l P k ++ (if P k then [l.getD k 0] else []) = _
  rw [h]; simp
theorem sel_sub (l : List Int) (P : Nat → Bool) : ∀ k, k ≤ l.length → (sel l P k).Sublist (l.take k)
  | 0, _ => by simp [sel]
  | k + 1, hk => by
    rw [take_snoc l k (by omega)]
    have ih := sel_sub l P k (by omega)
    cases h : P k
    · rw [sel_no h]; exact ih.trans (List.sublist_append_left _ _)
    · rw [sel_yes h (by omega)]; exact ih.append (List.Sublist.refl _)
theorem sel_perm (l : List Int) (P : Nat → Bool) : ∀ k, k ≤ l.length → (sel l P k ++ sel l (fun i => !P i) k).Perm (l.take k)
  | 0, _ => by simp [sel]
  | k + 1, hk => by
    have ih := sel_perm l P k (by omega)
    rw [take_snoc l k (by omega)]
    cases h : P k
    · rw [sel_no h, sel_yes (P := fun i => !P i) (by simp [h]) (by omega), ← List.append_assoc]
      exact ih.append_right _
    · rw [sel_yes h (by omega), sel_no (P := fun i => !P i) (by simp [h]), List.append_assoc]
      refine (List.Perm.append_left _ List.perm_append_comm).trans ?_
      rw [← List.append_assoc]
      exact ih.append_right _
theorem psum_perm {l m : List Int} (h : l.Perm m) (k : Nat) : psum l k = psum m k := by
  have hc : ∀ (x : Int) (l : List Int), psum (x :: l) k = x ^ k + psum l k := fun x l => by simp [psum]
  induction h with
  | nil => rfl
  | cons x _ ih => rw [hc, hc, ih]
  | swap x y l => rw [hc, hc, hc, hc]; omega
  | trans _ _ h1 h2 => exact h1.trans h2
theorem psum_app (l m : List Int) (k : Nat) : psum (l ++ m) k = psum l k + psum m k := by simp [psum]
/-- how many of the first k are told -/
def cntP (P : Nat → Bool) : Nat → Nat
  | 0 => 0
  | k + 1 => cntP P k + (if P k then 1 else 0)
theorem sel_len (l : List Int) (P : Nat → Bool) : ∀ k, (sel l P k).length = cntP P k
  | 0 => rfl
  | k + 1 => by
    show (sel l P k ++ (if P k then [l.getD k 0] else [])).length = cntP P k + (if P k then 1 else 0)
    rw [List.length_append, sel_len l P k]
    cases P k <;> rfl
/-- turned by m within L: fewer than u -/
def turn (L m u : Nat) (i : Nat) : Bool := decide ((i + m) % L < u)
theorem turn_low (L m u i : Nat) (h : i + m % L < L) : turn L m u i = decide (i + m % L < u) := by
  unfold turn
  rw [Nat.add_mod, Nat.mod_eq_of_lt (a := i) (by omega), Nat.mod_eq_of_lt h]
theorem turn_high (L m u i : Nat) (hi : i < L) (h : L ≤ i + m % L) : turn L m u i = decide (i + m % L - L < u) := by
  unfold turn
  have hm := Nat.mod_lt m (show 0 < L by omega)
  rw [Nat.add_mod, Nat.mod_eq_of_lt (a := i) hi, Nat.mod_eq_sub_mod h, Nat.mod_eq_of_lt (by omega)]
theorem cnt_turn (L m u : Nat) (hu : u ≤ L) (hL : 0 < L) : cntP (turn L m u) L = u := by
  have hm := Nat.mod_lt m hL
  have low : ∀ k, k ≤ L - m % L → cntP (turn L m u) k = min k (u - m % L) := by
    intro k
    induction k with
    | zero => intro _; simp [cntP]
    | succ k ih =>
      intro hk
      have ih' := ih (by omega)
      show cntP (turn L m u) k + (if turn L m u k then 1 else 0) = _
      rw [ih', turn_low L m u k (by omega)]
      by_cases h : k + m % L < u
      · rw [decide_eq_true h, if_pos rfl]; omega
      · rw [decide_eq_false h, if_neg (by decide)]; omega
  have high : ∀ j, j ≤ m % L → cntP (turn L m u) (L - m % L + j) = (u - m % L) + min j u := by
    intro j
    induction j with
    | zero =>
      intro _
      rw [Nat.add_zero, low _ (Nat.le_refl _)]
      omega
    | succ j ih =>
      intro hj
      have ih' := ih (by omega)
      show cntP (turn L m u) (L - m % L + j) + (if turn L m u (L - m % L + j) then 1 else 0) = _
      rw [ih', turn_high L m u _ (by omega) (by omega)]
      by_cases h : j < u
      · rw [decide_eq_true (by omega), if_pos rfl]; omega
      · rw [decide_eq_false (by omega), if_neg (by decide)]; omega
  have := high (m % L) (Nat.le_refl _)
  rw [show L - m % L + m % L = L from by omega] at this
  rw [this]
  omega
/-- the numbers taken out of a set are told -/
theorem lack_told (l own T : List Int) (hg : goodS l = true) (hs : own.Sublist l) (hp : (T ++ own).Perm l) (hT : T.Sublist l) (h4 : T.length ≤ 4) :
    lackOk own (powL l T.length) = true ∧ lackV own (powL l T.length) = T := by
  have hr := goodS_rising hg
  have hi := goodS_in hg
  have hf := goodS_few hg
  have hlen : T.length + own.length = l.length := by have := hp.length_eq; rw [List.length_append] at this; exact this
  have hTi : in60 T := fun x hx => hi x (hT.subset hx)
  have hTr := hr.sublist hT
  have hog : goodS own = true := goodS_of (by have := hf.1; omega) (fun x hx => hi x (hs.subset hx)) (hr.sublist hs)
  have hup : powOk own ((powL l T.length).length : Int) = true := by rw [powL_len]; exact powOk_yes hog (uptoB_iff.2 (by omega))
  have e1 : powV own ((powL l T.length).length : Int) = powL own T.length := by rw [powV_yes hup, Int.toNat_natCast, powL_len]
  have e2 : lessL (powL l T.length) (powL own T.length) = powL T T.length := by
    apply List.ext_getElem
    · rw [lessL_len (by rw [powL_len, powL_len]), powL_len, powL_len]
    · intro k h1 h2
      rw [powL_len] at h2
      rw [lessL_at k (by rw [powL_len]; exact h2) (by rw [powL_len]; exact h2), powL_at, powL_at, powL_at, ← psum_perm hp, psum_app]
      omega
  have e3 : lessOk (powL l T.length) (powL own T.length) = true := by
    rw [pair_yes (by rw [powL_len, powL_len]) (pow_good20 l hf _ h4) (pow_good20 own (goodS_few hog) _ h4), e2]
    exact pow_good T h4 hTi _ h4
  have e4 : lessV (powL l T.length) (powL own T.length) = powL T T.length := by rw [lessV_yes e3, e2]
  obtain ⟨e5, e6⟩ := elem_pow T h4 hTi
  obtain ⟨e7, e8⟩ := roots_sym T h4 hTi hTr
  obtain ⟨q1, q2⟩ := lack_eq own (powL l T.length) _ _ _ _ e1 e4 e6 e8
  have hnd : (T ++ own).Nodup := (hp.nodup_iff).2 (rising_nodup hr)
  have hany : (T.any fun x => decide (x ∈ own)) = false := by
    rw [List.any_eq_false]
    intro x hx
    have := (List.nodup_append.1 hnd).2.2 x hx
    simpa using fun h => this x h rfl
  have hok : lackOk own (powL l T.length) = true := by
    rw [q1, hup, e3, e5, e7, hany, decide_eq_true (by rw [powL_len]; have := hf.1; omega)]
    rfl
  exact ⟨hok, by rw [lackV_yes hok, q2]⟩
end Go.Proofs.Ytipeillhafcliaa
