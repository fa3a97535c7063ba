/- Masks reduced, in plain numbers: what is told says the same, is reduced, and as many as can be (Gauss). -/
import Derived.Test.YteakdhlloollfaaPIs
namespace Go.Proofs.Yteakdhlloollfaa
/-- masks as plain numbers -/
def hasN (b : Nat) (m : Nat) : Bool := m.testBit b
def unN (x y : Nat) : Nat := x ^^^ y
def lessN (b x y : Nat) : Nat := lessG hasN unN b x y
theorem lessN_eq (b x y : Nat) : lessN b x y = if y.testBit b then y ^^^ x else y := by
  unfold lessN lessG hasN unN
  cases y.testBit b <;> rfl
theorem lessN_bit (b x y k : Nat) : (lessN b x y).testBit k = (y.testBit k ^^ (y.testBit b && x.testBit k)) := by
  rw [lessN_eq]
  cases y.testBit b <;> simp
/-- what is made of some of a list's numbers, unlike together -/
inductive Sp (S : List Nat) : Nat → Prop
  | zero : Sp S 0
  | add {x s : Nat} : s ∈ S → Sp S x → Sp S (s ^^^ x)
theorem Sp.mem {S : List Nat} {s : Nat} (h : s ∈ S) : Sp S s := by
  have := Sp.add h Sp.zero
  rwa [Nat.xor_zero] at this
theorem Sp.xor {S : List Nat} {x y : Nat} (hx : Sp S x) (hy : Sp S y) : Sp S (x ^^^ y) := by
  induction hx with
  | zero => rwa [Nat.zero_xor]
  | add h _ ih => rw [Nat.xor_assoc]; exact Sp.add h ih
theorem Sp.lift {S S' : List Nat} (h : ∀ s ∈ S, Sp S' s) {x : Nat} (hx : Sp S x) : Sp S' x := by
  induction hx with
  | zero => exact Sp.zero
  | add hs _ ih => exact (h _ hs).xor ih
theorem Sp.nobit {S : List Nat} {b : Nat} (h : ∀ s ∈ S, s.testBit b = false) {x : Nat} (hx : Sp S x) : x.testBit b = false := by
  induction hx with
  | zero => exact Nat.zero_testBit b
  | add hs _ ih => rw [Nat.testBit_xor, h _ hs, ih]; rfl
theorem less_xor (b x y z : Nat) : lessN b x (y ^^^ z) = lessN b x y ^^^ lessN b x z := by
  apply Nat.eq_of_testBit_eq
  intro k
  rw [lessN_bit, Nat.testBit_xor, Nat.testBit_xor, Nat.testBit_xor, lessN_bit, lessN_bit]
  cases y.testBit k <;> cases z.testBit k <;> cases y.testBit b <;> cases z.testBit b <;> cases x.testBit k <;> rfl
theorem less_self (b x : Nat) (hx : x.testBit b = true) : lessN b x x = 0 := by
  rw [lessN_eq, if_pos hx, Nat.xor_self]
theorem less_sp {S : List Nat} {b x y : Nat} (hx : Sp S x) (hy : Sp S y) : Sp S (lessN b x y) := by
  rw [lessN_eq]
  split
  · exact hy.xor hx
  · exact hy
theorem of_less_sp {S : List Nat} {b x y : Nat} (hx : Sp S x) (hy : Sp S (lessN b x y)) : Sp S y := by
  rw [lessN_eq] at hy
  split at hy
  · have := hy.xor hx
    rwa [Nat.xor_assoc, Nat.xor_self, Nat.xor_zero] at this
  · exact hy
theorem mem_erase_or {α : Type} (L : List α) (k : Nat) (hk : k < L.length) (y : α) (hy : y ∈ L) : y = L[k] ∨ y ∈ L.eraseIdx k := by
  obtain ⟨i, hi, rfl⟩ := List.getElem_of_mem hy
  by_cases e : i = k
  · subst e; exact Or.inl rfl
  · right
    rw [List.mem_eraseIdx_iff_getElem]
    exact ⟨i, hi, e, rfl⟩
/-- a step, by cases -/
theorem stepN_cases (b : Nat) (T L : List Nat) : ((∀ x ∈ L, x.testBit b = false) ∧ stepG hasN unN b (T, L) = (T, L)) ∨
    ∃ k, ∃ hk : k < L.length, L[k].testBit b = true ∧ (∀ j (hj : j < L.length), j < k → L[j].testBit b = false) ∧ stepG hasN unN b (T, L) = (T.map (lessN b L[k]) ++ [L[k]], (L.eraseIdx k).map (lessN b L[k])) := by
  by_cases hx : L.findIdx (hasN b) < L.length
  · right
    refine ⟨_, hx, List.findIdx_getElem (p := hasN b), fun j hj h => by simpa [hasN] using List.not_of_lt_findIdx h, ?_⟩
    unfold stepG
    simp only [List.getElem?_eq_getElem hx]
    rfl
  · left
    have e := Nat.le_antisymm List.findIdx_le_length (Nat.le_of_not_lt hx)
    have h := List.findIdx_eq_length.1 e
    refine ⟨fun x hm => h x hm, ?_⟩
    unfold stepG
    simp only [e, List.getElem?_eq_none (Nat.le_refl _)]
/-- a mask that the rows left make changes nothing of what is told -/
theorem step_more (b : Nat) (T L : List Nat) (m : Nat) (h : Sp L m) : ∃ m', stepG hasN unN b (T, L ++ [m]) = ((stepG hasN unN b (T, L)).1, (stepG hasN unN b (T, L)).2 ++ [m']) ∧ Sp (stepG hasN unN b (T, L)).2 m' := by
  rcases stepN_cases b T L with ⟨hn, e⟩ | ⟨k, hk, h1, h2, e⟩
  · refine ⟨m, ?_, by rw [e]; exact h⟩
    rw [e]
    have hm := h.nobit hn
    rcases stepN_cases b T (L ++ [m]) with ⟨_, e'⟩ | ⟨k, hk, h1, _, _⟩
    · exact e'
    · exfalso
      have : (L ++ [m])[k] ∈ L ++ [m] := List.getElem_mem hk
      rcases List.mem_append.1 this with g | g
      · rw [hn _ g] at h1; cases h1
      · rw [List.mem_singleton.1 g, hm] at h1; cases h1
  · rw [e]
    refine ⟨lessN b L[k] m, ?_, ?_⟩
    · have hk' : k < (L ++ [m]).length := by simp; omega
      have ek : (L ++ [m])[k] = L[k] := List.getElem_append_left hk
      have ef : (L ++ [m]).findIdx (hasN b) = k := by
        rw [List.findIdx_eq hk']
        refine ⟨by rw [ek]; exact h1, fun j hj => ?_⟩
        have ej : (L ++ [m])[j] = L[j] := List.getElem_append_left (by omega)
        rw [ej]
        exact h2 j (by omega) hj
      have e0 : stepG hasN unN b (T, L ++ [m]) = (T.map (lessN b (L ++ [m])[k]) ++ [(L ++ [m])[k]], ((L ++ [m]).eraseIdx k).map (lessN b (L ++ [m])[k])) := by
        unfold stepG
        simp only [ef, List.getElem?_eq_getElem hk']
        rfl
      rw [e0, ek, List.eraseIdx_append_of_lt_length hk, List.map_append]
      rfl
    · have key : ∀ y, Sp L y → Sp ((L.eraseIdx k).map (lessN b L[k])) (lessN b L[k] y) := fun y hy => by
        induction hy with
        | zero => rw [show lessN b L[k] 0 = 0 from by rw [lessN_eq, Nat.zero_testBit]; rfl]; exact Sp.zero
        | add hs _ ih =>
          rw [less_xor]
          refine Sp.xor ?_ ih
          rcases mem_erase_or L k hk _ hs with rfl | g
          · rw [less_self _ _ h1]; exact Sp.zero
          · exact Sp.mem (List.mem_map.2 ⟨_, g, rfl⟩)
      exact key m h
theorem red_more (n : Nat) (T L : List Nat) (m : Nat) (h : Sp L m) : (redG hasN unN n (T, L ++ [m])).1 = (redG hasN unN n (T, L)).1 := by
  induction n generalizing T L m with
  | zero => rfl
  | succ n ih =>
    show (redG hasN unN n (stepG hasN unN n (T, L ++ [m]))).1 = (redG hasN unN n (stepG hasN unN n (T, L))).1
    obtain ⟨m', e, h'⟩ := step_more n T L m h
    rw [e]
    exact ih _ _ m' h'
/-- what is told and left makes the same, step by step -/
theorem step_sp (b : Nat) (T L : List Nat) : (∀ x ∈ (stepG hasN unN b (T, L)).1 ++ (stepG hasN unN b (T, L)).2, Sp (T ++ L) x) ∧ (∀ x ∈ T ++ L, Sp ((stepG hasN unN b (T, L)).1 ++ (stepG hasN unN b (T, L)).2) x) := by
  rcases stepN_cases b T L with ⟨hn, e⟩ | ⟨k, hk, h1, h2, e⟩
  · rw [e]
    exact ⟨fun x hx => Sp.mem hx, fun x hx => Sp.mem hx⟩
  · rw [e]
    have hx0 : Sp (T ++ L) L[k] := Sp.mem (List.mem_append.2 (Or.inr (List.getElem_mem hk)))
    constructor
    · intro x hx
      rcases List.mem_append.1 hx with hx | hx
      · rcases List.mem_append.1 hx with hx | hx
        · obtain ⟨y, hy, rfl⟩ := List.mem_map.1 hx
          exact less_sp hx0 (Sp.mem (List.mem_append.2 (Or.inl hy)))
        · rw [List.mem_singleton.1 hx]; exact hx0
      · obtain ⟨y, hy, rfl⟩ := List.mem_map.1 hx
        exact less_sp hx0 (Sp.mem (List.mem_append.2 (Or.inr (List.mem_of_mem_eraseIdx hy))))
    · intro x hx
      have hx1 : Sp (T.map (lessN b L[k]) ++ [L[k]] ++ (L.eraseIdx k).map (lessN b L[k])) L[k] := Sp.mem (by simp)
      rcases List.mem_append.1 hx with hx | hx
      · refine of_less_sp hx1 (Sp.mem (List.mem_append.2 (Or.inl (List.mem_append.2 (Or.inl (List.mem_map.2 ⟨x, hx, rfl⟩))))))
      · rcases mem_erase_or L k hk _ hx with rfl | g
        · exact hx1
        · exact of_less_sp hx1 (Sp.mem (List.mem_append.2 (Or.inr (List.mem_map.2 ⟨x, g, rfl⟩))))
theorem red_sp (n : Nat) (T L : List Nat) : (∀ x ∈ (redG hasN unN n (T, L)).1 ++ (redG hasN unN n (T, L)).2, Sp (T ++ L) x) ∧ (∀ x ∈ T ++ L, Sp ((redG hasN unN n (T, L)).1 ++ (redG hasN unN n (T, L)).2) x) := by
  induction n generalizing T L with
  | zero => exact ⟨fun x hx => Sp.mem hx, fun x hx => Sp.mem hx⟩
  | succ n ih =>
    have h := step_sp n T L
    have i := ih (stepG hasN unN n (T, L)).1 (stepG hasN unN n (T, L)).2
    exact ⟨fun x hx => (i.1 x hx).lift h.1, fun x hx => (h.2 x hx).lift i.2⟩
theorem lt_of_bits {x b : Nat} (h : x < 2 ^ (b + 1)) (hb : x.testBit b = false) : x < 2 ^ b := by
  apply Nat.lt_pow_two_of_testBit
  intro i hi
  by_cases e : i = b
  · subst e; exact hb
  · exact Nat.testBit_lt_two_pow (Nat.lt_of_lt_of_le h (Nat.pow_le_pow_right (by decide) (by omega)))
/-- rows told, each with a bit of its own that none other told has; rows left are below -/
structure Ech (b : Nat) (pv : Nat → Nat) (T : List Nat) : Prop where
  own : ∀ i (h : i < T.length), T[i].testBit (pv i) = true ∧ T[i] < 2 ^ (pv i + 1) ∧ b ≤ pv i
  fall : ∀ i j, i < j → j < T.length → pv j < pv i
  oth : ∀ i j (hi : i < T.length), j < T.length → i ≠ j → T[i].testBit (pv j) = false
theorem step_ech (b : Nat) (T L : List Nat) (pv : Nat → Nat) (h : Ech (b + 1) pv T) (hL : ∀ x ∈ L, x < 2 ^ (b + 1)) : (∃ pv', Ech b pv' (stepG hasN unN b (T, L)).1) ∧ ∀ x ∈ (stepG hasN unN b (T, L)).2, x < 2 ^ b := by
  rcases stepN_cases b T L with ⟨hn, e⟩ | ⟨k, hk, h1, h2, e⟩
  · rw [e]
    exact ⟨⟨pv, ⟨fun i hi => ⟨(h.own i hi).1, (h.own i hi).2.1, by have := (h.own i hi).2.2; omega⟩, h.fall, h.oth⟩⟩, fun x hx => lt_of_bits (hL x hx) (hn x hx)⟩
  · rw [e]
    have hx0 := hL _ (List.getElem_mem hk)
    generalize L[k] = x0 at *
    have hbit : ∀ y j, b + 1 ≤ j → (lessN b x0 y).testBit j = y.testBit j := fun y j hj => by
      rw [lessN_bit, Nat.testBit_lt_two_pow (Nat.lt_of_lt_of_le hx0 (Nat.pow_le_pow_right (by decide) hj))]
      simp
    have hb0 : ∀ y, (lessN b x0 y).testBit b = false := fun y => by rw [lessN_bit, h1]; simp
    have hlt : ∀ y c, b + 1 ≤ c → y < 2 ^ c → lessN b x0 y < 2 ^ c := fun y c hc hy => by
      apply Nat.lt_pow_two_of_testBit
      intro i hi
      rw [hbit _ _ (by omega)]
      exact Nat.testBit_lt_two_pow (Nat.lt_of_lt_of_le hy (Nat.pow_le_pow_right (by decide) hi))
    refine ⟨⟨fun i => if i < T.length then pv i else b, ⟨?_, ?_, ?_⟩⟩, ?_⟩
    · intro i hi
      by_cases g : i < T.length
      · have ei : (T.map (lessN b x0) ++ [x0])[i] = lessN b x0 T[i] := by
          rw [List.getElem_append_left (by simpa using g), List.getElem_map]
        simp only [if_pos g]
        rw [ei]
        have ho := h.own i g
        exact ⟨by rw [hbit _ _ ho.2.2]; exact ho.1, hlt _ _ (by omega) ho.2.1, by omega⟩
      · have ei : (T.map (lessN b x0) ++ [x0])[i] = x0 := by
          rw [List.getElem_append_right (by simpa using g)]
          simp
        simp only [if_neg g]
        rw [ei]
        exact ⟨h1, hx0, Nat.le_refl _⟩
    · intro i j hij hj
      have hj' : j < T.length + 1 := by simpa using hj
      by_cases g : j < T.length
      · simp only [if_pos g, if_pos (Nat.lt_trans hij g)]
        exact h.fall i j hij g
      · have g' : i < T.length := by omega
        simp only [if_neg g, if_pos g']
        have := (h.own i g').2.2
        omega
    · intro i j hi hj hij
      have hi' : i < T.length + 1 := by simpa using hi
      have hj' : j < T.length + 1 := by simpa using hj
      by_cases g : i < T.length
      · have ei : (T.map (lessN b x0) ++ [x0])[i] = lessN b x0 T[i] := by
          rw [List.getElem_append_left (by simpa using g), List.getElem_map]
        rw [ei]
        by_cases g2 : j < T.length
        · simp only [if_pos g2]
          rw [hbit _ _ (h.own j g2).2.2]
          exact h.oth i j g g2 hij
        · simp only [if_neg g2]
          exact hb0 _
      · have ei : (T.map (lessN b x0) ++ [x0])[i] = x0 := by
          rw [List.getElem_append_right (by simpa using g)]
          simp
        have g2 : j < T.length := by omega
        simp only [if_pos g2]
        rw [ei]
        exact Nat.testBit_lt_two_pow (Nat.lt_of_lt_of_le hx0 (Nat.pow_le_pow_right (by decide) (h.own j g2).2.2))
    · intro x hx
      obtain ⟨y, hy, rfl⟩ := List.mem_map.1 hx
      exact lt_of_bits (hlt y _ (Nat.le_refl _) (hL y (List.mem_of_mem_eraseIdx hy))) (hb0 y)
theorem red_ech (n : Nat) (T L : List Nat) (pv : Nat → Nat) (h : Ech n pv T) (hL : ∀ x ∈ L, x < 2 ^ n) : (∃ pv', Ech 0 pv' (redG hasN unN n (T, L)).1) ∧ ∀ x ∈ (redG hasN unN n (T, L)).2, x = 0 := by
  induction n generalizing T L pv with
  | zero => exact ⟨⟨pv, h⟩, fun x hx => by have := hL x hx; omega⟩
  | succ n ih =>
    obtain ⟨⟨pv', h'⟩, hL'⟩ := step_ech n T L pv h hL
    exact ih _ _ pv' h' hL'
/-- rows that are reduced stay as they are -/
theorem red_same (n k : Nat) (l : List Nat) (pv : Nat → Nat) (h : Ech 0 pv l) (hk : k ≤ l.length) (hp : ∀ i, k ≤ i → i < l.length → pv i < n) (hq : ∀ i, i < k → n ≤ pv i) : redG hasN unN n (l.take k, l.drop k) = (l, []) := by
  induction n generalizing k with
  | zero =>
    have : k = l.length := by
      by_cases e : k < l.length
      · have := hp k (Nat.le_refl _) e; omega
      · omega
    subst this
    show (l.take l.length, l.drop l.length) = _
    rw [List.take_length, List.drop_length]
  | succ n ih =>
    show redG hasN unN n (stepG hasN unN n (l.take k, l.drop k)) = _
    by_cases hg : ∃ hk' : k < l.length, pv k = n
    · obtain ⟨hk', e⟩ := hg
      have hd : l.drop k = l[k] :: l.drop (k + 1) := List.drop_eq_getElem_cons hk'
      have hbit : ∀ i (hi : i < l.length), i ≠ k → l[i].testBit n = false := fun i hi hik => by rw [← e]; exact h.oth i k hi hk' hik
      have hless : ∀ i (hi : i < l.length), i ≠ k → lessN n l[k] l[i] = l[i] := fun i hi hik => by rw [lessN_eq, hbit i hi hik]; rfl
      have hown := (h.own k hk').1
      rw [e] at hown
      have es : stepG hasN unN n (l.take k, l.drop k) = (l.take (k + 1), l.drop (k + 1)) := by
        rw [hd]
        have ef : (l[k] :: l.drop (k + 1)).findIdx (hasN n) = 0 := by
          rw [List.findIdx_cons, show hasN n l[k] = true from hown]
          rfl
        unfold stepG
        simp only [ef, List.getElem?_cons_zero, List.eraseIdx_cons_zero]
        congr 1
        · rw [List.take_succ_eq_append_getElem hk']
          congr 1
          apply List.ext_getElem (by simp)
          intro i h1 h2
          rw [List.getElem_map, List.getElem_take]
          have : i < k := by simp at h2; omega
          exact hless i (by omega) (by omega)
        · apply List.ext_getElem (by simp)
          intro i h1 h2
          rw [List.getElem_map, List.getElem_drop]
          exact hless (k + 1 + i) (by simp at h2; omega) (by omega)
      rw [es]
      refine ih (k + 1) hk' (fun i hi hil => ?_) (fun i hi => ?_)
      · have := h.fall k i (by omega) hil
        omega
      · by_cases e2 : i = k
        · subst e2; omega
        · have := hq i (by omega); omega
    · have hall : ∀ i, k ≤ i → i < l.length → pv i < n := fun i hi hil => by
        have h1 := hp i hi hil
        by_cases e2 : pv i = n
        · exfalso
          by_cases e3 : i = k
          · subst e3; exact hg ⟨hil, e2⟩
          · have h3 := h.fall k i (by omega) hil
            have h4 := hp k (Nat.le_refl _) (by omega)
            omega
        · omega
      have es : stepG hasN unN n (l.take k, l.drop k) = (l.take k, l.drop k) := by
        rcases stepN_cases n (l.take k) (l.drop k) with ⟨_, e⟩ | ⟨j, hj, h1, _, _⟩
        · exact e
        · exfalso
          have hj' : j < l.length - k := by simpa using hj
          rw [List.getElem_drop] at h1
          have h2 := (h.own (k + j) (by omega)).2.1
          rw [Nat.testBit_lt_two_pow (Nat.lt_of_lt_of_le h2 (Nat.pow_le_pow_right (by decide) (hall (k + j) (by omega) (by omega))))] at h1
          cases h1
      rw [es]
      exact ih k hk hall (fun i hi => by have := hq i hi; omega)
theorem ech_nil (n : Nat) : Ech n (fun _ => 0) [] := ⟨fun _ h => absurd h (Nat.not_lt_zero _), fun _ _ _ h => absurd h (Nat.not_lt_zero _), fun _ _ h => absurd h (Nat.not_lt_zero _)⟩
/-- masks reduced -/
def redN (n : Nat) (l : List Nat) : List Nat × List Nat := redG hasN unN n ([], l)
theorem step_below (b c : Nat) (T L : List Nat) (hT : ∀ x ∈ T, x < 2 ^ c) (hL : ∀ x ∈ L, x < 2 ^ c) : (∀ x ∈ (stepG hasN unN b (T, L)).1, x < 2 ^ c) ∧ ∀ x ∈ (stepG hasN unN b (T, L)).2, x < 2 ^ c := by
  have hl : ∀ x y, x < 2 ^ c → y < 2 ^ c → lessN b x y < 2 ^ c := fun x y hx hy => by
    rw [lessN_eq]
    split
    · exact Nat.xor_lt_two_pow hy hx
    · exact hy
  rcases stepN_cases b T L with ⟨hn, e⟩ | ⟨k, hk, h1, h2, e⟩
  · rw [e]; exact ⟨hT, hL⟩
  · rw [e]
    have hx0 := hL _ (List.getElem_mem hk)
    refine ⟨fun x hx => ?_, fun x hx => ?_⟩
    · rcases List.mem_append.1 hx with hx | hx
      · obtain ⟨y, hy, rfl⟩ := List.mem_map.1 hx
        exact hl _ _ hx0 (hT y hy)
      · rw [List.mem_singleton.1 hx]; exact hx0
    · obtain ⟨y, hy, rfl⟩ := List.mem_map.1 hx
      exact hl _ _ hx0 (hL y (List.mem_of_mem_eraseIdx hy))
theorem red_below (n c : Nat) (T L : List Nat) (hT : ∀ x ∈ T, x < 2 ^ c) (hL : ∀ x ∈ L, x < 2 ^ c) : (∀ x ∈ (redG hasN unN n (T, L)).1, x < 2 ^ c) ∧ ∀ x ∈ (redG hasN unN n (T, L)).2, x < 2 ^ c := by
  induction n generalizing T L with
  | zero => exact ⟨hT, hL⟩
  | succ n ih =>
    have h := step_below n c T L hT hL
    exact ih _ _ h.1 h.2
theorem step_many (b : Nat) (T L : List Nat) : (stepG hasN unN b (T, L)).1.length ≤ T.length + 1 := by
  rcases stepN_cases b T L with ⟨hn, e⟩ | ⟨k, hk, h1, h2, e⟩
  · rw [e]; exact Nat.le_succ _
  · rw [e]; simp
theorem red_many (n : Nat) (T L : List Nat) : (redG hasN unN n (T, L)).1.length ≤ T.length + n := by
  induction n generalizing T L with
  | zero => exact Nat.le_refl _
  | succ n ih =>
    have h := step_many n T L
    have i := ih (stepG hasN unN n (T, L)).1 (stepG hasN unN n (T, L)).2
    have e : redG hasN unN (n + 1) (T, L) = redG hasN unN n ((stepG hasN unN n (T, L)).1, (stepG hasN unN n (T, L)).2) := rfl
    rw [e]
    omega
theorem redN_many (n : Nat) (l : List Nat) : (redN n l).1.length ≤ n := by
  have := red_many n [] l
  simpa [redN] using this
theorem redN_ech (n : Nat) (l : List Nat) (hl : ∀ x ∈ l, x < 2 ^ n) : (∃ pv, Ech 0 pv (redN n l).1) ∧ ∀ x ∈ (redN n l).2, x = 0 := red_ech n [] l _ (ech_nil n) hl
theorem redN_again (n : Nat) (l : List Nat) (hl : ∀ x ∈ l, x < 2 ^ n) : redN n (redN n l).1 = ((redN n l).1, []) := by
  obtain ⟨⟨pv, h⟩, _⟩ := redN_ech n l hl
  have hb := (red_below n n [] l (fun x hx => by cases hx) hl).1
  refine red_same n 0 _ pv h (Nat.zero_le _) (fun i _ hi => ?_) (fun i hi => absurd hi (Nat.not_lt_zero _))
  have h1 := (h.own i hi).1
  have h2 := hb _ (List.getElem_mem hi)
  by_cases e : pv i < n
  · exact e
  · exfalso
    rw [Nat.testBit_lt_two_pow (Nat.lt_of_lt_of_le h2 (Nat.pow_le_pow_right (by decide) (Nat.le_of_not_lt e)))] at h1
    cases h1
theorem redN_falls (n : Nat) (l : List Nat) (hl : ∀ x ∈ l, x < 2 ^ n) (i : Nat) (hi : i + 1 < (redN n l).1.length) : (redN n l).1[i + 1] < (redN n l).1[i] := by
  obtain ⟨⟨pv, h⟩, _⟩ := redN_ech n l hl
  have h1 := (h.own (i + 1) hi).2.1
  have h2 := (h.own i (by omega)).1
  have h3 := h.fall i (i + 1) (by omega) hi
  have h4 := Nat.ge_two_pow_of_testBit h2
  have h5 := Nat.pow_le_pow_right (n := 2) (by decide) (show pv (i + 1) + 1 ≤ pv i from h3)
  omega
/-- what is told says the same -/
theorem redN_in (n : Nat) (l : List Nat) (m : Nat) (hm : m ∈ (redN n l).1) : Sp l m := (red_sp n [] l).1 m (List.mem_append.2 (Or.inl hm))
theorem redN_of (n : Nat) (l : List Nat) (hl : ∀ x ∈ l, x < 2 ^ n) (m : Nat) (hm : m ∈ l) : Sp (redN n l).1 m := by
  refine ((red_sp n [] l).2 m (List.mem_append.2 (Or.inr hm))).lift (fun x hx => ?_)
  rcases List.mem_append.1 hx with hx | hx
  · exact Sp.mem hx
  · rw [(redN_ech n l hl).2 x hx]; exact Sp.zero
theorem redN_more (n : Nat) (l : List Nat) (m : Nat) (h : Sp l m) : (redN n (l ++ [m])).1 = (redN n l).1 := red_more n [] l m h
theorem redI_nat (n : Nat) (q : List Nat) : redI n (q.map (fun k : Nat => (k : Int))) = ((redN n q).1.map (fun k : Nat => (k : Int)), (redN n q).2.map (fun k : Nat => (k : Int))) :=
  redG_map (fun k : Nat => (k : Int)) hasN unN hasI unI (fun b x => by unfold hasI hasN; rw [Int.toNat_natCast]) (fun x y => by unfold unI unN; rw [Int.toNat_natCast, Int.toNat_natCast]) n ([], q)
theorem allIn_iff (l : List Int) (lo hi : Int) : allIn l lo hi = true ↔ ∀ x ∈ l, lo ≤ x ∧ x ≤ hi := by
  constructor
  · intro h x hx
    obtain ⟨i, hi', rfl⟩ := List.getElem_of_mem hx
    by_cases g : lo ≤ l[i] ∧ l[i] ≤ hi
    · exact g
    · rw [allIn_bad l lo hi i hi' g] at h; cases h
  · intro h
    exact allIn_all l lo hi (fun j hj => h _ (List.getElem_mem hj))
/-- good masks, as plain numbers -/
theorem maskOk_plain {n : Int} {l : List Int} (h : maskOk n l = true) : ∃ (k : Nat) (q : List Nat), n = (k : Int) ∧ 1 ≤ k ∧ k ≤ 10 ∧ q.length ≤ 20 ∧ l = q.map (fun k : Nat => (k : Int)) ∧ ∀ x ∈ q, x < 2 ^ k := by
  have hm : manyB n = true := by
    cases hm : manyB n
    · rw [maskOk_no n l hm] at h; cases h
    · rfl
  obtain ⟨k, rfl, h1, h2⟩ := many_nat hm
  rw [maskOk_nat k l h1 h2, Bool.and_eq_true] at h
  have ha := (allIn_iff _ _ _).1 h.2
  have hp : ∀ x ∈ l, (x.toNat : Int) = x ∧ x.toNat < 2 ^ k := fun x hx => by
    have := ha x hx
    have e : ((2 ^ k : Nat) : Int) = 2 ^ k := by simp
    omega
  refine ⟨k, l.map Int.toNat, rfl, h1, h2, by simpa using of_decide_eq_true h.1, ?_, ?_⟩
  · rw [List.map_map]
    conv => lhs; rw [← List.map_id l]
    apply List.map_congr_left
    intro x hx
    exact (hp x hx).1.symm
  · intro x hx
    obtain ⟨y, hy, rfl⟩ := List.mem_map.1 hx
    exact (hp y hy).2
theorem maskOk_of {k : Nat} {q : List Nat} (h1 : 1 ≤ k) (h2 : k ≤ 10) (hl : q.length ≤ 20) (hq : ∀ x ∈ q, x < 2 ^ k) : maskOk (k : Int) (q.map (fun k : Nat => (k : Int))) = true := by
  rw [maskOk_nat k _ h1 h2, Bool.and_eq_true]
  refine ⟨decide_eq_true (by simpa using hl), (allIn_iff _ _ _).2 (fun x hx => ?_)⟩
  obtain ⟨y, hy, rfl⟩ := List.mem_map.1 hx
  have := hq y hy
  have e : ((2 ^ k : Nat) : Int) = 2 ^ k := by simp
  omega
/-- all that a law asks of good masks -/
theorem rank_facts {n : Int} {l : List Int} (h : maskOk n l = true) : (redV n l).length ≤ 20 ∧ rankV n l = ((redV n l).length : Int) ∧ rankV n l ≤ n ∧ rankV n l ≤ (l.length : Int) ∧ maskOk n (redV n l) = true ∧ redV n (redV n l) = redV n l ∧
    (∀ m ∈ l, spanOk n (redV n l) m = true ∧ spanV n (redV n l) m = true) ∧ (∀ m ∈ redV n l, spanOk n l m = true ∧ spanV n l m = true) ∧ (∀ (i : Nat) (x y : Int), (redV n l)[i]? = some x → (redV n l)[i + 1]? = some y → y < x) := by
  have hV : redV n l = (redI n.toNat l).1 := by unfold redV; rw [h]; rfl
  have hR : rankV n l = ((redI n.toNat l).1.length : Int) := by unfold rankV; rw [h]; rfl
  obtain ⟨k, q, rfl, h1, h2, hl, rfl, hq⟩ := maskOk_plain h
  rw [Int.toNat_natCast] at hV hR
  have e1 : (redI k (q.map (fun k : Nat => (k : Int)))).1 = (redN k q).1.map (fun k : Nat => (k : Int)) := by rw [redI_nat]
  rw [e1] at hV hR
  have hlen : (redN k q).1.length ≤ q.length := by
    have := redI_len k (q.map (fun k : Nat => (k : Int)))
    rw [e1] at this
    simpa using this
  have hb : ∀ x ∈ (redN k q).1, x < 2 ^ k := (red_below k k [] q (fun x hx => by cases hx) hq).1
  have hmV : maskOk (k : Int) ((redN k q).1.map (fun k : Nat => (k : Int))) = true := maskOk_of h1 h2 (by omega) hb
  have hone : ∀ m : Nat, m < 2 ^ k → maskOk (k : Int) [(m : Int)] = true := fun m hm => maskOk_of (q := [m]) h1 h2 (by simp) (fun x hx => by rw [List.mem_singleton.1 hx]; exact hm)
  have hsp : ∀ (r : List Nat) (m : Nat), Sp r m → (((redI (k : Int).toNat (r.map (fun k : Nat => (k : Int)) ++ [(m : Int)])).1.length : Int) == ((redI (k : Int).toNat (r.map (fun k : Nat => (k : Int)))).1.length : Int)) = true := fun r m hs => by
    have e : r.map (fun k : Nat => (k : Int)) ++ [(m : Int)] = (r ++ [m]).map (fun k : Nat => (k : Int)) := by simp
    rw [Int.toNat_natCast, e, redI_nat, redI_nat, redN_more k r m hs]
    simp
  have hspan : ∀ (r : List Nat) (m : Nat), maskOk (k : Int) (r.map (fun k : Nat => (k : Int))) = true → m < 2 ^ k → Sp r m → spanOk (k : Int) (r.map (fun k : Nat => (k : Int))) (m : Int) = true ∧ spanV (k : Int) (r.map (fun k : Nat => (k : Int))) (m : Int) = true := fun r m hr hm hs => by
    have ho : spanOk (k : Int) (r.map (fun k : Nat => (k : Int))) (m : Int) = true := by unfold spanOk; rw [hr, hone m hm]; rfl
    refine ⟨ho, ?_⟩
    unfold spanV
    rw [ho]
    exact hsp r m hs
  rw [hR]
  generalize redV (k : Int) (q.map (fun k : Nat => (k : Int))) = V at hV ⊢
  subst hV
  refine ⟨by rw [List.length_map]; omega, by rw [List.length_map], ?_, ?_, hmV, ?_, ?_, ?_, ?_⟩
  · rw [List.length_map]
    have := redN_many k q
    omega
  · rw [List.length_map, List.length_map]; omega
  · unfold redV
    rw [hmV]
    show (redI (k : Int).toNat _).1 = _
    rw [Int.toNat_natCast, redI_nat, redN_again k q hq]
  · intro m hm
    obtain ⟨y, hy, rfl⟩ := List.mem_map.1 hm
    exact hspan _ y hmV (hq y hy) (redN_of k q hq y hy)
  · intro m hm
    obtain ⟨y, hy, rfl⟩ := List.mem_map.1 hm
    exact hspan _ y h (hb y hy) (redN_in k q y hy)
  · intro i x y hx hy
    obtain ⟨h3, rfl⟩ := List.getElem?_eq_some_iff.1 hx
    obtain ⟨h4, rfl⟩ := List.getElem?_eq_some_iff.1 hy
    rw [List.getElem_map, List.getElem_map]
    have := redN_falls k q hq i (by simpa using h4)
    omega
end Go.Proofs.Yteakdhlloollfaa
