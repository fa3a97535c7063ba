/- What a write keeps of a heap; what is picked; plain. -/
import Derived.Test.YtohkhcjdjjlfbaaHDr
import Derived.Test.YtohkhcjdjjlfbaaQMath
namespace Go.Proofs.Ytohkhcjdjjlfbaa
set_option maxRecDepth 100000
open Go Go.RowKit G00541
theorem sum_set (l : List Nat) : ∀ (i a : Nat) (h : i < l.length), (l.set i a).sum + l[i] = l.sum + a := by
  induction l with
  | nil => intro i a h; simp at h
  | cons x l ih =>
    intro i a h
    cases i with
    | zero => simp; omega
    | succ i =>
      have := ih i a (by simpa using h)
      simp at this ⊢
      omega
theorem zip_set (S : List Sg) (L : List (List Bool)) (k : Nat) (s : Sg) (v : List Bool) : List.zipWith prs (S.set k s) (L.set k v) = (List.zipWith prs S L).set k (prs s v) := by
  apply List.ext_getElem
  · simp
  · intro i h1 h2
    simp only [List.getElem_zipWith, List.getElem_set]
    split <;> rfl
theorem cP_set (S : List Sg) (L : List (List Bool)) (k : Nat) (hk : k < S.length) (hk' : k < L.length) (s : Sg) (v : List Bool) (f : Int × Bool → Bool) :
    (allP (S.set k s) (L.set k v)).countP f + (prs S[k] L[k]).countP f = (allP S L).countP f + (prs s v).countP f := by
  unfold allP
  rw [zip_set, List.countP_flatten, List.countP_flatten, List.map_set]
  have h := sum_set ((List.zipWith prs S L).map (List.countP f)) k ((prs s v).countP f) (by simp; omega)
  rw [List.getElem_map, List.getElem_zipWith] at h
  exact h
theorem find_range {n : Nat} {p : Nat → Bool} {i : Nat} (h : (List.range n).find? p = some i) : i < n ∧ p i = true :=
  ⟨List.mem_range.1 (List.mem_of_find?_eq_some h), List.find?_some h⟩
theorem whereH_spec {S : List Sg} {L : List (List Bool)} {x : Int} {k i : Nat} (h : whereH S L x = some (k, i)) : k < S.length ∧ i < (blAt S k).length ∧ (blAt S k).getD i 0 = x ∧ (lvAt L k).getD i false = true := by
  unfold whereH at h
  obtain ⟨l1, a, l2, e, hs, _⟩ := List.findSome?_eq_some_iff.1 h
  have ha : a < S.length := List.mem_range.1 (by rw [e]; simp)
  cases hw : segW S L x a with
  | none => rw [hw] at hs; cases hs
  | some j =>
    rw [hw] at hs
    simp at hs
    obtain ⟨rfl, rfl⟩ := hs
    unfold segW whereS at hw
    obtain ⟨h1, h2⟩ := find_range hw
    unfold atP at h2
    simp at h2
    refine ⟨ha, h1, ?_, ?_⟩
    · unfold blAt; rw [List.getD_eq_getElem?_getD]; exact h2.1
    · unfold lvAt; rw [List.getD_eq_getElem?_getD]; exact h2.2
theorem whereH_none {S : List Sg} {L : List (List Bool)} {x : Int} (hl : L.length = S.length) (h : whereH S L x = none) : ∀ p ∈ allP S L, ¬ (p.1 = x ∧ p.2 = true) := by
  intro p hp
  unfold allP at hp
  obtain ⟨l, hl1, hp1⟩ := List.mem_flatten.1 hp
  obtain ⟨k, hk, e⟩ := List.getElem_of_mem hl1
  rw [List.getElem_zipWith] at e
  have hkS : k < S.length := by simp at hk; omega
  have hkL : k < L.length := by omega
  unfold whereH at h
  rw [List.findSome?_eq_none_iff] at h
  have h1 := h k (List.mem_range.2 hkS)
  cases hw : segW S L x k with
  | some j => rw [hw] at h1; cases h1
  | none =>
    rw [segW_eq S L x k hkS hkL] at hw
    unfold whereS at hw
    rw [List.find?_eq_none] at hw
    rw [← e] at hp1
    obtain ⟨i, hi, e2⟩ := List.getElem_of_mem hp1
    unfold prs at hi e2
    have hi1 : i < S[k].bl.length := by simp at hi; omega
    have hi2 : i < L[k].length := by simp at hi; omega
    have h2 := hw i (List.mem_range.2 hi1)
    rw [atP_eq _ _ _ _ hi1 hi2] at h2
    rw [List.getElem_zip] at e2
    rw [← e2]
    simpa using h2
theorem roomH_spec {S : List Sg} {no : Int} {k : Nat} (h : roomH S no = some k) : k < S.length ∧ lenAt S k ≤ 5 ∧ (k : Int) ≠ no := by
  unfold roomH at h
  cases h1 : (List.range S.length).find? (roomP S no) with
  | some a =>
    rw [h1, Option.some_or] at h
    injection h with h
    subst h
    obtain ⟨h2, h3⟩ := find_range h1
    unfold roomP at h3
    have := of_decide_eq_true h3
    exact ⟨h2, this.2.2, this.1⟩
  | none =>
    rw [h1, Option.none_or] at h
    obtain ⟨h2, h3⟩ := find_range h
    unfold roomQ at h3
    have := of_decide_eq_true h3
    exact ⟨h2, by omega, this.1⟩
theorem prs_app (bl : List Int) (v : List Bool) (x : Int) (b : Bool) (a a' : Int) (h : v.length = bl.length) : prs ⟨bl ++ [x], a⟩ (v ++ [b]) = prs ⟨bl, a'⟩ v ++ [(x, b)] := by
  unfold prs
  show List.zip (bl ++ [x]) (v ++ [b]) = List.zip bl v ++ [(x, b)]
  rw [List.zip_append h.symm]
  rfl
theorem prs_off (s : Sg) (v : List Bool) (i : Nat) (f : Int × Bool → Bool) (hi : i < s.bl.length) (hi' : i < v.length) : (prs s (v.set i false)).countP f + (if f (s.bl[i], v[i]) = true then 1 else 0) = (prs s v).countP f + (if f (s.bl[i], false) = true then 1 else 0) := by
  have e : prs s (v.set i false) = (prs s v).set i (s.bl[i], false) := by
    unfold prs
    apply List.ext_getElem
    · simp
    · intro j h1 h2
      simp only [List.getElem_zip, List.getElem_set]
      split
      · rename_i e; subst e; rfl
      · rfl
  have hlt : i < (prs s v).length := by simp [prs]; omega
  have e2 : (prs s v)[i] = (s.bl[i], v[i]) := by simp [prs]
  have h1 : prs s v = (prs s v).take i ++ (s.bl[i], v[i]) :: (prs s v).drop (i + 1) := by
    rw [← e2, ← List.drop_eq_getElem_cons hlt, List.take_append_drop]
  rw [e, List.set_eq_take_append_cons_drop, if_pos hlt, List.countP_append, List.countP_cons]
  conv => rhs; rw [h1, List.countP_append, List.countP_cons]
  omega
/-- how many of a kind a write leaves -/
theorem wrH_count {S : List Sg} {L : List (List Bool)} {x no : Int} {t : List Sg × List (List Bool)} (hl : L.length = S.length) (hv : ∀ k (h : k < S.length), (L[k]'(by omega)).length = S[k].bl.length) (h : wrH S L x no = some t) (f : Int × Bool → Bool) :
    (allP t.1 t.2).countP f = (allP S L).countP f + (if whereH S L x = none then (if f (x, true) = true then 1 else 0) else (if f (x, false) = true then 1 else 0)) ∧ t.1.length = S.length ∧ t.2.length = S.length ∧ ∀ k (h : k < t.1.length) (h' : k < t.2.length), t.2[k].length = t.1[k].bl.length ∧ (t.1[k].bl = blAt S k ∨ (t.1[k].bl = blAt S k ++ [x] ∧ lenAt S k ≤ 5)) ∧ t.1[k].age = ageAt S k := by
  unfold wrH at h
  cases hr : roomH S no with
  | none => rw [hr] at h; cases h
  | some to =>
    rw [hr] at h
    injection h with h
    subst h
    obtain ⟨hto, h5, _⟩ := roomH_spec hr
    have hol := offL_len L (whereH S L x)
    have hov := offL_at L (whereH S L x)
    have hlen : (lvAt (offL L (whereH S L x)) to).length = (blAt S to).length := by
      rw [hov to (by omega), lvAt_eq L to (by omega), blAt_eq S to hto]
      exact hv to hto
    refine ⟨?_, List.length_set, by show (putL _ to).length = _; unfold putL; rw [List.length_set, hol, hl], fun k h1 h2 => ?_⟩
    · show (allP (putS S to x) (putL (offL L (whereH S L x)) to)).countP f = _
      unfold putS putL
      have c := cP_set S (offL L (whereH S L x)) to hto (by omega) ⟨blAt S to ++ [x], ageAt S to⟩ (lvAt (offL L (whereH S L x)) to ++ [true]) f
      rw [prs_app _ _ _ _ _ S[to].age hlen, List.countP_append] at c
      have e1 : prs ⟨blAt S to, S[to].age⟩ (lvAt (offL L (whereH S L x)) to) = prs S[to] ((offL L (whereH S L x))[to]'(by omega)) := by
        rw [lvAt_eq _ to (by omega), blAt_eq S to hto]
      rw [e1] at c
      have e2 : [(x, true)].countP f = if f (x, true) = true then 1 else 0 := by rw [List.countP_cons]; simp
      rw [e2] at c
      have c4 : (allP (S.set to ⟨blAt S to ++ [x], ageAt S to⟩) ((offL L (whereH S L x)).set to (lvAt (offL L (whereH S L x)) to ++ [true]))).countP f = (allP S (offL L (whereH S L x))).countP f + (if f (x, true) = true then 1 else 0) := by omega
      rw [c4]
      clear c c4 e1 e2 hlen hov hol
      cases hw : whereH S L x with
      | none =>
        rw [if_pos rfl]
        rfl
      | some q =>
        obtain ⟨k, i⟩ := q
        obtain ⟨w1, w2, w3, w4⟩ := whereH_spec hw
        have e3 : offL L (some (k, i)) = L.set k ((lvAt L k).set i false) := rfl
        have c2 := cP_set S L k w1 (by omega) S[k] ((lvAt L k).set i false) f
        rw [List.set_getElem_self] at c2
        have w5 : i < S[k].bl.length := by rw [← blAt_eq S k w1]; exact w2
        have w6 : i < L[k].length := by rw [hv k w1]; exact w5
        have c3 := prs_off S[k] L[k] i f w5 w6
        rw [lvAt_eq L k (by omega)] at c2
        have e4 : S[k].bl[i] = x := by rw [blAt_eq S k w1, List.getD_eq_getElem?_getD, List.getElem?_eq_getElem w5] at w3; exact w3
        have e5 : L[k][i] = true := by rw [lvAt_eq L k (by omega), List.getD_eq_getElem?_getD, List.getElem?_eq_getElem w6] at w4; exact w4
        rw [e4, e5] at c3
        rw [lvAt_eq L k (by omega)] at e3
        rw [e3]
        simp only [reduceCtorEq, if_false]
        omega
    · have hkS : k < S.length := by have : (putS S to x).length = S.length := List.length_set; have h1' : k < (putS S to x).length := h1; omega
      have g1 : (putS S to x)[k]'h1 = if to = k then ⟨blAt S to ++ [x], ageAt S to⟩ else S[k] := List.getElem_set h1
      have g2 : (putL (offL L (whereH S L x)) to)[k]'h2 = if to = k then lvAt (offL L (whereH S L x)) to ++ [true] else (offL L (whereH S L x))[k]'(by omega) := List.getElem_set h2
      show ((putL (offL L (whereH S L x)) to)[k]'h2).length = ((putS S to x)[k]'h1).bl.length ∧ (((putS S to x)[k]'h1).bl = _ ∨ _) ∧ ((putS S to x)[k]'h1).age = _
      rw [g1, g2]
      by_cases e : to = k
      · subst e
        rw [if_pos rfl, if_pos rfl]
        refine ⟨?_, Or.inr ⟨rfl, h5⟩, rfl⟩
        show (_ ++ [true]).length = (_ ++ [x]).length
        rw [List.length_append, List.length_append, hlen]
        rfl
      · rw [if_neg e, if_neg e]
        refine ⟨?_, Or.inl (blAt_eq S k hkS).symm, (ageAt_eq S k hkS).symm⟩
        have := hov k (by omega)
        rw [lvAt_eq _ k (by omega), lvAt_eq L k (by omega)] at this
        rw [this]
        exact hv k hkS
theorem goodH_lens {S : List Sg} {L : List (List Bool)} (hl : L.length = S.length) (hg : goodH S L = true) : ∀ k (h : k < S.length), (L[k]'(by omega)).length = S[k].bl.length := fun k h => ((goodS_iff _ _).1 (((goodH_iff S L hl).1 hg).2.1 k h)).2.2.2.2
theorem ever_count (P : List (Int × Bool)) (b : Nat) : everB P b = true ↔ 0 < P.countP fun p => p.1 == (b : Int) := by
  unfold everB
  rw [List.countP_pos_iff, List.any_eq_true]
/-- what is alive behind a write -/
theorem wrH_live {S : List Sg} {L : List (List Bool)} {no : Int} {x : Nat} {t : List Sg × List (List Bool)} (hl : L.length = S.length) (hg : goodH S L = true) (hx : x < 16) (h : wrH S L (x : Int) no = some t) (b : Nat) :
    liveN (allP t.1 t.2) b = if b = x then 1 else liveN (allP S L) b := by
  have hv := goodH_lens hl hg
  obtain ⟨c, _⟩ := wrH_count hl hv h (fun p => p.1 == (b : Int) && p.2)
  have c : liveN (allP t.1 t.2) b = liveN (allP S L) b + (if whereH S L (x : Int) = none then (if ((x : Int) == (b : Int) && true) = true then 1 else 0) else (if ((x : Int) == (b : Int) && false) = true then 1 else 0)) := c
  rw [c]
  have hok := (of_decide_eq_true (((goodH_iff S L hl).1 hg).2.2 x hx)).1
  cases hw : whereH S L (x : Int) with
  | none =>
    rw [if_pos rfl]
    by_cases e : b = x
    · subst e
      have hz : liveN (allP S L) b = 0 := by
        unfold liveN
        rw [List.countP_eq_zero]
        intro p hp
        have := whereH_none hl hw p hp
        simpa using this
      rw [hz]
      simp
    · have : ((x : Int) == (b : Int)) = false := beq_eq_false_iff_ne.2 (by omega)
      simp [this, e]
  | some q =>
    obtain ⟨k, i⟩ := q
    simp only [reduceCtorEq, if_false, Bool.and_false, Bool.false_eq_true, Nat.add_zero]
    by_cases e : b = x
    · subst e
      rw [if_pos rfl]
      obtain ⟨w1, w2, w3, w4⟩ := whereH_spec hw
      have hm : ((b : Int), true) ∈ allP S L := by
        unfold allP
        refine List.mem_flatten.2 ⟨prs S[k] (L[k]'(by omega)), ?_, ?_⟩
        · exact List.mem_iff_getElem.2 ⟨k, by simp; omega, by rw [List.getElem_zipWith]⟩
        · have w5 : i < S[k].bl.length := by rw [← blAt_eq S k w1]; exact w2
          have w6 : i < (L[k]'(by omega)).length := by rw [hv k w1]; exact w5
          rw [blAt_eq S k w1, List.getD_eq_getElem?_getD, List.getElem?_eq_getElem w5] at w3
          rw [lvAt_eq L k (by omega), List.getD_eq_getElem?_getD, List.getElem?_eq_getElem w6] at w4
          refine List.mem_iff_getElem.2 ⟨i, by simp [prs]; omega, ?_⟩
          simp only [prs, List.getElem_zip]
          exact Prod.ext w3 w4
      have : 0 < liveN (allP S L) b := by
        unfold liveN
        rw [List.countP_pos_iff]
        exact ⟨_, hm, by simp⟩
      omega
    · rw [if_neg e]
/-- a write keeps a heap good -/
theorem wrH_good {S : List Sg} {L : List (List Bool)} {no : Int} {x : Nat} {t : List Sg × List (List Bool)} (hl : L.length = S.length) (hg : goodH S L = true) (hx : x < 16) (h : wrH S L (x : Int) no = some t) : goodH t.1 t.2 = true ∧ t.2.length = t.1.length := by
  have hv := goodH_lens hl hg
  have hlive := wrH_live hl hg hx h
  have hcnt := fun f => (wrH_count hl hv h f).1
  obtain ⟨_, l1, l2, hat⟩ := wrH_count hl hv h (fun _ => true)
  obtain ⟨g1, g2, g3⟩ := (goodH_iff S L hl).1 hg
  refine ⟨(goodH_iff _ _ (by omega)).2 ⟨by rw [l1]; exact g1, fun k hk => ?_, fun b hb => ?_⟩, by omega⟩
  · obtain ⟨a1, a2, a3⟩ := hat k hk (by omega)
    obtain ⟨s1, s2, s3, s4, s5⟩ := (goodS_iff _ _).1 (g2 k (by omega))
    rw [goodS_iff, a3, ageAt_eq S k (by omega), a1]
    refine ⟨?_, ?_, s3, s4, rfl⟩
    · rcases a2 with e | ⟨e, h5⟩
      · rw [e, blAt_eq S k (by omega)]; exact s1
      · rw [e, List.length_append, blAt_eq S k (by omega)]
        rw [lenAt_eq S k (by omega)] at h5
        simp
        omega
    · intro y hy
      rcases a2 with e | ⟨e, h5⟩
      · rw [e, blAt_eq S k (by omega)] at hy; exact s2 y hy
      · rw [e, List.mem_append, blAt_eq S k (by omega)] at hy
        rcases hy with hy | hy
        · exact s2 y hy
        · simp at hy; omega
  · have ok := of_decide_eq_true (g3 b hb)
    unfold okB
    rw [decide_eq_true_iff, hlive b]
    by_cases e : b = x
    · rw [if_pos e]; simp
    · rw [if_neg e]
      refine ⟨ok.1, fun he => ok.2 ?_⟩
      rw [ever_count] at he ⊢
      rw [hcnt] at he
      have : ((x : Int) == (b : Int)) = false := beq_eq_false_iff_ne.2 (by omega)
      simp only [this, Bool.false_eq_true, if_false, ite_self, Nat.add_zero] at he
      exact he
theorem flat_mem (S : List Sg) (L : List (List Bool)) (b : Nat) : (b : Int) ∈ Q.flatB S L ↔ 0 < liveN (allP S L) b := by
  unfold Q.flatB liveN
  rw [List.countP_pos_iff, List.mem_map]
  constructor
  · rintro ⟨p, hp, e⟩
    obtain ⟨h1, h2⟩ := List.mem_filter.1 hp
    exact ⟨p, h1, by simp [e, h2]⟩
  · rintro ⟨p, hp, e⟩
    simp at e
    exact ⟨p, List.mem_filter.2 ⟨hp, e.2⟩, e.1⟩
theorem flat_in {S : List Sg} {L : List (List Bool)} (hl : L.length = S.length) (hg : goodH S L = true) {y : Int} (h : y ∈ Q.flatB S L) : 0 ≤ y ∧ y ≤ 15 := by
  unfold Q.flatB at h
  obtain ⟨p, hp, rfl⟩ := List.mem_map.1 h
  obtain ⟨h1, _⟩ := List.mem_filter.1 hp
  unfold allP at h1
  obtain ⟨l, hl1, hp1⟩ := List.mem_flatten.1 h1
  obtain ⟨k, hk, e⟩ := List.getElem_of_mem hl1
  rw [List.getElem_zipWith] at e
  have hkS : k < S.length := by simp at hk; omega
  obtain ⟨_, s2, _⟩ := (goodS_iff _ _).1 (((goodH_iff S L hl).1 hg).2.1 k hkS)
  rw [← e] at hp1
  unfold prs at hp1
  exact s2 _ (List.of_mem_zip hp1).1
theorem flatB_cnt (S : List Sg) (L : List (List Bool)) : (Q.flatB S L).length = (allP S L).countP (·.2) := by
  unfold Q.flatB
  rw [List.length_map, List.countP_eq_length_filter]
/-- of the live blocks a write loses none and brings one at most -/
theorem wrH_flat {S : List Sg} {L : List (List Bool)} {no : Int} {x : Nat} {t : List Sg × List (List Bool)} (hl : L.length = S.length) (hg : goodH S L = true) (hx : x < 16) (h : wrH S L (x : Int) no = some t) :
    (∀ y ∈ Q.flatB S L, y ∈ Q.flatB t.1 t.2) ∧ (Q.flatB t.1 t.2).length ≤ (Q.flatB S L).length + 1 ∧ (x : Int) ∈ Q.flatB t.1 t.2 := by
  have hlive := wrH_live hl hg hx h
  refine ⟨fun y hy => ?_, ?_, ?_⟩
  · have hy2 := flat_in hl hg hy
    obtain ⟨b, rfl⟩ : ∃ b : Nat, y = (b : Int) := ⟨y.toNat, by omega⟩
    rw [flat_mem] at hy ⊢
    rw [hlive]
    split <;> omega
  · rw [flatB_cnt, flatB_cnt, (wrH_count hl (goodH_lens hl hg) h (·.2)).1]
    simp only [if_true]
    split <;> simp
  · rw [flat_mem, hlive, if_pos rfl]; omega
theorem whereH_of {S : List Sg} {L : List (List Bool)} {x : Int} (hl : L.length = S.length) (h : x ∈ Q.flatB S L) : ∃ k i, whereH S L x = some (k, i) := by
  cases hw : whereH S L x with
  | some q => exact ⟨q.1, q.2, rfl⟩
  | none =>
    unfold Q.flatB at h
    obtain ⟨p, hp, e⟩ := List.mem_map.1 h
    obtain ⟨h1, h2⟩ := List.mem_filter.1 hp
    exact absurd ⟨e, h2⟩ (whereH_none hl hw p h1)
theorem best_none (S : List Sg) (L : List (List Bool)) (how : Int) : ∀ n, bestH S L how n = none → ∀ j, j < n → lenAt S j ≠ 6
  | 0, _, j, hj => by omega
  | n + 1, h, j, hj => by
    rw [best_step] at h
    cases hb : bestH S L how n with
    | none =>
      rw [hb] at h
      simp only at h
      split at h
      · cases h
      · rename_i h6
        by_cases e : j = n
        · rw [e]; exact h6
        · exact best_none S L how n hb j (by omega)
    | some c =>
      rw [hb] at h
      simp only at h
      split at h <;> cases h
/-- the one that is picked is full, and of the full ones none has less alive where that is asked -/
theorem best_full (S : List Sg) (L : List (List Bool)) (how : Int) : ∀ n b, bestH S L how n = some b → lenAt S b = 6 ∧ (how = 1 → ∀ j, j < n → lenAt S j = 6 → cntAt L b ≤ cntAt L j)
  | 0, _, h => by cases h
  | n + 1, b, h => by
    rw [best_step] at h
    cases hb : bestH S L how n with
    | none =>
      rw [hb] at h
      simp only at h
      split at h
      · rename_i h6
        cases h
        refine ⟨h6, fun _ j hj hj6 => ?_⟩
        by_cases e : j = n
        · rw [e]; exact Nat.le_refl _
        · exact absurd hj6 (best_none S L how n hb j (by omega))
      · cases h
    | some c =>
      rw [hb] at h
      obtain ⟨i1, i2⟩ := best_full S L how n c hb
      simp only at h
      split at h
      · rename_i h6
        cases h
        refine ⟨h6.1, fun h1 j hj hj6 => ?_⟩
        have hlt := h6.2
        unfold betH at hlt
        rw [if_pos h1] at hlt
        have hlt := of_decide_eq_true hlt
        by_cases e : j = n
        · rw [e]; exact Nat.le_refl _
        · have := i2 h1 j (by omega) hj6
          omega
      · rename_i h6
        cases h
        refine ⟨i1, fun h1 j hj hj6 => ?_⟩
        by_cases e : j = n
        · subst e
          rcases Nat.lt_or_ge (cntAt L j) (cntAt L b) with g | g
          · refine absurd ⟨hj6, ?_⟩ h6
            unfold betH
            rw [if_pos h1]
            exact decide_eq_true (by omega)
          · exact g
        · exact i2 h1 j (by omega) hj6
end Go.Proofs.Ytohkhcjdjjlfbaa
