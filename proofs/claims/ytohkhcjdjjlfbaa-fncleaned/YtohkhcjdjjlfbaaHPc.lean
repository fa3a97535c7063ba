/- What cleaning keeps of a heap; plain. -/
import Derived.Test.YtohkhcjdjjlfbaaHPw
import Derived.Test.YtohkhcjdjjlfbaaHCl
namespace Go.Proofs.Ytohkhcjdjjlfbaa
set_option maxRecDepth 100000
open Go Go.RowKit G00541
/-- one live pair put off: how many of a kind are left -/
theorem off_count {S : List Sg} {L : List (List Bool)} {x : Int} {k i : Nat} (hl : L.length = S.length) (hv : ∀ k (h : k < S.length), (L[k]'(by omega)).length = S[k].bl.length) (hw : whereH S L x = some (k, i)) (f : Int × Bool → Bool) :
    (allP S (L.set k ((lvAt L k).set i false))).countP f + (if f (x, true) = true then 1 else 0) = (allP S L).countP f + (if f (x, false) = true then 1 else 0) := by
  obtain ⟨w1, w2, w3, w4⟩ := whereH_spec hw
  have c2 := cP_set S L k w1 (by omega) S[k] ((lvAt L k).set i false) f
  rw [List.set_getElem_self] at c2
  have w5 : i < S[k].bl.length := by rw [← blAt_eq S k w1]; exact w2
  have w6 : i < (L[k]'(by omega)).length := by rw [hv k w1]; exact w5
  have c3 := prs_off S[k] (L[k]'(by omega)) i f w5 w6
  rw [lvAt_eq L k (by omega)] at c2 ⊢
  have e4 : S[k].bl[i] = x := by rw [blAt_eq S k w1, List.getD_eq_getElem?_getD, List.getElem?_eq_getElem w5] at w3; exact w3
  have e5 : (L[k]'(by omega))[i] = true := by rw [lvAt_eq L k (by omega), List.getD_eq_getElem?_getD, List.getElem?_eq_getElem w6] at w4; exact w4
  rw [e4, e5] at c3
  omega
theorem liv_flat {S : List Sg} {L : List (List Bool)} (hl : L.length = S.length) {k : Nat} (hk : k < S.length) {y : Int} (h : y ∈ livB (blAt S k) (lvAt L k)) : y ∈ Q.flatB S L := by
  unfold livB at h
  obtain ⟨p, hp, e⟩ := List.mem_map.1 h
  obtain ⟨h1, h2⟩ := List.mem_filter.1 hp
  rw [blAt_eq S k hk, lvAt_eq L k (by omega)] at h1
  unfold Q.flatB
  refine List.mem_map.2 ⟨p, List.mem_filter.2 ⟨?_, h2⟩, e⟩
  unfold allP
  exact List.mem_flatten.2 ⟨_, List.mem_iff_getElem.2 ⟨k, by simp; omega, by rw [List.getElem_zipWith]; rfl⟩, h1⟩
theorem livB_off (l : List Int) (v : List Bool) (i : Nat) (hi : i < l.length) (hi' : i < v.length) (ht : v[i] = true) : ∃ A B, livB l v = A ++ l[i] :: B ∧ livB l (v.set i false) = A ++ B := by
  refine ⟨livB (l.take i) (v.take i), livB (l.drop (i + 1)) (v.drop (i + 1)), ?_, ?_⟩
  · unfold livB
    have e : l.zip v = (l.take i).zip (v.take i) ++ (l[i], v[i]) :: (l.drop (i + 1)).zip (v.drop (i + 1)) := by
      have h1 : l = l.take i ++ l[i] :: l.drop (i + 1) := by rw [← List.drop_eq_getElem_cons hi, List.take_append_drop]
      have h2 : v = v.take i ++ v[i] :: v.drop (i + 1) := by rw [← List.drop_eq_getElem_cons hi', List.take_append_drop]
      conv => lhs; rw [h1, h2]
      rw [List.zip_append (by simp; omega)]
      rfl
    rw [e, List.filter_append, List.map_append, List.filter_cons, ht]
    simp
  · unfold livB
    have e : l.zip (v.set i false) = (l.take i).zip (v.take i) ++ (l[i], false) :: (l.drop (i + 1)).zip (v.drop (i + 1)) := by
      have h1 : l = l.take i ++ l[i] :: l.drop (i + 1) := by rw [← List.drop_eq_getElem_cons hi, List.take_append_drop]
      rw [List.set_eq_take_append_cons_drop, if_pos hi']
      conv => lhs; rw [h1]
      rw [List.zip_append (by simp; omega)]
      rfl
    rw [e, List.filter_append, List.map_append, List.filter_cons]
    simp
/-- the first live block of the segment goes elsewhere: the others are left -/
theorem wrH_head {S : List Sg} {L : List (List Bool)} {k y : Nat} {ys : List Int} {t : List Sg × List (List Bool)} (hl : L.length = S.length) (hg : goodH S L = true) (hy : y < 16) (hk : k < S.length) (hb : livB (blAt S k) (lvAt L k) = (y : Int) :: ys) (h : wrH S L (y : Int) (k : Int) = some t) :
    livB (blAt t.1 k) (lvAt t.2 k) = ys ∧ liveN (allP S L) y = 1 := by
  have hv := goodH_lens hl hg
  have hm : (y : Int) ∈ Q.flatB S L := liv_flat hl hk (by rw [hb]; simp)
  have h1 : liveN (allP S L) y = 1 := by
    have a := (flat_mem S L y).1 hm
    have b := (of_decide_eq_true (((goodH_iff S L hl).1 hg).2.2 y hy)).1
    omega
  obtain ⟨k', i, hw⟩ := whereH_of hl hm
  have c := off_count hl hv hw (fun p => p.1 == (y : Int) && p.2)
  have c0 : liveN (allP S (L.set k' ((lvAt L k').set i false))) y = 0 := by
    have c : liveN (allP S (L.set k' ((lvAt L k').set i false))) y + (if ((y : Int) == (y : Int) && true) = true then 1 else 0) = liveN (allP S L) y + (if ((y : Int) == (y : Int) && false) = true then 1 else 0) := c
    rw [h1] at c
    simpa using c
  have hno : (y : Int) ∉ livB (blAt S k) (lvAt (L.set k' ((lvAt L k').set i false)) k) := fun hin => by
    have := (flat_mem S _ y).1 (liv_flat (by rw [List.length_set]; exact hl) hk hin)
    omega
  obtain ⟨w1, w2, w3, w4⟩ := whereH_spec hw
  refine ⟨?_, h1⟩
  unfold wrH at h
  cases hr : roomH S (k : Int) with
  | none => rw [hr] at h; cases h
  | some to =>
    rw [hr] at h
    injection h with h
    subst h
    obtain ⟨hto, h5, hne⟩ := roomH_spec hr
    have hne : k ≠ to := fun e => hne (by rw [e])
    show livB (blAt (putS S to y) k) (lvAt (putL (offL L (whereH S L (y : Int))) to) k) = ys
    have e1 : blAt (putS S to y) k = blAt S k := by
      unfold putS
      rw [blAt_set _ _ _ _ hk, if_neg hne]
    have e2 : lvAt (putL (offL L (whereH S L (y : Int))) to) k = lvAt (L.set k' ((lvAt L k').set i false)) k := by
      rw [hw]
      show lvAt (putL (L.set k' ((lvAt L k').set i false)) to) k = _
      unfold putL
      rw [lvAt_set _ _ _ _ (by rw [List.length_set]; omega), if_neg hne]
    rw [e1, e2]
    by_cases e : k = k'
    · subst e
      rw [lvAt_set _ _ _ _ (by omega), if_pos rfl] at hno ⊢
      have w6 : i < (lvAt L k).length := by rw [lvAt_eq L k (by omega), hv k hk, ← blAt_eq S k hk]; exact w2
      rw [List.getD_eq_getElem?_getD, List.getElem?_eq_getElem w6] at w4
      rw [List.getD_eq_getElem?_getD, List.getElem?_eq_getElem w2] at w3
      obtain ⟨A, B, p1, p2⟩ := livB_off (blAt S k) (lvAt L k) i w2 w6 w4
      have w3 : (blAt S k)[i] = (y : Int) := w3
      rw [p2] at hno ⊢
      rw [hb, w3] at p1
      cases A with
      | nil => injection p1 with _ p1; exact p1.symm
      | cons z A =>
        injection p1 with p1 _
        exact absurd (by rw [p1]; simp) hno
    · rw [lvAt_set _ _ _ _ (by omega), if_neg e, hb] at hno
      exact absurd (by simp) hno
/-- all live blocks of a segment go elsewhere -/
theorem wrs_all (k : Nat) : ∀ (ys : List Int) (S : List Sg) (L : List (List Bool)) (t : List Sg × List (List Bool)), L.length = S.length → goodH S L = true → k < S.length → livB (blAt S k) (lvAt L k) = ys → wrs k ys (S, L) = some t →
    goodH t.1 t.2 = true ∧ t.2.length = t.1.length ∧ t.1.length = S.length ∧ livB (blAt t.1 k) (lvAt t.2 k) = [] ∧ ∀ b, liveN (allP t.1 t.2) b = liveN (allP S L) b
  | [], S, L, t, hl, hg, hk, hb, h => by
    have h' : some (S, L) = some t := h
    obtain rfl := Option.some.inj h'
    exact ⟨hg, hl, rfl, hb, fun _ => rfl⟩
  | y :: ys, S, L, t, hl, hg, hk, hb, h => by
    have hy := flat_in hl hg (liv_flat hl hk (by rw [hb]; simp) : y ∈ Q.flatB S L)
    obtain ⟨yn, rfl⟩ : ∃ yn : Nat, y = (yn : Int) := ⟨y.toNat, by omega⟩
    have h' : (match wrH S L (yn : Int) k with | some u => wrs k ys u | none => none) = some t := h
    cases hw : wrH S L (yn : Int) k with
    | none => rw [hw] at h'; cases h'
    | some u =>
      rw [hw] at h'
      obtain ⟨S1, L1⟩ := u
      have g := wrH_good hl hg (by omega) hw
      have hh := wrH_head hl hg (by omega) hk hb hw
      have hlen := wrH_len hw
      obtain ⟨r1, r2, r3, r4, r5⟩ := wrs_all k ys S1 L1 t g.2 g.1 (by have : S1.length = S.length := hlen; omega) hh.1 h'
      refine ⟨r1, r2, r3.trans hlen, r4, fun b => (r5 b).trans ((wrH_live hl hg (by omega) hw b).trans ?_)⟩
      split
      · rename_i e; rw [e]; exact hh.2.symm
      · rfl
theorem aged_in {a : Int} (h : 0 ≤ a ∧ a ≤ 1000) : 0 ≤ aged a ∧ aged a ≤ 1000 := by
  unfold aged
  split <;> omega
theorem agesN_in (S : List Sg) (h : ∀ i, i < S.length → 0 ≤ ageAt S i ∧ ageAt S i ≤ 1000) : ∀ n i, i < S.length → 0 ≤ ageAt (agesN S n) i ∧ ageAt (agesN S n) i ≤ 1000
  | 0, i, hi => h i hi
  | n + 1, i, hi => by
    rw [agesN, ageAt_set _ _ _ _ (by rw [agesN_len]; exact hi)]
    split
    · rename_i e
      subst e
      exact aged_in (agesN_in S h i i hi)
    · exact agesN_in S h n i hi
theorem allP_bl {S S' : List Sg} (L : List (List Bool)) (hl : S'.length = S.length) (h : ∀ i, i < S.length → blAt S' i = blAt S i) : allP S' L = allP S L := by
  unfold allP
  congr 1
  apply List.ext_getElem
  · simp [hl]
  · intro i h1 h2
    rw [List.getElem_zipWith, List.getElem_zipWith]
    have hi : i < S.length := by simp at h2; omega
    have e := h i hi
    rw [blAt_eq S' i (by omega), blAt_eq S i hi] at e
    unfold prs
    rw [e]
/-- a heap whose live blocks of one segment are elsewhere, cleared of it -/
theorem cl_keeps {S : List Sg} {L : List (List Bool)} {k : Nat} (hl : L.length = S.length) (hg : goodH S L = true) (hk : k < S.length) (hb : livB (blAt S k) (lvAt L k) = []) :
    goodH (clS S k) (clL L k) = true ∧ (clL L k).length = (clS S k).length ∧ (∀ b, liveN (allP (clS S k) (clL L k)) b = liveN (allP S L) b) ∧ blAt (clS S k) k = [] := by
  obtain ⟨g1, g2, g3⟩ := (goodH_iff S L hl).1 hg
  have ha : (agesN S S.length).length = S.length := agesN_len S _
  have hc : ∀ f, (allP (clS S k) (clL L k)).countP f + (prs S[k] (L[k]'(by omega))).countP f = (allP S L).countP f := fun f => by
    have c := cP_set (agesN S S.length) L k (by omega) (by omega) ⟨[], 0⟩ [] f
    have e : prs ((agesN S S.length)[k]'(by omega)) (L[k]'(by omega)) = prs S[k] (L[k]'(by omega)) := by
      have e1 := agesN_bl S S.length k hk
      rw [blAt_eq _ k (by omega), blAt_eq S k hk] at e1
      unfold prs
      rw [e1]
    rw [e, allP_bl L ha (fun i hi => agesN_bl S S.length i hi)] at c
    have z : (prs ⟨[], 0⟩ []).countP f = 0 := rfl
    rw [z] at c
    exact c
  have hz : ∀ b, (prs S[k] (L[k]'(by omega))).countP (fun p => p.1 == ((b : Nat) : Int) && p.2) = 0 := fun b => by
    rw [List.countP_eq_zero]
    intro p hp hf
    have : p.1 ∈ livB (blAt S k) (lvAt L k) := by
      rw [blAt_eq S k hk, lvAt_eq L k (by omega)]
      unfold livB
      simp at hf
      exact List.mem_map.2 ⟨p, List.mem_filter.2 ⟨hp, hf.2⟩, rfl⟩
    rw [hb] at this
    cases this
  have hlive : ∀ b, liveN (allP (clS S k) (clL L k)) b = liveN (allP S L) b := fun b => by
    have c := hc (fun p => p.1 == ((b : Nat) : Int) && p.2)
    rw [hz b] at c
    exact c
  have hcl : (clL L k).length = (clS S k).length := by rw [clL_len, clS_len, hl]
  have hbk : blAt (clS S k) k = [] := by
    unfold clS
    rw [blAt_set _ _ _ _ (by omega), if_pos rfl]
  refine ⟨(goodH_iff _ _ hcl).2 ⟨by rw [clS_len]; exact g1, fun j hj => ?_, fun b hb => ?_⟩, hcl, hlive, hbk⟩
  · have hjS : j < S.length := by rw [clS_len] at hj; exact hj
    have e1 : (clS S k)[j]'hj = if k = j then ⟨[], 0⟩ else (agesN S S.length)[j]'(by omega) := List.getElem_set hj
    have e2 : (clL L k)[j]'(by rw [hcl]; exact hj) = if k = j then [] else L[j]'(by omega) := List.getElem_set _
    rw [e1, e2]
    by_cases e : k = j
    · rw [if_pos e, if_pos e]; rfl
    · rw [if_neg e, if_neg e]
      obtain ⟨s1, s2, s3, s4, s5⟩ := (goodS_iff _ _).1 (g2 j hjS)
      have b1 := agesN_bl S S.length j hjS
      rw [blAt_eq _ j (by omega), blAt_eq S j hjS] at b1
      have a1 := agesN_in S (fun i hi => by
        obtain ⟨_, _, q3, q4, _⟩ := (goodS_iff _ _).1 (g2 i hi)
        rw [ageAt_eq S i hi]; exact ⟨q3, q4⟩) S.length j hjS
      rw [ageAt_eq _ j (by omega)] at a1
      rw [goodS_iff, b1]
      exact ⟨s1, s2, a1.1, a1.2, s5⟩
  · have ok := of_decide_eq_true (g3 b hb)
    unfold okB
    rw [decide_eq_true_iff, hlive b]
    refine ⟨ok.1, fun he => ok.2 ?_⟩
    rw [ever_count] at he ⊢
    have := hc (fun p => p.1 == ((b : Nat) : Int))
    omega
/-- two good heaps with the same blocks alive: the same list of them -/
theorem flat_same {S S' : List Sg} {L L' : List (List Bool)} (hl : L.length = S.length) (hl' : L'.length = S'.length) (hg : goodH S L = true) (hg' : goodH S' L' = true) (h : ∀ b, liveN (allP S' L') b = liveN (allP S L) b) : sortN (Q.flatB S' L') = sortN (Q.flatB S L) := by
  have hcnt : ∀ (S : List Sg) (L : List (List Bool)) (b : Nat), (Q.flatB S L).count (b : Int) = liveN (allP S L) b := fun S L b => by
    unfold Q.flatB liveN List.count
    rw [List.countP_map, List.countP_filter]
    rfl
  have hp : (Q.flatB S' L').Perm (Q.flatB S L) := List.perm_iff_count.2 fun y => by
    by_cases hy : 0 ≤ y
    · obtain ⟨b, rfl⟩ : ∃ b : Nat, y = (b : Int) := ⟨y.toNat, by omega⟩
      rw [hcnt, hcnt, h]
    · rw [List.count_eq_zero.2 (fun hin => hy (flat_in hl' hg' hin).1), List.count_eq_zero.2 (fun hin => hy (flat_in hl hg hin).1)]
  exact sorted_eq (sortN_sorted _) (sortN_sorted _) ((sortN_perm _).trans (hp.trans (sortN_perm _).symm))
/-- what cleaning keeps -/
theorem clean_told {S : List Sg} {L : List (List Bool)} {k : Nat} {t : List Sg × List (List Bool)} (hl : L.length = S.length) (hg : goodH S L = true) (hk : k < S.length) (h : wrs k (livB (blAt S k) (lvAt L k)) (S, L) = some t) :
    goodH (clS t.1 k) (clL t.2 k) = true ∧ (clL t.2 k).length = (clS t.1 k).length ∧ (clS t.1 k).length = S.length ∧ sortN (Q.flatB (clS t.1 k) (clL t.2 k)) = sortN (Q.flatB S L) ∧ blAt (clS t.1 k) k = [] ∧ (livB (blAt S k) (lvAt L k)).length = cntAt L k := by
  obtain ⟨r1, r2, r3, r4, r5⟩ := wrs_all k _ S L t hl hg hk rfl h
  obtain ⟨c1, c2, c3, c4⟩ := cl_keeps r2 r1 (by omega) r4
  refine ⟨c1, c2, by rw [clS_len]; exact r3, flat_same hl c2 hg c1 (fun b => (c3 b).trans (r5 b)), c4, ?_⟩
  rw [livB_cnt _ _ (by rw [lvAt_eq L k (by omega), blAt_eq S k hk]; exact goodH_lens hl hg k hk), cntAt_eq L k (by omega), lvAt_eq L k (by omega)]
end Go.Proofs.Ytohkhcjdjjlfbaa
