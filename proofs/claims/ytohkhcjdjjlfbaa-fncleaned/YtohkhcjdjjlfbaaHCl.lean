/- Segments that age, and one that is cleared: in memory of one's own. -/
import Derived.Test.YtohkhcjdjjlfbaaSWks
import Derived.Test.YtohkhcjdjjlfbaaIAn
namespace Go.Proofs.Ytohkhcjdjjlfbaa
set_option maxRecDepth 100000
open Go Go.ChangeShapes Go.WideShapes Go.ChangeAt Go.RowKit G00541
/-- a year more, up to 1000 -/
def aged (a : Int) : Int := if 1000 < a + 1 then 1000 else a + 1
def agesN (S : List Sg) : Nat → List Sg
  | 0 => S
  | n + 1 => (agesN S n).set n ⟨blAt (agesN S n) n, aged (ageAt (agesN S n) n)⟩
theorem agesN_len (S : List Sg) : ∀ n, (agesN S n).length = S.length
  | 0 => rfl
  | n + 1 => by rw [agesN, List.length_set, agesN_len S n]
theorem agesN_age (S : List Sg) : ∀ n i, n ≤ i → i < S.length → ageAt (agesN S n) i = ageAt S i
  | 0, _, _, _ => rfl
  | n + 1, i, h, hi => by
    rw [agesN, ageAt_set _ _ _ _ (by rw [agesN_len]; exact hi), if_neg (by omega)]
    exact agesN_age S n i (by omega) hi
theorem agesN_bl (S : List Sg) : ∀ n i, i < S.length → blAt (agesN S n) i = blAt S i
  | 0, _, _ => rfl
  | n + 1, i, hi => by
    rw [agesN, blAt_set _ _ _ _ (by rw [agesN_len]; exact hi)]
    by_cases e : i = n
    · subst e; rw [if_pos rfl]; exact agesN_bl S i i hi
    · rw [if_neg e]; exact agesN_bl S n i hi
/-- what cleaning leaves of a heap whose live blocks went elsewhere -/
def clS (S : List Sg) (k : Nat) : List Sg := (agesN S S.length).set k ⟨[], 0⟩
def clL (L : List (List Bool)) (k : Nat) : List (List Bool) := L.set k []
theorem clS_len (S : List Sg) (k : Nat) : (clS S k).length = S.length := by unfold clS; rw [List.length_set, agesN_len]
theorem clL_len (L : List (List Bool)) (k : Nat) : (clL L k).length = L.length := by unfold clL; rw [List.length_set]
theorem segXs_age_put (q : Nat → Value) (S : List Sg) (k : Nat) (a : Int) : segXs q (S.set k ⟨blAt S k, a⟩) = (segXs q S).set (k * 2 + 1) (.int .i64 a) := by
  apply List.ext_getElem
  · rw [List.length_set, segXs_len, segXs_len, List.length_set]
  · intro j h1 h2
    rw [List.getElem_set]
    have hj : j < S.length * 2 := by rw [segXs_len, List.length_set] at h1; exact h1
    unfold segXs
    simp only [List.getElem_map, List.getElem_range, List.length_set]
    by_cases e2 : j % 2 = 0
    · rw [if_pos e2, if_neg (by omega), if_pos e2]
    · rw [if_neg e2, if_neg e2, ageAt_set _ _ _ _ (by omega)]
      by_cases e : k * 2 + 1 = j
      · rw [if_pos e, if_pos (by omega)]
      · rw [if_neg e, if_neg (by omega)]
/-- one segment's age is set -/
theorem fam_age {lo : Nat} {vS vL : Value} {q p : Nat → Value} {S : List Sg} {L : List (List Bool)} {w : World} {n : Nat} (h : Fam lo (hd2 S.length n) (hf vS vL q p S L) w) (k : Nat) (g : Nat) (hg : vS.ownBlock = some g) (a : Int) :
    Fam lo (hd2 (S.set k ⟨blAt S k, a⟩).length n) (hf vS vL q p (S.set k ⟨blAt S k, a⟩) L) (w.setCell ⟨g, k * 2 + 1, none⟩ (.int .i64 a)) := by
  rw [List.length_set]
  refine (h.set .s trivial g hg (k * 2 + 1) (.int .i64 a)).congr fun x hx => ?_
  cases x with
  | s =>
    rw [upR_same]
    show (⟨40, 2, vS, (S.set k ⟨blAt S k, a⟩).length, segXs q (S.set k ⟨blAt S k, a⟩)⟩ : Rw) = ⟨40, 2, vS, S.length, (segXs q S).set (k * 2 + 1) (.int .i64 a)⟩
    rw [List.length_set, segXs_age_put]
  | l => rw [upR_other _ _ _ _ (by intro e; cases e)]; rfl
  | b j =>
    rw [upR_other _ _ _ _ (by intro e; cases e)]
    have hj : j < S.length := hx
    show (⟨3, 1, q j, (blAt (S.set k ⟨blAt S k, a⟩) j).length, ivals (blAt (S.set k ⟨blAt S k, a⟩) j)⟩ : Rw) = ⟨3, 1, q j, (blAt S j).length, ivals (blAt S j)⟩
    rw [blAt_set _ _ _ _ hj]
    by_cases e : j = k
    · subst e; rw [if_pos rfl]
    · rw [if_neg e]
  | v j => rw [upR_other _ _ _ _ (by intro e; cases e)]; rfl
theorem grown_refl (w : World) : w.grownBy w none := ⟨rfl, rfl, rfl, Nat.le_refl _, fun _ _ _ => rfl⟩
/-- a segment is cleared -/
theorem fam_clear {lo : Nat} {vS vL : Value} {q p : Nat → Value} {S : List Sg} {L : List (List Bool)} {w : World} {n : Nat} (h : Fam lo (hd2 S.length n) (hf vS vL q p S L) w) (k : Nat) (g : Nat) (hg : vS.ownBlock = some g) :
    Fam lo (hd2 (S.set k ⟨[], 0⟩).length n) (hf vS vL (upN q k (.slice none 0 0)) p (S.set k ⟨[], 0⟩) L) ((w.setCell ⟨g, k * 2, none⟩ (.slice none 0 0)).setCell ⟨g, k * 2 + 1, none⟩ (.int .i64 0)) := by
  have h1 : Fam lo (hd2 S.length n) (hf vS vL (upN q k (.slice none 0 0)) p (S.set k ⟨[], ageAt S k⟩) L) (w.setCell ⟨g, k * 2, none⟩ (.slice none 0 0)) := by
    have h0 := h.grow (.b k) (D' := hd2 S.length n) (fun _ hx _ => hx) ⟨3, 1, .slice none 0 0, 0, []⟩ none (Or.inl rfl) (grown_refl w) (rw_nil _ _ _ _) (fun k e => by cases e)
    have hv : (upR (hf vS vL q p S L) (.b k) ⟨3, 1, .slice none 0 0, 0, []⟩ .s).v.ownBlock = some g := by rw [upR_other _ _ _ _ (by intro e; cases e)]; exact hg
    refine (h0.set .s trivial g hv (k * 2) (.slice none 0 0)).congr fun x hx => ?_
    cases x with
    | s =>
      rw [upR_same, upR_other _ _ _ _ (by intro e; cases e)]
      show (⟨40, 2, vS, (S.set k ⟨[], ageAt S k⟩).length, segXs (upN q k (.slice none 0 0)) (S.set k ⟨[], ageAt S k⟩)⟩ : Rw) = ⟨40, 2, vS, S.length, (segXs q S).set (k * 2) (.slice none 0 0)⟩
      rw [List.length_set, segXs_put q S k ⟨[], ageAt S k⟩ (.slice none 0 0) rfl]
    | l => rw [upR_other _ _ _ _ (by intro e; cases e), upR_other _ _ _ _ (by intro e; cases e)]; rfl
    | b j =>
      rw [upR_other _ _ _ _ (by intro e; cases e)]
      have hj : j < S.length := hx
      show (⟨3, 1, upN q k (.slice none 0 0) j, (blAt (S.set k ⟨[], ageAt S k⟩) j).length, ivals (blAt (S.set k ⟨[], ageAt S k⟩) j)⟩ : Rw) = _
      rw [blAt_set _ _ _ _ hj]
      by_cases e : j = k
      · subst e; rw [if_pos rfl, upR_same, upN_same]; rfl
      · rw [if_neg e, upR_other _ _ _ _ (by intro e2; injection e2 with e2; exact e e2), upN_other _ _ _ _ e]; rfl
    | v j => rw [upR_other _ _ _ _ (by intro e; cases e), upR_other _ _ _ _ (by intro e; cases e)]; rfl
  have h2 : Fam lo (hd2 (S.set k ⟨[], ageAt S k⟩).length n) (hf vS vL (upN q k (.slice none 0 0)) p (S.set k ⟨[], ageAt S k⟩) L) (w.setCell ⟨g, k * 2, none⟩ (.slice none 0 0)) := by rw [List.length_set]; exact h1
  have h3 := fam_age h2 k g hg 0
  have e : (S.set k ⟨[], ageAt S k⟩).set k ⟨blAt (S.set k ⟨[], ageAt S k⟩) k, 0⟩ = S.set k ⟨[], 0⟩ := by
    rw [List.set_set]
    by_cases hk : k < S.length
    · rw [blAt_set _ _ _ _ hk, if_pos rfl]
    · rw [List.set_eq_of_length_le (by omega), List.set_eq_of_length_le (by omega)]
  rw [e] at h3
  exact h3
/-- a row of truth values is cleared -/
theorem fam_none {lo : Nat} {vS vL : Value} {q p : Nat → Value} {S : List Sg} {L : List (List Bool)} {w : World} {m : Nat} (h : Fam lo (hd2 m L.length) (hf vS vL q p S L) w) (k : Nat) (g : Nat) (hg : vL.ownBlock = some g) :
    Fam lo (hd2 m (L.set k []).length) (hf vS vL q (upN p k (.slice none 0 0)) S (L.set k [])) (w.setCell ⟨g, k, none⟩ (.slice none 0 0)) := by
  rw [List.length_set]
  have h0 := h.grow (.v k) (D' := hd2 m L.length) (fun _ hx _ => hx) ⟨4, 1, .slice none 0 0, 0, []⟩ none (Or.inl rfl) (grown_refl w) (rw_nil _ _ _ _) (fun k e => by cases e)
  have hv : (upR (hf vS vL q p S L) (.v k) ⟨4, 1, .slice none 0 0, 0, []⟩ .l).v.ownBlock = some g := by rw [upR_other _ _ _ _ (by intro e; cases e)]; exact hg
  refine (h0.set .l trivial g hv k (.slice none 0 0)).congr fun x hx => ?_
  cases x with
  | s => rw [upR_other _ _ _ _ (by intro e; cases e), upR_other _ _ _ _ (by intro e; cases e)]; rfl
  | l =>
    rw [upR_same, upR_other _ _ _ _ (by intro e; cases e)]
    show (⟨53, 1, vL, (L.set k []).length, livXs (upN p k (.slice none 0 0)) (L.set k []).length⟩ : Rw) = ⟨53, 1, vL, L.length, (livXs p L.length).set k (.slice none 0 0)⟩
    rw [List.length_set, livXs_put]
  | b j => rw [upR_other _ _ _ _ (by intro e; cases e), upR_other _ _ _ _ (by intro e; cases e)]; rfl
  | v j =>
    rw [upR_other _ _ _ _ (by intro e; cases e)]
    have hj : j < L.length := hx
    show (⟨4, 1, upN p k (.slice none 0 0) j, (lvAt (L.set k []) j).length, bvals (lvAt (L.set k []) j)⟩ : Rw) = _
    rw [lvAt_set _ _ _ _ hj]
    by_cases e : j = k
    · subst e; rw [if_pos rfl, upR_same, upN_same]; rfl
    · rw [if_neg e, upR_other _ _ _ _ (by intro e2; injection e2 with e2; exact e e2), upN_other _ _ _ _ e]; rfl
theorem clean_hr {lo lo' n k : Nat} {vS vL : Value} {q p : Nat → Value} {S : List Sg} {L : List (List Bool)} {w : World} (hn : S.length = n) (hl : L.length = S.length) (hlo : lo' ≤ lo)
    (h : Fam lo (hd2 ((agesN S n).set k ⟨[], 0⟩).length (L.set k []).length) (hf vS vL q p ((agesN S n).set k ⟨[], 0⟩) (L.set k [])) w) : HR lo' vS vL (clS S k) (clL L k) w := by
  subst hn
  have h2 : HR lo vS vL (clS S k) (clL L k) w := by
    refine ⟨by rw [clL_len, clS_len]; exact hl, q, p, ?_⟩
    have e : hd (clS S k).length = hd2 ((agesN S S.length).set k ⟨[], 0⟩).length (L.set k []).length := by
      unfold hd
      rw [clS_len, List.length_set, List.length_set, agesN_len, hl]
    rw [e]
    exact h
  exact h2.low hlo
/-- what cleaning answers: a heap, how many went, true; or nothing -/
def COut (o : Option (List Sg × List (List Bool))) (k n : Nat) (w : World) (e : Ending) (w' : World) : Prop := match o with
  | some t => ∃ vS vL, e = .returned (.tuple #[.agg #[vS, vL], .int .i64 n, .bool true]) ∧ HR w.heap.size vS vL (clS t.1 k) (clL t.2 k) w' ∧ Below w.heap.size w w'
  | none => e = .returned (.tuple #[.agg #[.slice none 0 0, .slice none 0 0], .int .i64 0, .bool false]) ∧ Below w.heap.size w w'
theorem wrs_age (no : Int) : ∀ (bs : List Int) (S : List Sg) (L : List (List Bool)) (t : List Sg × List (List Bool)), wrs no bs (S, L) = some t → t.1.length = S.length ∧ ∀ i, i < S.length → ageAt t.1 i = ageAt S i
  | [], S, L, t, h => by
    have : t = (S, L) := by
      have h' : some (S, L) = some t := h
      exact (Option.some.inj h').symm
    subst this
    exact ⟨rfl, fun _ _ => rfl⟩
  | x :: r, S, L, t, h => by
    have h' : (match wrH S L x no with | some u => wrs no r u | none => none) = some t := h
    cases hw : wrH S L x no with
    | none => rw [hw] at h'; cases h'
    | some u =>
      rw [hw] at h'
      obtain ⟨S1, L1⟩ := u
      have h2 : wrs no r (S1, L1) = some t := h'
      obtain ⟨e1, e2⟩ := wrs_age no r S1 L1 t h2
      have hS : S1.length = S.length ∧ ∀ i, i < S.length → ageAt S1 i = ageAt S i := by
        unfold wrH at hw
        cases hr : roomH S no with
        | none => rw [hr] at hw; cases hw
        | some to =>
          rw [hr] at hw
          have hw' : some (putS S to x, putL (offL L (whereH S L x)) to) = some (S1, L1) := hw
          have hw2 := Option.some.inj hw'
          have : S1 = putS S to x := (congrArg Prod.fst hw2).symm
          subst this
          unfold putS
          refine ⟨List.length_set .., fun i hi => ?_⟩
          rw [ageAt_set _ _ _ _ hi]
          by_cases e : i = to
          · subst e; rw [if_pos rfl]
          · rw [if_neg e]
      exact ⟨e1.trans hS.1, fun i hi => (e2 i (by rw [hS.1]; exact hi)).trans (hS.2 i hi)⟩
end Go.Proofs.Ytohkhcjdjjlfbaa
