/- A heap's live blocks, each once; plain. -/
import Derived.Test.YtohkhcjdjjlfbaaILb
import Derived.Test.YtohkhcjdjjlfbaaHA
namespace Go.Proofs.Ytohkhcjdjjlfbaa.Q
set_option maxRecDepth 100000
open Go Go.RowKit G00541
/-- the live blocks of all segments in turn -/
def flatB (S : List Sg) (L : List (List Bool)) : List Int := ((allP S L).filter (·.2)).map (·.1)
theorem livB_prs (s : Sg) (v : List Bool) : livB s.bl v = ((prs s v).filter (·.2)).map (·.1) := rfl
theorem flatB_take (S : List Sg) (L : List (List Bool)) (k : Nat) (h : k < S.length) (g : k < L.length) : flatB (S.take (k + 1)) (L.take (k + 1)) = flatB (S.take k) (L.take k) ++ livB S[k].bl L[k] := by
  unfold flatB
  rw [allP_take S L k h g, List.filter_append, List.map_append]
  rfl
theorem flatB_nil (L : List (List Bool)) : flatB ([] : List Sg) L = [] := by
  unfold flatB allP
  simp
theorem livB_nil (v : List Bool) : livB [] v = [] := by unfold livB; simp
theorem flatB_len (S : List Sg) (L : List (List Bool)) (hl : L.length = S.length) (h6 : ∀ k (h : k < S.length), S[k].bl.length ≤ 6) : ∀ k, k ≤ S.length → (flatB (S.take k) (L.take k)).length ≤ 6 * k
  | 0, _ => by rw [List.take_zero, flatB_nil]; simp
  | k + 1, hk => by
    rw [flatB_take S L k (by omega) (by omega), List.length_append]
    have := flatB_len S L hl h6 k (by omega)
    have h1 := livB_len (S[k]'(by omega)).bl (L[k]'(by omega))
    have h2 := h6 k (by omega)
    omega
theorem allP_split (S : List Sg) (L : List (List Bool)) (hl : L.length = S.length) (k : Nat) : ∃ r, allP S L = allP (S.take k) (L.take k) ++ r := by
  refine ⟨allP (S.drop k) (L.drop k), ?_⟩
  unfold allP
  rw [← List.flatten_append, ← List.zipWith_append (by simp; omega), List.take_append_drop, List.take_append_drop]
theorem liveN_app (P R : List (Int × Bool)) (b : Nat) : liveN (P ++ R) b = liveN P b + liveN R b := List.countP_append ..
theorem not_mem_of {P : List (Int × Bool)} {b : Nat} (h : liveN P b = 0) : (b : Int) ∉ (P.filter (·.2)).map (·.1) := by
  intro hm
  obtain ⟨p, hp, e⟩ := List.mem_map.1 hm
  obtain ⟨h1, h2⟩ := List.mem_filter.1 hp
  unfold liveN at h
  rw [List.countP_eq_zero] at h
  exact h p h1 (by simp [e, h2])
theorem prs_first (s : Sg) (v : List Bool) (i : Nat) : (prs s v).take i = (s.bl.take i).zip (v.take i) := List.take_zipWith
/-- a live block stands nowhere ahead -/
theorem fresh (S : List Sg) (L : List (List Bool)) (hl : L.length = S.length) (hg : goodH S L = true) (k i : Nat) (hk : k < S.length) (hk' : k < L.length) (hi : i < S[k].bl.length) (hi' : i < L[k].length) (ht : L[k][i] = true) :
    S[k].bl[i] ∉ sortN (flatB (S.take k) (L.take k) ++ livB (S[k].bl.take i) (L[k].take i)) := by
  rw [sortN_mem]
  obtain ⟨_, h2, h3⟩ := (goodH_iff S L hl).1 hg
  obtain ⟨_, hb, _⟩ := (goodS_iff _ _).1 (h2 k hk)
  have hx := hb _ (List.getElem_mem hi)
  obtain ⟨b, hbx⟩ : ∃ b : Nat, S[k].bl[i] = (b : Int) := ⟨(S[k].bl[i]).toNat, by omega⟩
  have hok := h3 b (by omega)
  unfold okB at hok
  have hle := (of_decide_eq_true hok).1
  obtain ⟨r, hr⟩ := allP_split S L hl (k + 1)
  have hq : prs S[k] L[k] = (prs S[k] L[k]).take i ++ ([(S[k].bl[i], L[k][i])] ++ (prs S[k] L[k]).drop (i + 1)) := by
    rw [← List.append_assoc, ← prs_take S[k] L[k] i hi hi', List.take_append_drop]
  rw [hr, liveN_app, allP_take S L k hk (by omega), liveN_app, hq, liveN_app, liveN_app] at hle
  have h1 : liveN [(S[k].bl[i], L[k][i])] b = 1 := by
    rw [ht, hbx]
    simp [liveN]
  have e : flatB (S.take k) (L.take k) ++ livB (S[k].bl.take i) (L[k].take i) = ((allP (S.take k) (L.take k) ++ (prs S[k] L[k]).take i).filter (·.2)).map (·.1) := by
    rw [List.filter_append, List.map_append]
    rw [prs_first]
    rfl
  rw [e, hbx]
  refine not_mem_of ?_
  rw [liveN_app]
  omega
theorem sort_snoc (l : List Int) (x : Int) : sortN (l ++ [x]) = insN x (sortN l) := sortN_snoc l x
end Go.Proofs.Ytohkhcjdjjlfbaa.Q
