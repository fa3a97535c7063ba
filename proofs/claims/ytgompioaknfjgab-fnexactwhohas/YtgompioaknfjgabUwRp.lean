/- What the program takes back is what the model takes back: plain. -/
import Derived.Test.YtgompioaknfjgabUwBo
import Derived.Test.YtgompioaknfjgabUwV
namespace Go.Proofs.Ytgompioaknfjgab
set_option maxRecDepth 100000
open Go Go.ChangeShapes Go.WideShapes Go.ChangeAt Go.RowKit
theorem lastN_spec {l : List Nt} {who : Int} : ∀ {k i : Nat}, lastN l who k = some i → i < k ∧ matchN who (l.getD i zeroNt) = true ∧ ∀ j, i < j → j < k → matchN who (l.getD j zeroNt) = false
  | 0, _, h => by cases h
  | k + 1, i, h => by
    have h' : (if matchN who (l.getD k zeroNt) then some k else lastN l who k) = some i := h
    cases hm : matchN who (l.getD k zeroNt)
    · rw [hm] at h'
      obtain ⟨h1, h2, h3⟩ := lastN_spec (k := k) (i := i) h'
      refine ⟨by omega, h2, fun j hj hk => ?_⟩
      by_cases e : j = k
      · subst e; exact hm
      · exact h3 j hj (by omega)
    · rw [hm] at h'
      have e : k = i := by simpa using h'
      subst e
      exact ⟨by omega, hm, fun j hj hk => absurd hk (by omega)⟩
/-- where an open one began -/
theorem open_from {l : List Nt} {who : Int} (h : isO l who = true) : fromI l who < l.length ∧ (l.getD (fromI l who) zeroNt).kd = 1 ∧ (l.getD (fromI l who) zeroNt).wh = who ∧ ∀ j, fromI l who < j → j < l.length → (l.getD j zeroNt).wh = who → (l.getD j zeroNt).kd = 2 := by
  unfold isO at h
  cases hl : lastN l who l.length with
  | none => rw [hl] at h; cases h
  | some i =>
    rw [hl] at h
    have hk : (l.getD i zeroNt).kd = 1 := of_decide_eq_true h
    have hf : fromI l who = i := by unfold fromI; rw [hl]; rfl
    obtain ⟨h1, h2, h3⟩ := lastN_spec hl
    rw [hf]
    refine ⟨h1, hk, ?_, fun j hj hjl hw => ?_⟩
    · unfold matchN at h2
      rw [Bool.and_eq_true] at h2
      exact of_decide_eq_true h2.1
    · have := h3 j hj hjl
      unfold matchN at this
      rw [hw] at this
      simpa using this
theorem mem_openK {l : List Nt} {who : Int} : ∀ {k : Nat}, who ∈ openK l k → 1 ≤ who ∧ who ≤ k ∧ openF who false l = true
  | 0, h => by cases h
  | k + 1, h => by
    have h' : who ∈ (if openF ((k : Int) + 1) false l then openK l k ++ [(k : Int) + 1] else openK l k) := h
    cases ho : openF ((k : Int) + 1) false l
    · rw [ho] at h'
      obtain ⟨h1, h2, h3⟩ := mem_openK (k := k) h'
      exact ⟨h1, by omega, h3⟩
    · rw [ho] at h'
      rcases List.mem_append.1 h' with h' | h'
      · obtain ⟨h1, h2, h3⟩ := mem_openK (k := k) h'
        exact ⟨h1, by omega, h3⟩
      · have e : who = (k : Int) + 1 := by simpa using h'
        subst e
        exact ⟨by omega, by omega, ho⟩
theorem openL_isO {l : List Nt} (hN : l.all noteB = true) {who : Int} (h : who ∈ openL l) : isO l who = true := by
  rw [isO_open hN]; exact (mem_openK h).2.2
/-- one note taken back -/
def undS (S : List Nt) (op : List Int) (cs : List Int) (x : Fin S.length) : List Int := if condB S op x then cs.set S[x.1].cl.toNat S[x.1].ws else cs
theorem und_run (S : List Nt) (hN : S.all noteB = true) (cs0 : List Int) : ∀ k, k ≤ S.length → ∃ ov : List Int, undN S (openL S) cs0 [] S.length = undN S (openL S) ((bkT S k).foldl (undS S (openL S)) cs0) ov (S.length - k) ∧ ∀ who, who ∈ openL S → (who ∈ ov ↔ S.length - k ≤ fromI S who)
  | 0, _ => ⟨[], rfl, fun who hw => by
    have := (open_from (openL_isO hN hw)).1
    simp; omega⟩
  | k + 1, hk => by
    obtain ⟨ov, h1, h2⟩ := und_run S hN cs0 k (by omega)
    have hm : S.length - 1 - k < S.length := by omega
    obtain ⟨m, hmm⟩ : ∃ m, m = S.length - 1 - k := ⟨_, rfl⟩
    have e1 : S.length - k = m + 1 := by omega
    have e2 : S.length - (k + 1) = m := by omega
    have hml : m < S.length := by omega
    rw [e1] at h1 h2
    rw [e2]
    rw [bkT_succ S k hk, List.foldl_append]
    obtain ⟨cs, hcs⟩ : ∃ cs, cs = (bkT S k).foldl (undS S (openL S)) cs0 := ⟨_, rfl⟩
    rw [← hcs] at h1 ⊢
    have hx : (⟨S.length - 1 - k, hm⟩ : Fin S.length) = ⟨m, hml⟩ := by simp [hmm]
    rw [hx]
    show ∃ ov', _ = undN S (openL S) (undS S (openL S) cs ⟨m, hml⟩) ov' m ∧ _
    rw [undN_step S (openL S) cs ov m hml] at h1
    have hoth : ∀ who, who ∈ openL S → who ≠ S[m].wh → (m + 1 ≤ fromI S who ↔ m ≤ fromI S who) := fun who hw hne => by
      have hf := open_from (openL_isO hN hw)
      have : fromI S who ≠ m := fun e => hne (by
        rw [e, getD_in S m zeroNt hml] at hf
        exact hf.2.2.1.symm)
      omega
    have hc : condB S (openL S) ⟨m, hml⟩ = (decide (S[m].kd = 2) && (decide ((fromI S S[m].wh : Int) < (m : Int)) && decide (S[m].wh ∈ openL S))) := rfl
    unfold undS
    rw [hc]
    show ∃ ov' : List Int, undN S (openL S) cs0 [] S.length = undN S (openL S) (if (decide (S[m].kd = 2) && (decide ((fromI S S[m].wh : Int) < (m : Int)) && decide (S[m].wh ∈ openL S))) = true then cs.set S[m].cl.toNat S[m].ws else cs) ov' m ∧ ∀ who, who ∈ openL S → (who ∈ ov' ↔ m ≤ fromI S who)
    by_cases hin : S[m].wh ∈ openL S
    case neg =>
      rw [if_neg (fun h => hin h.1)] at h1
      rw [decide_eq_false hin, Bool.and_false, Bool.and_false]
      exact ⟨ov, h1, fun who hw => (h2 who hw).trans (hoth who hw (fun e => hin (by rw [← e]; exact hw)))⟩
    have hf := open_from (openL_isO hN hin)
    have h2m := h2 _ hin
    rw [decide_eq_true hin, Bool.and_true]
    by_cases hlt : m < fromI S S[m].wh
    · have hov : S[m].wh ∈ ov := h2m.2 hlt
      rw [if_neg (fun h => h.2 hov)] at h1
      rw [decide_eq_false (p := (fromI S S[m].wh : Int) < (m : Int)) (by omega), Bool.and_false]
      refine ⟨ov, h1, fun who hw => ?_⟩
      by_cases e : who = S[m].wh
      · subst e
        exact ⟨fun _ => by omega, fun _ => hov⟩
      · exact (h2 who hw).trans (hoth who hw e)
    have hnov : ¬ S[m].wh ∈ ov := fun h => hlt (h2m.1 h)
    rw [if_pos ⟨hin, hnov⟩] at h1
    by_cases hgt : fromI S S[m].wh < m
    · have hk2 : S[m].kd = 2 := by
        have := hf.2.2.2 m hgt hml (by rw [getD_in S m zeroNt hml])
        rw [getD_in S m zeroNt hml] at this
        exact this
      rw [if_pos hk2, if_neg (by omega)] at h1
      rw [decide_eq_true hk2, decide_eq_true (p := (fromI S S[m].wh : Int) < (m : Int)) (by omega)]
      refine ⟨ov, h1, fun who hw => ?_⟩
      by_cases e : who = S[m].wh
      · subst e
        exact ⟨fun h => absurd h hnov, fun h => absurd h (by omega)⟩
      · exact (h2 who hw).trans (hoth who hw e)
    have hem : fromI S S[m].wh = m := by omega
    have hk1 : S[m].kd = 1 := by
      have := hf.2.1
      rw [hem, getD_in S m zeroNt hml] at this
      exact this
    rw [if_neg (by omega), if_pos hk1] at h1
    rw [decide_eq_false (p := S[m].kd = 2) (by omega), Bool.false_and]
    refine ⟨ov ++ [S[m].wh], h1, fun who hw => ?_⟩
    by_cases e : who = S[m].wh
    · subst e
      exact ⟨fun _ => by omega, fun _ => by simp⟩
    · rw [List.mem_append]
      have : ¬ who ∈ [S[m].wh] := by simpa using e
      exact ⟨fun h => (hoth who hw e).1 ((h2 who hw).1 (h.resolve_right this)), fun h => Or.inl ((h2 who hw).2 ((hoth who hw e).2 h))⟩
theorem und_all (S : List Nt) (hN : S.all noteB = true) (cs0 : List Int) : (bkT S S.length).foldl (undS S (openL S)) cs0 = undN S (openL S) cs0 [] S.length := by
  obtain ⟨ov, h, -⟩ := und_run S hN cs0 S.length (Nat.le_refl _)
  rw [Nat.sub_self] at h
  exact h.symm
theorem undS_len (S : List Nt) (op : List Int) (pre : List (Fin S.length)) : ∀ cs, (pre.foldl (undS S op) cs).length = cs.length := by
  induction pre with
  | nil => intro cs; rfl
  | cons x r ih =>
    intro cs
    show (r.foldl (undS S op) (undS S op cs x)).length = _
    rw [ih]
    unfold undS
    cases condB S op x
    · rfl
    · exact List.length_set
def recL (dk : List Int) (lg : List Nt) : List Int := undN lg (openL lg) (redoF dk lg) [] lg.length
end Go.Proofs.Ytgompioaknfjgab
