/- Heaps of one's own: made, and kept while a cursor goes on. -/
import Derived.Test.YtohkhcjdjjlfbaaSCl
import Derived.Test.YtohkhcjdjjlfbaaHA
namespace Go.Proofs.Ytohkhcjdjjlfbaa
set_option maxRecDepth 100000
open Go Go.ChangeShapes Go.WideShapes Go.ChangeAt Go.RowKit G00541
theorem HR.but {B lo : Nat} {vS vL : Value} {S : List Sg} {L : List (List Bool)} {w w' : World} (h : HR lo vS vL S L w) (g : But B w w') (hB : B < lo) : HR lo vS vL S L w' := by
  obtain ⟨hl, q, p, hF⟩ := h
  have g2 : w.grownBy w' (some B) := ⟨g.os, g.tape, g.output, g.size, fun k hk hn => g.block k hk (fun e => hn (by rw [e]))⟩
  refine ⟨hl, q, p, ⟨fun x hx => (hF.own x hx).kept g2 ?_, hF.apart⟩⟩
  cases hv : (hf vS vL q p S L x).v.ownBlock with
  | none => exact Or.inl rfl
  | some k =>
    refine Or.inr (fun e => ?_)
    have h1 := (hF.own x hx).lt k hv
    injection e with e
    omega
theorem blAt_rep (n i : Nat) : blAt (List.replicate n ⟨[], 0⟩) i = [] := by
  unfold blAt
  rw [List.getD_eq_getElem?_getD, List.getElem?_replicate]
  split <;> rfl
theorem lvAt_rep (n i : Nat) : lvAt (List.replicate n []) i = [] := by
  unfold lvAt
  rw [List.getD_eq_getElem?_getD, List.getElem?_replicate]
  split <;> rfl
theorem HR.made {lo g1 g2 n : Nat} {c1 c2 : Array Value} {w : World} (h1 : w.heap[g1]? = some (.cells c1 40)) (h2 : w.heap[g2]? = some (.cells c2 53)) (hn : n ≤ 1000) (l1 : lo ≤ g1) (l2 : lo ≤ g2)
    (e1 : c1.toList = segXs (fun _ => .slice none 0 0) (List.replicate n ⟨[], 0⟩)) (e2 : c2.toList = livXs (fun _ => .slice none 0 0) n) :
    HR lo (.slice (some ⟨g1, 0, none⟩) n n) (.slice (some ⟨g2, 0, none⟩) n n) (List.replicate n ⟨[], 0⟩) (List.replicate n []) w := by
  have hs1 : c1.size = n * 2 := by rw [← Array.length_toList, e1, segXs_len, List.length_replicate]
  have hs2 : c2.size = n * 1 := by rw [← Array.length_toList, e2, livXs_len, Nat.mul_one]
  have hne : g1 ≠ g2 := fun e => by
    rw [e, h2] at h1
    injection h1 with h1
    injection h1 with _ h1
    exact absurd h1 (by decide)
  have hmax : n ≤ maxLen := by unfold maxLen; omega
  refine ⟨by simp, fun _ => .slice none 0 0, fun _ => .slice none 0 0, fun x hx => ?_, fun x y hx hy hxy g hg => ?_⟩
  · cases x with
    | s =>
      show w.ownsRow lo 40 2 (.slice (some ⟨g1, 0, none⟩) n n) (List.replicate n (⟨[], 0⟩ : Sg)).length (segXs (fun _ => .slice none 0 0) (List.replicate n ⟨[], 0⟩))
      refine ⟨by rw [segXs_len], Or.inr ⟨g1, n, c1, by rw [List.length_replicate], l1, h1, by rw [List.length_replicate]; exact Nat.le_refl _, hmax, hs1, ?_⟩⟩
      rw [e1, List.take_of_length_le (by rw [segXs_len]; exact Nat.le_refl _)]
    | l =>
      show w.ownsRow lo 53 1 (.slice (some ⟨g2, 0, none⟩) n n) (List.replicate n ([] : List Bool)).length (livXs _ (List.replicate n ([] : List Bool)).length)
      rw [List.length_replicate]
      refine ⟨by rw [livXs_len, Nat.mul_one], Or.inr ⟨g2, n, c2, rfl, l2, h2, Nat.le_refl _, hmax, hs2, ?_⟩⟩
      rw [e2, List.take_of_length_le (by rw [livXs_len]; omega)]
    | b i =>
      show w.ownsRow lo 3 1 (.slice none 0 0) (blAt (List.replicate n ⟨[], 0⟩) i).length (ivals (blAt (List.replicate n ⟨[], 0⟩) i))
      rw [blAt_rep]
      exact rw_nil _ _ _ _
    | v i =>
      show w.ownsRow lo 4 1 (.slice none 0 0) (lvAt (List.replicate n []) i).length (bvals (lvAt (List.replicate n []) i))
      rw [lvAt_rep]
      exact rw_nil _ _ _ _
  · cases x with
    | s =>
      have e : g1 = g := by injection hg
      subst e
      cases y with
      | s => exact absurd rfl hxy
      | l => exact fun h => hne (by injection h with h; exact h.symm)
      | b i => exact fun h => by cases h
      | v i => exact fun h => by cases h
    | l =>
      have e : g2 = g := by injection hg
      subst e
      cases y with
      | s => exact fun h => hne (by injection h)
      | l => exact absurd rfl hxy
      | b i => exact fun h => by cases h
      | v i => exact fun h => by cases h
    | b i => cases hg
    | v i => cases hg
theorem sWrite_any (aS aL : Option Addr) (kS kL : Nat) (S : List Sg) (L : List (List Bool)) (x : Int) (w : World) (hl : L.length = S.length) (hG : Gs w.heap.size aS S w) (hV : Vs w.heap.size aL L w) :
    Calls Try.prog 26 #[.agg #[.slice aS S.length kS, .slice aL L.length kL], .int .i64 x] w fun e w' => ∃ S' L' ok, HOut S' L' ok w e w' := by
  by_cases h : goodH S L = true ∧ 0 ≤ x ∧ x ≤ 15
  · refine (sWrite_good aS aL kS kL S L x w hl h.1 h.2 hG hV).mono fun e w' h => ?_
    cases hw : wrH S L x (-1) with
    | none => rw [hw] at h; exact ⟨_, _, _, h⟩
    | some t => rw [hw] at h; exact ⟨_, _, _, h⟩
  · exact (sWrite_bad aS aL kS kL S L x w h hG hV).mono fun e w' h => ⟨_, _, _, h⟩
theorem sPick_any (aS aL : Option Addr) (kS kL : Nat) (S : List Sg) (L : List (List Bool)) (how : Int) (w : World) (hl : L.length = S.length) (hG : Gs w.heap.size aS S w) (hV : Vs w.heap.size aL L w) :
    Calls Try.prog 23 #[.agg #[.slice aS S.length kS, .slice aL L.length kL], .int .i64 how] w fun e w' => ∃ (n : Int) (ok : Bool), e = .returned (.tuple #[.int .i64 n, .bool ok]) ∧ Below w.heap.size w w' := by
  by_cases h : goodH S L = true ∧ 1 ≤ how ∧ how ≤ 2
  · refine (sPick_yes aS aL kS kL S L how w hl h.1 h.2.1 h.2.2 hG hV).mono fun e w' h => ?_
    cases hw : bestH S L how S.length with
    | none => rw [hw] at h; exact ⟨_, _, h⟩
    | some t => rw [hw] at h; exact ⟨_, _, h⟩
  · exact (sPick_no aS aL kS kL S L how w h hG hV).mono fun e w' h => ⟨_, _, h⟩
theorem sClean_any (aS aL : Option Addr) (kS kL : Nat) (S : List Sg) (L : List (List Bool)) (k : Int) (w : World) (hl : L.length = S.length) (hG : Gs w.heap.size aS S w) (hV : Vs w.heap.size aL L w) :
    Calls Try.prog 7 #[.agg #[.slice aS S.length kS, .slice aL L.length kL], .int .i64 k] w fun e w' => ∃ vS vL S' L' n ok, e = .returned (.tuple #[.agg #[vS, vL], .int .i64 n, .bool ok]) ∧ HR w.heap.size vS vL S' L' w' ∧ Below w.heap.size w w' := by
  by_cases h : goodH S L = true ∧ 0 ≤ k ∧ k < S.length ∧ lenAt S k.toNat ≠ 0
  · obtain ⟨kn, rfl⟩ : ∃ kn : Nat, k = (kn : Int) := ⟨k.toNat, by omega⟩
    refine (sClean_go aS aL kS kL S L kn w hl h.1 (by omega) (by simpa using h.2.2.2) hG hV).mono fun e w' h => ?_
    unfold COut at h
    cases hw : wrs kn (livB (blAt S kn) (lvAt L kn)) (S, L) with
    | none => rw [hw] at h; exact ⟨_, _, [], [], _, _, h.1, HR.nil _ _, h.2⟩
    | some t =>
      rw [hw] at h
      obtain ⟨vS, vL, h1, h2, h3⟩ := h
      exact ⟨vS, vL, _, _, _, _, h1, h2, h3⟩
  · exact (sClean_no aS aL kS kL S L k w h hG hV).mono fun e w' h => ⟨_, _, [], [], _, _, h.1, HR.nil _ _, h.2⟩
end Go.Proofs.Ytohkhcjdjjlfbaa
