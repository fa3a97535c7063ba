/- Marks over rows of rows of numbers. -/
import Derived.Test.YtgompioaknfjgabFcRR
namespace Go.Proofs.Ytgompioaknfjgab
set_option maxRecDepth 100000
open Go Go.ChangeShapes Go.WideShapes Go.ChangeAt Go.RowKit
structure OutP (P : Nat → Prop) (w w' : World) : Prop where
  os : w'.os = w.os
  tape : w'.tape = w.tape
  output : w'.output = w.output
  size : w.heap.size ≤ w'.heap.size
  block : ∀ k, k < w.heap.size → ¬ P k → w'.heap[k]? = w.heap[k]?
theorem OutP.refl (P : Nat → Prop) (w : World) : OutP P w w := ⟨rfl, rfl, rfl, Nat.le_refl _, fun _ _ _ => rfl⟩
theorem OutP.trans {P : Nat → Prop} {a b c : World} (h : OutP P a b) (g : OutP P b c) : OutP P a c :=
  ⟨g.os.trans h.os, g.tape.trans h.tape, g.output.trans h.output, Nat.le_trans h.size g.size, fun k hk hn => (g.block k (Nat.lt_of_lt_of_le hk h.size) hn).trans (h.block k hk hn)⟩
theorem OutP.but {P : Nat → Prop} {R : Nat} {w w' : World} (h : But R w w') (hR : P R) : OutP P w w' :=
  ⟨h.os, h.tape, h.output, h.size, fun k hk hn => h.block k hk (fun e => hn (by rw [e]; exact hR))⟩
theorem OutP.set {P : Nat → Prop} (w : World) (R j : Nat) (u : Value) (hR : P R) : OutP P w (w.setCell ⟨R, j, none⟩ u) :=
  ⟨rfl, rfl, rfl, by simp [World.setCell], fun k _ hn => keepB _ _ _ _ _ (fun e => hn (by rw [e]; exact hR))⟩
theorem OutP.wide {P Q : Nat → Prop} {w w' : World} (h : OutP P w w') (hPQ : ∀ k, P k → Q k) : OutP Q w w' :=
  ⟨h.os, h.tape, h.output, h.size, fun k hk hn => h.block k hk (fun hp => hn (hPQ k hp))⟩
/-- rows whose cells may be marked -/
structure RwP (P : Nat → Prop) (R : Nat) (q : Nat → Option Addr) (c f : Nat → Nat) (L : List (List Int)) (w : World) : Prop where
  r : P R
  r1 : R < w.heap.size
  cell : ∀ i (h : i < L.length), w.cell? ⟨R, i, none⟩ = some (.slice (q i) L[i].length (c i))
  own : ∀ i (h : i < L.length), L[i] = [] ∨ (P (f i) ∧ f i ≠ R ∧ q i = some ⟨f i, 0, none⟩ ∧ IRow (f i) L[i] w)
  apart : ∀ i j (h : i < L.length) (g : j < L.length), i ≠ j → L[i] ≠ [] → L[j] ≠ [] → f i ≠ f j
theorem RwP.keep {P Q : Nat → Prop} {R : Nat} {q : Nat → Option Addr} {c f : Nat → Nat} {L : List (List Int)} {w w' : World} (h : RwP P R q c f L w) (g : OutP Q w w') (hPQ : ∀ k, P k → ¬ Q k) : RwP P R q c f L w' := by
  have hb := g.block R h.r1 (hPQ R h.r)
  refine ⟨h.r, Nat.lt_of_lt_of_le h.r1 g.size, fun i hi => ?_, fun i hi => ?_, h.apart⟩
  · exact (World.cell?_of_block (a := ⟨R, _, none⟩) hb).trans (h.cell i hi)
  · rcases h.own i hi with h0 | ⟨h1, h2, h3, h4⟩
    · exact Or.inl h0
    · exact Or.inr ⟨h1, h2, h3, h4.same g.size (g.block _ h4.lt (hPQ _ h1))⟩
theorem RwP.row {P : Nat → Prop} {R : Nat} {q : Nat → Option Addr} {c f : Nat → Nat} {L : List (List Int)} {w w' : World} (h : RwP P R q c f L w) (j : Nat) (hj : j < L.length) (hne : L[j] ≠ []) (l : List Int) (hl : l.length = L[j].length) (g : But (f j) w w') (hr : IRow (f j) l w') : RwP P R q c f (L.set j l) w' := by
  obtain ⟨p1, p2, p3, p4⟩ : P (f j) ∧ f j ≠ R ∧ q j = some ⟨f j, 0, none⟩ ∧ IRow (f j) L[j] w := by
    rcases h.own j hj with h0 | h0
    · exact absurd h0 hne
    · exact h0
  have hb := g.block R h.r1 (fun e => p2 e.symm)
  refine ⟨h.r, Nat.lt_of_lt_of_le h.r1 g.size, fun i hi => ?_, fun i hi => ?_, fun a b ha hb' hab h1 h2 => ?_⟩
  · have hi' : i < L.length := by simpa using hi
    have h1 := h.cell i hi'
    rw [List.getElem_set]
    by_cases e : j = i
    · subst e
      rw [if_pos rfl, hl]
      exact (World.cell?_of_block (a := ⟨R, _, none⟩) hb).trans h1
    · rw [if_neg e]
      exact (World.cell?_of_block (a := ⟨R, _, none⟩) hb).trans h1
  · have hi' : i < L.length := by simpa using hi
    rw [List.getElem_set]
    by_cases e : j = i
    · subst e
      rw [if_pos rfl]
      exact Or.inr ⟨p1, p2, p3, hr⟩
    · rw [if_neg e]
      by_cases h0 : L[i] = []
      · exact Or.inl h0
      · rcases h.own i hi' with h9 | ⟨h1, h2, h3, h4⟩
        · exact absurd h9 h0
        · exact Or.inr ⟨h1, h2, h3, h4.same g.size (g.block _ h4.lt (h.apart i j hi' hj (fun x => e x.symm) h0 hne))⟩
  · have ha' : a < L.length := by simpa using ha
    have hb2 : b < L.length := by simpa using hb'
    rw [List.getElem_set] at h1 h2
    refine h.apart a b ha' hb2 hab ?_ ?_
    · by_cases e : j = a
      · subst e; exact hne
      · rw [if_neg e] at h1; exact h1
    · by_cases e : j = b
      · subst e; exact hne
      · rw [if_neg e] at h2; exact h2
def lnR (L : List (List Int)) (k : Nat) : Nat := (L.getD k []).length
theorem lnR_eq (L : List (List Int)) (k : Nat) (h : k < L.length) : lnR L k = L[k].length := by
  unfold lnR
  rw [List.getD_eq_getElem?_getD, List.getElem?_eq_getElem h]; rfl
def totR (L : List (List Int)) : Nat → Nat
  | 0 => 0
  | j + 1 => totR L j + lnR L j
def markRR (L : List (List Int)) (k : Nat) : List (List Int) := (List.range L.length).map fun i => imarks (lnR L i) (k + totR L i)
theorem markRR_len (L : List (List Int)) (k : Nat) : (markRR L k).length = L.length := by simp [markRR]
theorem markRR_at (L : List (List Int)) (k i : Nat) (h : i < (markRR L k).length) : (markRR L k)[i] = imarks (lnR L i) (k + totR L i) := by simp [markRR]
theorem totR_le (L : List (List Int)) (hn : L.length ≤ 1048576) (hb : ∀ k (h : k < L.length), L[k].length ≤ 1048576) : ∀ j, j ≤ L.length → totR L j ≤ j * 1048577
  | 0, _ => by simp [totR]
  | j + 1, h => by
    have h1 := totR_le L hn hb j (by omega)
    have h2 := hb j (by omega)
    rw [← lnR_eq L j (by omega)] at h2
    unfold totR
    omega
def MR (P : Nat → Prop) (a : Option Addr) (q : Nat → Option Addr) (c f : Nat → Nat) (L : List (List Int)) (w : World) : Prop := L = [] ∨ ∃ R, a = some ⟨R, 0, none⟩ ∧ RwP P R q c f L w
theorem MR.vs {P : Nat → Prop} {a : Option Addr} {q : Nat → Option Addr} {c f : Nat → Nat} {L : List (List Int)} {w : World} (h : MR P a q c f L w) : Js w.heap.size a L w := fun h0 => by
  rcases h with rfl | ⟨R, rfl, h⟩
  · exact absurd h0 (by simp)
  · refine ⟨R, 0, rfl, h.r1, fun i hi => ?_⟩
    refine ⟨q i, c i, by rw [Nat.zero_add]; exact h.cell i hi, ?_⟩
    rcases h.own i hi with h0 | ⟨_, _, h3, h4⟩
    · rw [h0]; exact ⟨fun h0 => absurd h0 (by simp)⟩
    · rw [h3]; exact h4.sl h4.lt
theorem MR.keep {P Q : Nat → Prop} {a : Option Addr} {q : Nat → Option Addr} {c f : Nat → Nat} {L : List (List Int)} {w w' : World} (h : MR P a q c f L w) (g : OutP Q w w') (hPQ : ∀ k, P k → ¬ Q k) : MR P a q c f L w' := by
  rcases h with h | ⟨R, e, h⟩
  · exact Or.inl h
  · exact Or.inr ⟨R, e, h.keep g hPQ⟩
theorem OutP.below {w w' : World} (h : Below w.heap.size w w') : OutP (fun _ => False) w w' := ⟨h.os, h.tape, h.output, h.size, fun k hk _ => h.block k hk⟩
/-- blocks lo .. hi - 1 -/
def Btw (lo hi : Nat) (k : Nat) : Prop := lo ≤ k ∧ k < hi
theorem RwP.wide {P Q : Nat → Prop} {R : Nat} {q : Nat → Option Addr} {c f : Nat → Nat} {L : List (List Int)} {w : World} (h : RwP P R q c f L w) (g : ∀ k, P k → Q k) : RwP Q R q c f L w := ⟨g _ h.r, h.r1, h.cell, fun i hi => (h.own i hi).imp id (fun x => ⟨g _ x.1, x.2⟩), h.apart⟩
theorem MR.wide {P Q : Nat → Prop} {a : Option Addr} {q : Nat → Option Addr} {c f : Nat → Nat} {L : List (List Int)} {w : World} (h : MR P a q c f L w) (g : ∀ k, P k → Q k) : MR Q a q c f L w := by
  rcases h with h | ⟨R, e, h⟩
  · exact Or.inl h
  · exact Or.inr ⟨R, e, h.wide g⟩
theorem RwOwn.mr {lo hi R : Nat} {q : Nat → Option Addr} {c f : Nat → Nat} {L : List (List Int)} {w : World} (h : RwOwn lo hi R q c f L w) : MR (Btw lo hi) (some ⟨R, 0, none⟩) q c f L w :=
  Or.inr ⟨R, rfl, ⟨⟨h.r0, h.r1⟩, Nat.lt_of_lt_of_le h.r1 h.r2, h.cell, fun i hi => (h.own i hi).imp id (fun x => ⟨⟨x.1, x.2.1⟩, x.2.2⟩), h.apart⟩⟩
/-- numbers whose cells may be marked, in a block of P -/
def MI (P : Nat → Prop) (a : Option Addr) (l : List Int) (w : World) : Prop := l = [] ∨ ∃ R, P R ∧ a = some ⟨R, 0, none⟩ ∧ IRow R l w
theorem MI.is {P : Nat → Prop} {a : Option Addr} {l : List Int} {w : World} (h : MI P a l w) : Is w.heap.size a l w := by
  rcases h with rfl | ⟨R, _, rfl, hr⟩
  · exact ⟨fun h0 => absurd h0 (by simp)⟩
  · exact hr.sl hr.lt
theorem MI.keep {P Q : Nat → Prop} {a : Option Addr} {l : List Int} {w w' : World} (h : MI P a l w) (g : OutP Q w w') (hPQ : ∀ k, P k → ¬ Q k) : MI P a l w' := by
  rcases h with h | ⟨R, h1, e, hr⟩
  · exact Or.inl h
  · exact Or.inr ⟨R, h1, e, hr.same g.size (g.block _ hr.lt (hPQ _ h1))⟩
theorem MI.wide {P Q : Nat → Prop} {a : Option Addr} {l : List Int} {w : World} (h : MI P a l w) (g : ∀ k, P k → Q k) : MI Q a l w := by
  rcases h with h | ⟨R, h1, e, hr⟩
  · exact Or.inl h
  · exact Or.inr ⟨R, g _ h1, e, hr⟩
theorem OwnI.mi {lo hi : Nat} {a : Option Addr} {l : List Int} {w : World} (h : OwnI lo hi a l w) : MI (Btw lo hi) a l w := by
  rcases h with h | ⟨R, h1, h2, e, hr⟩
  · exact Or.inl h
  · exact Or.inr ⟨R, ⟨h1, h2⟩, e, hr⟩
theorem OutP.on {P : Nat → Prop} {w w' : World} (h : Below w.heap.size w w') : OutP P w w' := (OutP.below h).wide (fun _ h => h.elim)
end Go.Proofs.Ytgompioaknfjgab
