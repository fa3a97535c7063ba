/- Reducing rows, in plain lists. -/
import Derived.Test.YtnjeeeccfhpolaaPXor
namespace Go.Proofs.Ytnjeeeccfhpolaa
section
variable {α β : Type}
/-- one row taken out of another that has a bit -/
def lessG (has : Nat → α → Bool) (un : α → α → α) (b : Nat) (x y : α) : α := cond (has b y) (un y x) y
/-- one bit's step: rows told, rows left -/
def stepG (has : Nat → α → Bool) (un : α → α → α) (b : Nat) (s : List α × List α) : List α × List α :=
  match s.2[s.2.findIdx (has b)]? with
  | none => s
  | some x => (s.1.map (lessG has un b x) ++ [x], (s.2.eraseIdx (s.2.findIdx (has b))).map (lessG has un b x))
def redG (has : Nat → α → Bool) (un : α → α → α) : Nat → List α × List α → List α × List α
  | 0, s => s
  | b + 1, s => redG has un b (stepG has un b s)
theorem stepG_none (has : Nat → α → Bool) (un : α → α → α) (b : Nat) (T L : List α) (h : ∀ x ∈ L, has b x = false) : stepG has un b (T, L) = (T, L) := by
  unfold stepG
  have : L.findIdx (has b) = L.length := List.findIdx_eq_length.2 h
  simp only [this, List.getElem?_eq_none (Nat.le_refl _)]
theorem stepG_some (has : Nat → α → Bool) (un : α → α → α) (b : Nat) (T L : List α) (k : Nat) (hk : k < L.length) (h1 : has b L[k] = true) (h2 : ∀ j (hj : j < L.length), j < k → has b L[j] = false) :
    stepG has un b (T, L) = (T.map (lessG has un b L[k]) ++ [L[k]], (L.eraseIdx k).map (lessG has un b L[k])) := by
  have e : L.findIdx (has b) = k := by
    rw [List.findIdx_eq hk]
    exact ⟨h1, fun j hj => h2 j (by omega) hj⟩
  unfold stepG
  simp only [e, List.getElem?_eq_getElem hk]
theorem stepG_len (has : Nat → α → Bool) (un : α → α → α) (b : Nat) (s : List α × List α) : (stepG has un b s).1.length + (stepG has un b s).2.length = s.1.length + s.2.length := by
  unfold stepG
  split
  · rfl
  · rename_i x hx
    obtain ⟨hk, -⟩ := List.getElem?_eq_some_iff.1 hx
    simp only [List.length_append, List.length_map, List.length_cons, List.length_nil, List.length_eraseIdx]
    rw [if_pos hk]
    omega
theorem stepG_all (has : Nat → α → Bool) (un : α → α → α) (P : α → Prop) (hun : ∀ x y, P x → P y → P (un x y)) (b : Nat) (s : List α × List α) (h1 : ∀ x ∈ s.1, P x) (h2 : ∀ x ∈ s.2, P x) : (∀ x ∈ (stepG has un b s).1, P x) ∧ (∀ x ∈ (stepG has un b s).2, P x) := by
  have hl : ∀ x y, P x → P y → P (lessG has un b x y) := fun x y hx hy => by
    unfold lessG
    cases has b y
    · exact hy
    · exact hun y x hy hx
  unfold stepG
  split
  · exact ⟨h1, h2⟩
  · rename_i x hx
    have hx' : P x := h2 x (List.mem_of_getElem? hx)
    constructor
    · intro y hy
      rcases List.mem_append.1 hy with hy | hy
      · obtain ⟨z, hz, rfl⟩ := List.mem_map.1 hy
        exact hl x z hx' (h1 z hz)
      · obtain rfl := List.mem_singleton.1 hy
        exact hx'
    · intro y hy
      obtain ⟨z, hz, rfl⟩ := List.mem_map.1 hy
      exact hl x z hx' (h2 z (List.mem_of_mem_eraseIdx hz))
theorem redG_len (has : Nat → α → Bool) (un : α → α → α) (n : Nat) (s : List α × List α) : (redG has un n s).1.length + (redG has un n s).2.length = s.1.length + s.2.length := by
  induction n generalizing s with
  | zero => rfl
  | succ n ih => unfold redG; rw [ih, stepG_len]
theorem redG_all (has : Nat → α → Bool) (un : α → α → α) (P : α → Prop) (hun : ∀ x y, P x → P y → P (un x y)) (n : Nat) (s : List α × List α) (h1 : ∀ x ∈ s.1, P x) (h2 : ∀ x ∈ s.2, P x) : (∀ x ∈ (redG has un n s).1, P x) ∧ (∀ x ∈ (redG has un n s).2, P x) := by
  induction n generalizing s with
  | zero => exact ⟨h1, h2⟩
  | succ n ih =>
    have := stepG_all has un P hun n s h1 h2
    exact ih _ this.1 this.2
theorem eraseIdx_mapG (f : α → β) (L : List α) (k : Nat) : (L.map f).eraseIdx k = (L.eraseIdx k).map f := by
  rw [List.eraseIdx_eq_take_drop_succ, List.eraseIdx_eq_take_drop_succ, List.map_append, List.map_take, List.map_drop]
/-- a map that keeps bits and what is unlike goes through -/
theorem stepG_map (f : α → β) (has : Nat → α → Bool) (un : α → α → α) (has' : Nat → β → Bool) (un' : β → β → β) (hh : ∀ b x, has' b (f x) = has b x) (hu : ∀ x y, un' (f x) (f y) = f (un x y)) (b : Nat) (T L : List α) :
    stepG has' un' b (T.map f, L.map f) = ((stepG has un b (T, L)).1.map f, (stepG has un b (T, L)).2.map f) := by
  have e : (L.map f).findIdx (has' b) = L.findIdx (has b) := by
    rw [List.findIdx_map]
    congr 1
    funext x
    exact hh b x
  have hl : ∀ x, (lessG has' un' b (f x)) ∘ f = f ∘ (lessG has un b x) := fun x => by
    funext y
    show lessG has' un' b (f x) (f y) = f (lessG has un b x y)
    unfold lessG
    rw [hh]
    cases has b y
    · rfl
    · exact hu y x
  unfold stepG
  simp only [e, List.getElem?_map]
  cases hx : L[L.findIdx (has b)]? with
  | none => rfl
  | some x =>
    simp only [Option.map_some, List.map_map, List.map_append, List.map_cons, List.map_nil, hl, Prod.mk.injEq]
    refine ⟨trivial, ?_⟩
    rw [eraseIdx_mapG, List.map_map, hl]
theorem redG_map (f : α → β) (has : Nat → α → Bool) (un : α → α → α) (has' : Nat → β → Bool) (un' : β → β → β) (hh : ∀ b x, has' b (f x) = has b x) (hu : ∀ x y, un' (f x) (f y) = f (un x y)) (n : Nat) (s : List α × List α) :
    redG has' un' n (s.1.map f, s.2.map f) = ((redG has un n s).1.map f, (redG has un n s).2.map f) := by
  induction n generalizing s with
  | zero => rfl
  | succ n ih =>
    show redG has' un' n (stepG has' un' n (s.1.map f, s.2.map f)) = _
    rw [stepG_map f has un has' un' hh hu]
    exact ih _
end
/-- masks: a bit, what is unlike -/
def hasI (b : Nat) (m : Int) : Bool := m.toNat.testBit b
def unI (x y : Int) : Int := ((x.toNat ^^^ y.toNat : Nat) : Int)
def okI (m : Int) : Prop := 0 ≤ m ∧ m < 1024
theorem okI.un {x y : Int} (hx : okI x) (hy : okI y) : okI (unI x y) := by
  unfold unI
  have h1 : x.toNat < 2 ^ 10 := by have := hx.2; have := hx.1; omega
  have h2 : y.toNat < 2 ^ 10 := by have := hy.2; have := hy.1; omega
  have := Nat.xor_lt_two_pow h1 h2
  exact ⟨by omega, by omega⟩
/-- packets: a bit, what is unlike -/
def hasP (b : Nat) (r : Pk) : Bool := hasI b r.ms
def unP (x y : Pk) : Pk := ⟨unI x.ms y.ms, xorT x.tx y.tx⟩
def okP (z : Nat) (r : Pk) : Prop := okI r.ms ∧ r.tx.size = z
theorem okP.un {z : Nat} {x y : Pk} (hx : okP z x) (hy : okP z y) : okP z (unP x y) := ⟨hx.1.un hy.1, by
  show (xorT x.tx y.tx).size = z
  rw [xorT_size _ _ (hx.2.trans hy.2.symm), hx.2]⟩
/-- a mask as a packet without a text -/
def bareP (m : Int) : Pk := ⟨m, ⟨#[]⟩⟩
theorem bare_has (b : Nat) (m : Int) : hasP b (bareP m) = hasI b m := rfl
theorem bare_un (x y : Int) : unP (bareP x) (bareP y) = bareP (unI x y) := rfl
theorem okI.nat {m : Int} (h : okI m) : ∃ k : Nat, m = (k : Int) ∧ k < 1024 := by
  obtain ⟨h1, h2⟩ := h
  exact ⟨m.toNat, by omega, by omega⟩
/-- masks reduced; packets reduced -/
def redI (n : Nat) (l : List Int) : List Int × List Int := redG hasI unI n ([], l)
def redP (n : Nat) (l : List Pk) : List Pk × List Pk := redG hasP unP n ([], l)
theorem redP_bare (n : Nat) (l : List Int) : redP n (l.map bareP) = ((redI n l).1.map bareP, (redI n l).2.map bareP) :=
  redG_map bareP hasI unI hasP unP bare_has bare_un n ([], l)
end Go.Proofs.Ytnjeeeccfhpolaa
