/- Records and their texts: plain numbers, texts and lists. -/
import Derived.Test.YtlbhfgcpflhccaaPlain
import Derived.Laws.BytesArg
namespace G00541
open Go
theorem byteOn_zero (c : Nat) (h : c < 256) : byteOn 0 c = c := by
  have all : ∀ j : Fin 256, byteOn 0 j.val = j.val := by decide +kernel
  exact all ⟨c, h⟩
theorem nibOn_small (s f : Nat) (hs : s < 4096) (hf : f < 16) : nibOn s f = 16 * s + f := by
  rw [nibOn_tab s f (by omega) hf, show s % 4096 = s by omega, show s / 4096 = 0 by omega]
  show (16 * s + f) ^^^ 0 = _
  rw [Nat.xor_zero]
theorem byteOn_small (s c : Nat) (hs : s < 256) (hc : c < 256) : byteOn s c = 256 * s + c := by
  unfold byteOn
  rw [nibOn_small s (c / 16) (by omega) (by omega), nibOn_small _ _ (by omega) (by omega)]
  omega
theorem sum_two (a b : UInt8) : sumOn 0 [a, b] = 256 * a.toNat + b.toNat := by
  have ha := a.toNat_lt
  have hb := b.toNat_lt
  show byteOn (byteOn 0 a.toNat) b.toNat = _
  rw [byteOn_zero _ (by omega), byteOn_small _ _ (by omega) (by omega)]
theorem xor_cancel (x y : Nat) (h : x ^^^ y = 0) : x = y := by
  have e : x ^^^ y ^^^ y = 0 ^^^ y := by rw [h]
  rw [Nat.xor_assoc, Nat.xor_self, Nat.xor_zero, Nat.zero_xor] at e
  exact e
/-- two bytes behind a text leave no sum just where they are the sum of the text and two bytes 0 -/
theorem sum_end (l : List UInt8) (a b : UInt8) : sumOn 0 (l ++ [a, b]) = 0 ↔ sumOn 0 (l ++ [0, 0]) = 256 * a.toNat + b.toNat := by
  have hl := sumOn_lt l 0 (by decide)
  rw [sumOn_append, sumOn_append]
  have h := sumOn_zeros (sumOn 0 l) [a, b] hl
  rw [sum_two] at h
  have e : List.replicate [a, b].length (0 : UInt8) = [0, 0] := rfl
  rw [e] at h
  rw [← h]
  constructor
  · exact xor_cancel _ _
  · intro g; rw [g, Nat.xor_self]
/-- a text's two bytes of sum -/
def sumZZ (s : List UInt8) : Nat := sumOn 0 (s ++ [0, 0])
theorem sumZZ_lt (s : List UInt8) : sumZZ s < 65536 := sumOn_lt _ _ (by decide)
def withL (s : List UInt8) : List UInt8 := s ++ [UInt8.ofNat (sumZZ s / 256), UInt8.ofNat (sumZZ s % 256)]
theorem withL_len (s : List UInt8) : (withL s).length = s.length + 2 := by simp [withL]
theorem u8_of {n : Nat} (h : n < 256) : (UInt8.ofNat n).toNat = n := UInt8.toNat_ofNat_of_lt' (by show n < 256; exact h)
theorem u8_eq {a b : UInt8} (h : a.toNat = b.toNat) : a = b := UInt8.toNat.inj h
theorem withL_iff (l : List UInt8) (a b : UInt8) : withL l = l ++ [a, b] ↔ sumOn 0 (l ++ [a, b]) = 0 := by
  rw [sum_end]
  have hz := sumZZ_lt l
  have ha := a.toNat_lt
  have hb := b.toNat_lt
  constructor
  · intro h
    have h2 : [UInt8.ofNat (sumZZ l / 256), UInt8.ofNat (sumZZ l % 256)] = [a, b] := List.append_cancel_left h
    simp at h2
    obtain ⟨h3, h4⟩ := h2
    have e3 := u8_of (n := sumZZ l / 256) (by omega)
    have e4 := u8_of (n := sumZZ l % 256) (by omega)
    rw [h3] at e3
    rw [h4] at e4
    show sumZZ l = _
    omega
  · intro h
    have h' : sumZZ l = 256 * a.toNat + b.toNat := h
    unfold withL
    rw [u8_eq (a := UInt8.ofNat (sumZZ l / 256)) (b := a) (by rw [u8_of (by omega)]; omega), u8_eq (a := UInt8.ofNat (sumZZ l % 256)) (b := b) (by rw [u8_of (by omega)]; omega)]
/-- a record -/
structure Rc where
  kind : Int
  place : Int
  long : Int
  data : List UInt8
deriving DecidableEq
def zeroR : Rc := ⟨0, 0, 0, []⟩
def spanR (p n : Int) : Bool := decide (1 ≤ n ∧ n ≤ 4 ∧ 0 ≤ p ∧ p ≤ 16 - n)
def goodR (r : Rc) : Bool :=
  if r.kind = 1 then spanR r.place r.long && decide ((r.data.length : Int) = 2 * r.long)
  else if r.kind = 2 then spanR r.place r.long && decide (r.data = [])
  else if r.kind = 3 then decide (0 ≤ r.place ∧ r.place ≤ 200 ∧ r.long = 0 ∧ r.data = [])
  else false
theorem good_cases {r : Rc} (h : goodR r = true) : (r.kind = 1 ∨ r.kind = 2 ∨ r.kind = 3) ∧ 0 ≤ r.place ∧ r.place ≤ 200 ∧ 0 ≤ r.long ∧ r.long ≤ 4 ∧ r.data.length ≤ 8 ∧ (1 ≤ r.long → r.place ≤ 16 - r.long) ∧ (r.kind = 1 → (r.data.length : Int) = 2 * r.long) ∧ (r.kind = 3 → r.long = 0) ∧ (r.kind ≠ 3 → 1 ≤ r.long) ∧ (r.kind ≠ 1 → r.data = []) := by
  unfold goodR at h
  split at h
  · rename_i hk
    rw [Bool.and_eq_true] at h
    have h1 := of_decide_eq_true h.1
    have h2 := of_decide_eq_true h.2
    refine ⟨Or.inl hk, by omega, by omega, by omega, by omega, by omega, by omega, by omega, by omega, by omega, fun h => absurd hk h⟩
  · split at h
    · rename_i hk
      rw [Bool.and_eq_true] at h
      have h1 := of_decide_eq_true h.1
      have h2 := of_decide_eq_true h.2
      refine ⟨Or.inr (Or.inl hk), by omega, by omega, by omega, by omega, by rw [h2]; decide, by omega, by omega, by omega, by omega, fun _ => h2⟩
    · split at h
      · rename_i hk
        have h1 := of_decide_eq_true h
        refine ⟨Or.inr (Or.inr hk), h1.1, h1.2.1, by omega, by omega, by rw [h1.2.2.2]; decide, by omega, by omega, by omega, fun h => absurd hk h, fun _ => h1.2.2.2⟩
      · cases h
def headL (r : Rc) : List UInt8 := [UInt8.ofNat r.kind.toNat, UInt8.ofNat r.place.toNat, UInt8.ofNat r.long.toNat]
def bodyL (r : Rc) : List UInt8 := headL r ++ r.data
/-- a record's text -/
def textL (r : Rc) : List UInt8 := UInt8.ofNat (withL (bodyL r)).length :: withL (bodyL r)
theorem bodyL_len (r : Rc) : (bodyL r).length = 3 + r.data.length := by simp [bodyL, headL]; omega
theorem textL_len (r : Rc) : (textL r).length = 6 + r.data.length := by
  unfold textL
  rw [List.length_cons, withL_len, bodyL_len]; omega
/-- what lies in a piece t between a record's length and the next record, if t is long enough -/
def pieceR (t : List UInt8) : Rc := ⟨((t.getD 0 0).toNat : Int), ((t.getD 1 0).toNat : Int), ((t.getD 2 0).toNat : Int), (t.drop 3).take (t.length - 5)⟩
/-- the record that stands at place p of s, and the place behind -/
def readR (s : List UInt8) (p : Nat) : Option (Rc × Nat) :=
  if p < s.length then
    let n := (s.getD p 0).toNat
    let t := (s.drop (p + 1)).take n
    if 5 ≤ n ∧ n ≤ s.length - p - 1 ∧ goodR (pieceR t) = true ∧ sumOn 0 t = 0 then some (pieceR t, p + 1 + n) else none
  else none
theorem u8_back (a : UInt8) : UInt8.ofNat ((a.toNat : Int)).toNat = a := by simp
theorem piece_body (t : List UInt8) (h : 5 ≤ t.length) : bodyL (pieceR t) = t.take (t.length - 2) := by
  match t, h with
  | a :: b :: c :: t, h =>
    simp only [bodyL, headL, pieceR, List.getD_cons_zero, List.getD_cons_succ, u8_back, List.length_cons, List.drop_succ_cons, List.drop_zero] at *
    rw [show t.length + 1 + 1 + 1 - 5 = t.length - 2 by omega, show t.length + 1 + 1 + 1 - 2 = (t.length - 2) + 1 + 1 + 1 by omega]
    simp only [List.take_succ_cons]
    rfl
/-- the model's way to ask: the record's text is what stands there -/
theorem piece_text (t : List UInt8) (h : 5 ≤ t.length) : withL (bodyL (pieceR t)) = t ↔ sumOn 0 t = 0 := by
  rw [piece_body t h]
  have hs : t = t.take (t.length - 2) ++ [t[t.length - 2]'(by omega), t[t.length - 1]'(by omega)] := by
    conv => lhs; rw [← List.take_append_drop (t.length - 2) t]
    congr 1
    rw [List.drop_eq_getElem_cons (by omega), List.drop_eq_getElem_cons (by omega)]
    congr 2
    · congr 1; omega
    · rw [List.drop_of_length_le (by omega)]
  generalize t.take (t.length - 2) = l at *
  generalize t[t.length - 2]'(by omega) = a at *
  generalize t[t.length - 1]'(by omega) = b at *
  rw [hs]
  exact withL_iff l a b
theorem piece_text1 (t : List UInt8) (h : 5 ≤ t.length) (h2 : t.length < 256) (x : UInt8) (hx : x.toNat = t.length) : textL (pieceR t) = x :: t ↔ sumOn 0 t = 0 := by
  rw [← piece_text t h]
  unfold textL
  constructor
  · intro g
    exact (List.cons.inj g).2
  · intro g
    rw [g, u8_eq (a := UInt8.ofNat t.length) (b := x) (by rw [u8_of h2, hx])]
theorem readR_some {s : List UInt8} {p : Nat} {r : Rc} {e : Nat} (h : readR s p = some (r, e)) : p + 6 ≤ e ∧ e ≤ s.length ∧ goodR r = true := by
  unfold readR at h
  split at h
  · rename_i hp
    simp only at h
    split at h
    · rename_i hc
      obtain ⟨h1, h2, h3, h4⟩ := hc
      rw [Option.some.injEq, Prod.mk.injEq] at h
      obtain ⟨rfl, rfl⟩ := h
      exact ⟨by omega, by omega, h3⟩
    · cases h
  · cases h
/-- all records from place p on, and the place where none stands -/
def readsR (s : List UInt8) : Nat → Nat → List Rc × Nat
  | 0, p => ([], p)
  | f + 1, p => match readR s p with
    | none => ([], p)
    | some (r, e) => (r :: (readsR s f e).1, (readsR s f e).2)
theorem readsR_none {s : List UInt8} {f p : Nat} (h : readR s p = none) : readsR s f p = ([], p) := by
  cases f with
  | zero => rfl
  | succ f => show (match readR s p with | none => ([], p) | some (r, e) => (r :: (readsR s f e).1, (readsR s f e).2)) = _; rw [h]
theorem readsR_some {s : List UInt8} {f p e : Nat} {r : Rc} (h : readR s p = some (r, e)) : readsR s (f + 1) p = (r :: (readsR s f e).1, (readsR s f e).2) := by
  show (match readR s p with | none => ([], p) | some (r, e) => (r :: (readsR s f e).1, (readsR s f e).2)) = _; rw [h]
def allR (s : List UInt8) : List Rc × Nat := readsR s (s.length + 1) 0
/-- what a loop over the records keeps: l is read, p is the place behind -/
def Read (s : List UInt8) (l : List Rc) (p : Nat) : Prop := p ≤ s.length ∧ 6 * l.length ≤ p ∧ ∃ f, s.length < f + p ∧ allR s = (l ++ (readsR s f p).1, (readsR s f p).2)
theorem Read.start (s : List UInt8) : Read s [] 0 := ⟨Nat.zero_le _, Nat.le_refl _, s.length + 1, by omega, rfl⟩
theorem Read.step {s : List UInt8} {l : List Rc} {p e : Nat} {r : Rc} (h : Read s l p) (hr : readR s p = some (r, e)) : Read s (l ++ [r]) e := by
  obtain ⟨h1, h2, f, h3, h4⟩ := h
  have h5 := readR_some hr
  refine ⟨h5.2.1, by rw [List.length_append]; simp; omega, ?_⟩
  cases f with
  | zero => omega
  | succ f =>
    refine ⟨f, by omega, ?_⟩
    rw [h4, readsR_some hr]
    simp
theorem Read.done {s : List UInt8} {l : List Rc} {p : Nat} (h : Read s l p) (hr : readR s p = none) : allR s = (l, p) := by
  obtain ⟨h1, h2, f, h3, h4⟩ := h
  rw [h4, readsR_none hr]
  simp
theorem allR_end (s : List UInt8) : (allR s).2 ≤ s.length := by
  have key : ∀ f p, p ≤ s.length → (readsR s f p).2 ≤ s.length := by
    intro f
    induction f with
    | zero => intro p hp; exact hp
    | succ f ih =>
      intro p hp
      cases hr : readR s p with
      | none => rw [readsR_none hr]; exact hp
      | some x =>
        obtain ⟨r, e⟩ := x
        rw [readsR_some hr]
        exact ih e (readR_some hr).2.1
  exact key _ _ (Nat.zero_le _)
end G00541
