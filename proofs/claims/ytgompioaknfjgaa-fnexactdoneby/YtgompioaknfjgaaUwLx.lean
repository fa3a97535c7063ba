/- Notes in the forms of a law's walk. -/
import Derived.Test.YtgompioaknfjgaaUwP
namespace Go.Proofs.Ytgompioaknfjgaa
set_option maxRecDepth 100000
open Go Go.ChangeShapes Go.WideShapes Go.ChangeAt Go.RowKit
theorem to_OwnNtk (a : Option Addr) (cap : Nat) (l : List Nt) (w : World) (hn : l.length ≤ 1048576) (hI : Nts w.heap.size a l w) :
    Calls Try.prog 34 #[.slice a l.length cap] w fun e w' => ∃ b, e = .returned (.slice b l.length l.length) ∧ OwnNt w.heap.size w'.heap.size b l w' ∧ Below w.heap.size w w' :=
  (toNoteS_any a cap l w hn hI).mono fun _ _ ⟨he, hr, hb⟩ => ⟨_, he, Or.inr ⟨_, Nat.le_refl _, hr.lt, rfl, hr⟩, hb⟩
theorem OwnNt.outO {lo hi l2 h2 : Nat} {a : Option Addr} {l : List Nt} {w w' : World} (h : OwnNt lo hi a l w) (g : Out l2 h2 w w') (hd : hi ≤ l2 ∨ h2 ≤ lo) : OwnNt lo hi a l w' := h.out g hd
theorem MNt.own {lo hi : Nat} {a : Option Addr} {l : List Nt} {w : World} (h : MNt (Btw lo hi) a l w) : OwnNt lo hi a l w := by
  rcases h with h | ⟨R, h1, e, hr⟩
  · exact Or.inl h
  · exact Or.inr ⟨R, h1.1, h1.2, e, hr⟩
theorem OutP.toOut {a b : Nat} {w w' : World} (h : OutP (Btw a b) w w') : Out a b w w' := ⟨h.os, h.tape, h.output, h.size, fun k hk hn => h.block k hk (fun hp => by have := hp.1; have := hp.2; omega)⟩
theorem mark_OwnNt (lo hi : Nat) (a : Option Addr) (cap k0 : Nat) (l : List Nt) (w : World) (hn : l.length ≤ 1048576) (k1 : 1 ≤ k0) (k2 : k0 ≤ 1844674407370955160) (h : OwnNt lo hi a l w) :
    Calls Try.prog 38 #[.slice a l.length cap, .int .i64 k0] w fun e w' => e = .returned (.int .i64 (k0 + 5 * l.length : Nat)) ∧ OwnNt lo hi a (ntcMarks l.length k0) w' ∧ Out lo hi w w' :=
  (markNoteS_m _ a cap k0 l w hn k1 (by omega) h.mi).mono fun _ _ ⟨h1, h2, h3⟩ => ⟨h1, h2.own, h3.toOut⟩
theorem szNoteS_l (a : Option Addr) (cap : Nat) (l : List Nt) (left : Int) (w : World) (h0 : 0 ≤ left) (h1 : left ≤ 1048576) (_hf : True) (hn : l.length ≤ 9223372036854775807) (_h : Nts w.heap.size a l w) :
    Calls Try.prog 32 #[.slice a l.length cap, .int .i64 left] w fun e w' => (∃ r : Int, e = .returned (.int .i64 r) ∧ r ≤ 1048576 ∧ (0 ≤ r → l.length ≤ 1048576)) ∧ Below w.heap.size w w' :=
  (szNoteS_any a cap l.length left w h0 h1 hn).mono fun _ _ ⟨⟨r, e1, e2, _, e4⟩, hw⟩ => ⟨⟨r, e1, e2, e4⟩, by rw [hw]; exact Below.refl _ _⟩
end Go.Proofs.Ytgompioaknfjgaa
