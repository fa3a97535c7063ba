/- The second halves laid behind the first, in either order. -/
import Derived.Test.YtmbkdollakbigaaKPn
namespace Go.Proofs.Ytmbkdollakbigaa
set_option maxRecDepth 100000
open Go Go.ChangeShapes Go.WideShapes Go.ChangeAt Go.RowKit
theorem two_is (U : World) (lo : Nat) (v : Value) (n : Nat) (xs : List Value) (y : Value) (m : Nat) (ys : List Value) (o : U.ownsRow lo 3 1 v n xs) (u : U.ownsRow lo 9 1 y m ys) (hne : ∀ g, v.ownBlock = some g → y.ownBlock ≠ some g) (p : Option Addr) (c : Nat) (l : List Int) (q : Option Addr) (d : Nat) (k : List ByteArray) (rI : Is U.heap.size p l U) (rS : Ss lo q k U) (h1 : n + l.length ≤ 10000) (h2 : m + k.length ≤ 10000) (hlo : lo ≤ U.heap.size) :
    ∃ a e V b f W, (∀ ty, (Builtin.append_ #[26, 26] ty #[v, .slice p l.length c]).run Try.prog U = .ok (.slice a (n + l.length) e) V) ∧ (∀ ty, (Builtin.append_ #[62, 62] ty #[y, .slice q k.length d]).run Try.prog V = .ok (.slice b (m + k.length) f) W) ∧
      W.ownsRow lo 3 1 (.slice a (n + l.length) e) (n + l.length) (xs ++ ivals l) ∧ W.ownsRow lo 9 1 (.slice b (m + k.length) f) (m + k.length) (ys ++ svals k) ∧ Below lo U V ∧ Below lo U W := by
  obtain ⟨v', V, r, o', g, nb⟩ := app_int U lo v n xs o p c l rI h1 hlo
  obtain ⟨a, e, rfl⟩ := rw_form o'
  have b1 : Below lo U V := below_of_grown g hlo (fun j e => (o.lt j e).1)
  have s1 := b1.size
  have hgs := g.size
  have u' : V.ownsRow lo 9 1 y m ys := rw_keep u (fun j hj => g.block j (u.lt j hj).2 (fun e => hne j e.symm hj))
  obtain ⟨y', W, r2, u2, g2, nb2⟩ := app_str V lo y m ys u' q d k ((rS.below b1).mono (by omega)) h2 (by omega)
  obtain ⟨b, f, rfl⟩ := rw_form u2
  have b2 : Below lo V W := below_of_grown g2 (by omega) (fun j e => (u'.lt j e).1)
  refine ⟨a, e, V, b, f, W, r, r2, rw_keep o' (fun j hj => g2.block j (o'.lt j hj).2 (fun e => ?_)), u2, b1, b1.trans b2⟩
  rcases nb with e1 | e1
  · exact hne j (e1.symm.trans hj) e.symm
  · rw [e1] at hj
    injection hj with hj
    have := (u.lt j e.symm).2
    omega
theorem two_si (U : World) (lo : Nat) (v : Value) (n : Nat) (xs : List Value) (y : Value) (m : Nat) (ys : List Value) (o : U.ownsRow lo 9 1 v n xs) (u : U.ownsRow lo 3 1 y m ys) (hne : ∀ g, v.ownBlock = some g → y.ownBlock ≠ some g) (p : Option Addr) (c : Nat) (l : List ByteArray) (q : Option Addr) (d : Nat) (k : List Int) (rI : Ss U.heap.size p l U) (rS : Is lo q k U) (h1 : n + l.length ≤ 10000) (h2 : m + k.length ≤ 10000) (hlo : lo ≤ U.heap.size) :
    ∃ a e V b f W, (∀ ty, (Builtin.append_ #[62, 62] ty #[v, .slice p l.length c]).run Try.prog U = .ok (.slice a (n + l.length) e) V) ∧ (∀ ty, (Builtin.append_ #[26, 26] ty #[y, .slice q k.length d]).run Try.prog V = .ok (.slice b (m + k.length) f) W) ∧
      W.ownsRow lo 9 1 (.slice a (n + l.length) e) (n + l.length) (xs ++ svals l) ∧ W.ownsRow lo 3 1 (.slice b (m + k.length) f) (m + k.length) (ys ++ ivals k) ∧ Below lo U V ∧ Below lo U W := by
  obtain ⟨v', V, r, o', g, nb⟩ := app_str U lo v n xs o p c l rI h1 hlo
  obtain ⟨a, e, rfl⟩ := rw_form o'
  have b1 : Below lo U V := below_of_grown g hlo (fun j e => (o.lt j e).1)
  have s1 := b1.size
  have hgs := g.size
  have u' : V.ownsRow lo 3 1 y m ys := rw_keep u (fun j hj => g.block j (u.lt j hj).2 (fun e => hne j e.symm hj))
  obtain ⟨y', W, r2, u2, g2, nb2⟩ := app_int V lo y m ys u' q d k ((rS.below b1).mono (by omega)) h2 (by omega)
  obtain ⟨b, f, rfl⟩ := rw_form u2
  have b2 : Below lo V W := below_of_grown g2 (by omega) (fun j e => (u'.lt j e).1)
  refine ⟨a, e, V, b, f, W, r, r2, rw_keep o' (fun j hj => g2.block j (o'.lt j hj).2 (fun e => ?_)), u2, b1, b1.trans b2⟩
  rcases nb with e1 | e1
  · exact hne j (e1.symm.trans hj) e.symm
  · rw [e1] at hj
    injection hj with hj
    have := (u.lt j e.symm).2
    omega
end Go.Proofs.Ytmbkdollakbigaa
