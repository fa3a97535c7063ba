/- The model's sweep; two lists of one's own side by side. -/
import Derived.Test.YtjcacjpadjacnabAMod
namespace Go.Proofs.Ytjcacjpadjacnab
set_option maxRecDepth 100000
open Go Go.ChangeShapes Go.WideShapes Go.ChangeAt Go.RowKit
/-- two lists of one's own, apart -/
structure AL2 (lo : Nat) (u : Value) (L : List Int) (v : Value) (H : List Int) (w : World) : Prop where
  left : AL lo u L w
  right : AL lo v H w
  apart : ∀ b, u.ownBlock = some b → v.ownBlock = some b → False
theorem AL2.nil (lo : Nat) (w : World) : AL2 lo (.slice none 0 0) [] (.slice none 0 0) [] w := ⟨AL.nil _ _, AL.nil _ _, fun b h => by cases h⟩
theorem AL2.swap {lo : Nat} {u v : Value} {L H : List Int} {w : World} (h : AL2 lo u L v H w) : AL2 lo v H u L w := ⟨h.right, h.left, fun b h1 h2 => h.apart b h2 h1⟩
theorem AL2.push {lo : Nat} {u v : Value} {L H : List Int} {w : World} (h : AL2 lo u L v H w) (hlo : lo ≤ w.heap.size) (n : Int) (hm : L.length + 1 ≤ 10000) :
    ∃ u' w', (∀ ty, (Builtin.append_ #[22, 22] ty #[u, .slice (some ⟨w.heap.size, 0, none⟩) 1 1]).run Try.prog (w.alloc (.cells #[.int .i64 n] 3)) = .ok u' w') ∧ AL2 lo u' (L ++ [n]) v H w' ∧ Below lo w w' := by
  obtain ⟨u', w', h1, h2, h3, _, h5, h6⟩ := h.left.push hlo n hm
  have hb := boxB w (.cells #[.int .i64 n] 3)
  have hv := h.right.below hb
  refine ⟨u', w', h1, ⟨h2, ?_, fun b e1 e2 => ?_⟩, h3⟩
  · exact rw_keep hv (fun k hk => h5.block k (World.ownsRow.lt hv k hk).2 (fun e => h.apart k e.symm hk))
  · have hlt := (World.ownsRow.lt h.right b e2).2
    rcases h6 with h6 | h6
    · rw [h6] at e1; exact h.apart b e1 e2
    · rw [h6] at e1; injection e1 with e1; omega
theorem filter_snoc_yes (p : Int → Bool) (T : List Int) (k : Nat) (h : k < T.length) (hp : p T[k] = true) : (T.take (k + 1)).filter p = (T.take k).filter p ++ [T[k]] := by
  rw [List.take_succ_eq_append_getElem h, List.filter_append]; simp [hp]
theorem filter_snoc_no (p : Int → Bool) (T : List Int) (k : Nat) (h : k < T.length) (hp : p T[k] = false) : (T.take (k + 1)).filter p = (T.take k).filter p := by
  rw [List.take_succ_eq_append_getElem h, List.filter_append]; simp [hp]
theorem filter_take_len (p : Int → Bool) (T : List Int) (k : Nat) : ((T.take k).filter p).length ≤ T.length := Nat.le_trans (List.length_filter_le _ _) (by rw [List.length_take]; omega)
end Go.Proofs.Ytjcacjpadjacnab
