/- One number is deleted from a list of one's own. -/
import Derived.Test.YtnjeeeccfhpolaaPIx
import Derived.Test.YtnjeeeccfhpolaaAShD
import Derived.Lib.SlKeysI
namespace Go.Proofs.Ytnjeeeccfhpolaa
set_option maxRecDepth 100000
open Go Go.ChangeShapes Go.WideShapes Go.ChangeAt Go.RowKit
theorem AL.cut {lo R c : Nat} {l : List Int} {w : World} (h : AL lo (.slice (some ⟨R, 0, none⟩) l.length c) l w) (k : Nat) (hk : k ≤ l.length) : AL lo (.slice (some ⟨R, 0, none⟩) k c) (l.take k) w := by
  have h9 : w.ownsRow lo 3 1 (.slice (some ⟨R, 0, none⟩) l.length c) l.length (ivals l) := h
  have hlen : (l.take k).length = k := by rw [List.length_take]; omega
  unfold AL
  rw [hlen]
  obtain ⟨hl, ⟨e, _⟩ | ⟨g, cap, cur, e, h1, hg, h2, h3, h4, h5⟩⟩ := h9
  · cases e
  · injection e with e1 _ e3
    injection e1 with e1
    injection e1 with e1 _ _
    subst e1; subst e3
    refine ⟨by simp [ivals]; omega, Or.inr ⟨R, c, cur, rfl, h1, hg, by omega, h3, h4, ?_⟩⟩
    have : ivals (l.take k) = (ivals l).take k := by unfold ivals; rw [List.map_take]
    rw [this, ← h5, List.take_take]
    congr 1; omega
theorem delAL (lo R c : Nat) (l : List Int) (k : Nat) (w : World) (h : AL lo (.slice (some ⟨R, 0, none⟩) l.length c) l w) (hk : k < l.length) :
    Calls Try.prog 70 #[.slice (some ⟨R, 0, none⟩) l.length c, .int .i64 (k : Int), .int .i64 ((k : Int) + 1)] w fun e w' => e = .returned (.slice (some ⟨R, 0, none⟩) (l.eraseIdx k).length c) ∧ AL lo (.slice (some ⟨R, 0, none⟩) (l.eraseIdx k).length c) (l.eraseIdx k) w' ∧ w.grownBy w' (some R) := by
  have h9 : w.ownsRow lo 3 1 (.slice (some ⟨R, 0, none⟩) l.length c) l.length (ivals l) := h
  obtain ⟨hl, ⟨e, _⟩ | ⟨g, cap, cur, e, h1, hg, h2, h3, h4, h5⟩⟩ := h9
  · cases e
  · injection e with e1 _ e3
    injection e1 with e1
    injection e1 with e1 _ _
    subst e1; subst e3
    have hH : Go.Sort.Holds (Value.int .i64) w R 0 l.toArray := holds_of_block_i hg (by rw [Nat.mul_one] at h5; exact h5)
    have hm : c ≤ 9223372036854775807 := by unfold maxLen at h3; omega
    have hcall := delI_row R 0 c k (k + 1) l w hH h2 hm (by omega) (by omega)
    rw [show ((k + 1 : Nat) : Int) = (k : Int) + 1 from by omega] at hcall
    refine hcall.mono ?_
    rintro e w' ⟨he, q, hw⟩
    have hle : (l.eraseIdx k).length = l.length - 1 := by rw [List.length_eraseIdx, if_pos hk]
    have e1 : l.length - (k + 1 - k) = (l.eraseIdx k).length := by omega
    rw [e1] at he
    rw [← Go.Sort.grow_empty (Go.Sort.putRow _ _ _ _ _)] at hw
    have hts : (l.take k ++ l.drop (k + 1) ++ List.replicate (k + 1 - k) (0 : Int)).length = l.length := by simp; omega
    subst hw
    refine ⟨he, ?_, grownBy_sorted_i _⟩
    have := ownsRow_sorted_i (n := q) (os := #[]) (ss := l) (ts := l.take k ++ l.drop (k + 1) ++ List.replicate (k + 1 - k) (0 : Int)) hts h1 hg h2 h3 h4
    have hA : AL lo (.slice (some ⟨R, 0, none⟩) (l.take k ++ l.drop (k + 1) ++ List.replicate (k + 1 - k) (0 : Int)).length c) (l.take k ++ l.drop (k + 1) ++ List.replicate (k + 1 - k) (0 : Int)) (Go.Sort.grow (Go.Sort.putRow encZ (Go.Sort.ahead w q) R 0 (l.take k ++ l.drop (k + 1) ++ List.replicate (k + 1 - k) (0 : Int)).toArray) #[]) := by
      unfold AL
      rw [hts]
      exact this
    have hcut := hA.cut (l.eraseIdx k).length (by rw [hts]; omega)
    have ht : (l.take k ++ l.drop (k + 1) ++ List.replicate (k + 1 - k) (0 : Int)).take (l.eraseIdx k).length = l.eraseIdx k := by
      rw [← List.eraseIdx_eq_take_drop_succ, List.take_left]
    rw [ht] at hcut
    exact hcut
theorem delGL (lo R c : Nat) (l : List Int) (k : Nat) (w : World) (h : GL KI lo (.slice (some ⟨R, 0, none⟩) l.length c) l w) (hk : k < l.length) :
    Calls Try.prog 70 #[.slice (some ⟨R, 0, none⟩) l.length c, .int .i64 (k : Int), .int .i64 ((k : Int) + 1)] w fun e w' => e = .returned (.slice (some ⟨R, 0, none⟩) (l.eraseIdx k).length c) ∧ GL KI lo (.slice (some ⟨R, 0, none⟩) (l.eraseIdx k).length c) (l.eraseIdx k) w' ∧ w.grownBy w' (some R) :=
  (delAL lo R c l k w (gl_al.1 h) hk).mono fun _ _ ⟨h1, h2, h3⟩ => ⟨h1, gl_al.2 h2, h3⟩
end Go.Proofs.Ytnjeeeccfhpolaa
