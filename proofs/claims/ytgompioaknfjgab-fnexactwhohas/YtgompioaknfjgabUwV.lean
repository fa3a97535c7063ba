/- The model's l14Recover. -/
import Derived.Test.YtgompioaknfjgabUwS
import Derived.Test.YtgompioaknfjgabUwH
import Derived.Test.YtgompioaknfjgabUPut
import Derived.Deep.RegionHeldLaw
namespace Go.Proofs.Ytgompioaknfjgab
set_option maxRecDepth 100000
open Go Go.ChangeShapes Go.WideShapes Go.ChangeAt Go.RowKit
/-- what was set, done once more -/
def redoF (cs : List Int) : List Nt → List Int
  | [] => cs
  | n :: r => redoF (if n.kd = 2 then cs.set n.cl.toNat n.is else cs) r
theorem redoF_step (cs : List Int) (l : List Nt) (k : Nat) (h : k < l.length) : redoF cs (l.drop k) = redoF (if l[k].kd = 2 then cs.set l[k].cl.toNat l[k].is else cs) (l.drop (k + 1)) := by
  rw [List.drop_eq_getElem_cons h]; rfl
theorem redoF_len (l : List Nt) : ∀ cs, (redoF cs l).length = cs.length := by
  induction l with
  | nil => intro cs; rfl
  | cons n r ih =>
    intro cs
    show (redoF (if n.kd = 2 then cs.set n.cl.toNat n.is else cs) r).length = _
    rw [ih]
    by_cases q : n.kd = 2
    · rw [if_pos q, List.length_set]
    · rw [if_neg q]
/-- the open ones undone from the last back, of the first k notes -/
def undN (l : List Nt) (op : List Int) (cs ov : List Int) : Nat → List Int
  | 0 => cs
  | k + 1 => match l[k]? with
    | none => cs
    | some n => if n.wh ∈ op ∧ ¬ n.wh ∈ ov then undN l op (if n.kd = 2 then cs.set n.cl.toNat n.ws else cs) (if n.kd = 1 then ov ++ [n.wh] else ov) k else undN l op cs ov k
theorem undN_step (l : List Nt) (op cs ov : List Int) (k : Nat) (h : k < l.length) : undN l op cs ov (k + 1) = if l[k].wh ∈ op ∧ ¬ l[k].wh ∈ ov then undN l op (if l[k].kd = 2 then cs.set l[k].cl.toNat l[k].ws else cs) (if l[k].kd = 1 then ov ++ [l[k].wh] else ov) k else undN l op cs ov k := by
  show (match l[k]? with | none => cs | some n => if n.wh ∈ op ∧ ¬ n.wh ∈ ov then undN l op (if n.kd = 2 then cs.set n.cl.toNat n.ws else cs) (if n.kd = 1 then ov ++ [n.wh] else ov) k else undN l op cs ov k) = _
  rw [List.getElem?_eq_getElem h]
def recF (X : Uw) : List Int := undN X.lg (openL X.lg) (redoF X.dk X.lg) [] X.lg.length
theorem noteB_cell {n : Nt} (h : noteB n = true) (h2 : n.kd = 2) : 0 ≤ n.cl ∧ n.cl ≤ 5 := by
  unfold noteB at h
  rw [Bool.and_eq_true, if_pos h2, Bool.and_eq_true] at h
  exact inB_at h.2.1
theorem setI {lo R c : Nat} {l : List Int} {w : World} (h : AL lo (.slice (some ⟨R, 0, none⟩) 6 c) l w) (hk : Nat) (x : Int) : AL lo (.slice (some ⟨R, 0, none⟩) 6 c) (l.set hk x) (w.setCell ⟨R, hk, none⟩ (.int .i64 x)) := by
  have h9 : w.ownsRow lo 3 1 (.slice (some ⟨R, 0, none⟩) 6 c) l.length (ivals l) := h
  unfold AL
  rw [List.length_set]
  obtain ⟨hl, ⟨e, _⟩ | ⟨g, cap, cur, e, h1, hg, h2, h3, h4, h5⟩⟩ := h9
  · cases e
  · injection e with e1 e2 e3
    injection e1 with e1
    injection e1 with e1 _ _
    subst e1; subst e3
    have hi : ivals (l.set hk x) = (ivals l).set hk (.int .i64 x) := by unfold ivals; rw [List.map_set]
    refine ⟨by simp [ivals], Or.inr ⟨R, c, _, by rw [e2], h1, box_set hg hk (.int .i64 x), h2, h3, by simp [h4], ?_⟩⟩
    rw [hi, ← h5, Array.toList_setIfInBounds, List.take_set]
theorem al_cell {lo R c n : Nat} {l : List Int} {w : World} (h : AL lo (.slice (some ⟨R, 0, none⟩) n c) l w) : R < w.heap.size ∧ lo ≤ R ∧ (∀ k, k < l.length → ∃ u, w.cell? ⟨R, k, none⟩ = some u) ∧ ∀ k, w.frozen? ⟨R, k, none⟩ = false := by
  have h9 : w.ownsRow lo 3 1 (.slice (some ⟨R, 0, none⟩) n c) l.length (ivals l) := h
  obtain ⟨hl, ⟨e, _⟩ | ⟨g, cap, cur, e, h1, hg, h2, h3, h4, h5⟩⟩ := h9
  · cases e
  · injection e with e1 e2 e3
    injection e1 with e1
    injection e1 with e1 _ _
    subst e1; subst e3
    refine ⟨kbox hg, h1, fun k hk => ?_, fun k => box_free hg k⟩
    have hs : k < cur.size := by omega
    exact ⟨cur[k], by rw [box_cell hg k]; exact Array.getElem?_eq_getElem hs⟩
structure Rc (w : World) (A : UwA) (X : Uw) (R c : Nat) (cs : List Int) (wr : World) : Prop where
  bel : Below w.heap.size w wr
  x : wr.heap[w.heap.size]? = some (.cells #[.slice A.c X.cl.length A.kc, .slice A.d X.dk.length A.kd, .slice A.l X.lg.length A.kl, .int .i64 X.sr, .slice A.o X.op.length A.ko] 31)
  z : wr.heap[w.heap.size + 1]? = some (.cells #[.slice none 0 0, .slice none 0 0, .slice none 0 0, .int .i64 0, .slice none 0 0] 31)
  al : AL (w.heap.size + 2) (.slice (some ⟨R, 0, none⟩) 6 c) cs wr
  len : cs.length = 6
theorem Rc.low {w : World} {A : UwA} {X : Uw} {R c : Nat} {cs : List Int} {wr : World} (h : Rc w A X R c cs wr) : w.heap.size + 2 ≤ R ∧ R < wr.heap.size := ⟨(al_cell h.al).2.1, (al_cell h.al).1⟩
theorem Rc.on {w : World} {A : UwA} {X : Uw} {R c : Nat} {cs : List Int} {wr w' : World} (h : Rc w A X R c cs wr) (g : Below wr.heap.size wr w') : Rc w A X R c cs w' := by
  have hs := h.low
  exact ⟨h.bel.trans (g.mono h.bel.size), (g.block _ (by omega)).trans h.x, (g.block _ (by omega)).trans h.z, h.al.below g, h.len⟩
theorem Rc.set {w : World} {A : UwA} {X : Uw} {R c : Nat} {cs : List Int} {wr : World} (h : Rc w A X R c cs wr) (k : Nat) (x : Int) : Rc w A X R c (cs.set k x) (wr.setCell ⟨R, k, none⟩ (.int .i64 x)) := by
  have hs := h.low
  exact ⟨setB h.bel _ _ (by omega) _, (keepB _ _ _ _ _ (by omega)).trans h.x, (keepB _ _ _ _ _ (by omega)).trans h.z, setI h.al k x, by rw [List.length_set]; exact h.len⟩
theorem OwnI.keepB {lo hi : Nat} {a : Option Addr} {l : List Int} {w w' : World} (h : OwnI lo hi a l w) (g : Below hi w w') : OwnI lo hi a l w' := by
  rcases h with h | ⟨R, h1, h3, e, hr⟩
  · exact Or.inl h
  · exact Or.inr ⟨R, h1, h3, e, hr.same g.size (g.block R h3)⟩
theorem Rc.onN {w : World} {A : UwA} {X : Uw} {R c N : Nat} {cs : List Int} {wr w' : World} (h : Rc w A X R c cs wr) (g : Below N wr w') (hN : R < N) : Rc w A X R c cs w' := by
  have hs := h.low
  refine ⟨h.bel.trans (g.mono (by omega)), (g.block _ (by omega)).trans h.x, (g.block _ (by omega)).trans h.z, rw_keep h.al (fun k hk => ?_), h.len⟩
  have e : some R = some k := hk
  injection e with e
  subst e
  exact g.block _ hN
theorem al_set {lo R m : Nat} {v x : Value} {l : List Int} {w : World} (h : AL lo v l w) (hR : R < lo) : AL lo v l (w.setCell ⟨R, m, none⟩ x) := by
  refine rw_keep h (fun k hk => keepB _ _ _ _ _ ?_)
  have := (World.ownsRow.lt h k hk).1
  omega
theorem own_set {lo hi R m : Nat} {a : Option Addr} {x : Value} {l : List Int} {w : World} (h : OwnI lo hi a l w) (hR : R < lo) : OwnI lo hi a l (w.setCell ⟨R, m, none⟩ x) :=
  h.out (Out.ofBut ((But.refl R w).setCell m x) (Nat.le_refl _) (Nat.lt_succ_self _)) (Or.inr hR)
theorem is_own {lo hi : Nat} {a : Option Addr} {l : List Int} {w : World} (h : OwnI lo hi a l w) : Is w.heap.size a l w := by
  rcases h with rfl | ⟨R, h1, h3, rfl, hr⟩
  · exact ⟨fun h0 => absurd h0 (by simp)⟩
  · exact hr.sl hr.lt
end Go.Proofs.Ytgompioaknfjgab
