/- Volumes: plain lists. -/
import Derived.Test.YtlbhfgcpflhccaaGoodL
import Derived.Test.YtlbhfgcpflhccaaFoldS
namespace Go.Proofs.Ytlbhfgcpflhccaa
set_option maxRecDepth 100000
open Go Go.RowKit G00541
/-- the mark behind records -/
def markF (F : Int) (L : List Rc) : Int := L.foldl (fun m r => if r.kind = 3 then r.place else m) F
theorem markF_snoc (F : Int) (L : List Rc) (k : Nat) (h : k < L.length) : markF F (L.take (k + 1)) = if L[k].kind = 3 then L[k].place else markF F (L.take k) := by
  unfold markF
  rw [take_snoc L k h, List.foldl_append]
  rfl
theorem markF_snoc_yes (F : Int) (L : List Rc) (k : Nat) (h : k < L.length) (h3 : L[k].kind = 3) : markF F (L.take (k + 1)) = L[k].place := by rw [markF_snoc F L k h, if_pos h3]
theorem markF_snoc_no (F : Int) (L : List Rc) (k : Nat) (h : k < L.length) (h3 : L[k].kind ≠ 3) : markF F (L.take (k + 1)) = markF F (L.take k) := by rw [markF_snoc F L k h, if_neg h3]
theorem markF_all (F : Int) (L : List Rc) : markF F (L.take L.length) = markF F L := by rw [List.take_length]
/-- all records ahead of place n tell marks that count on -/
def MkTo (F : Int) (L : List Rc) (n : Nat) : Prop := ∀ k (h : k < L.length), k < n → L[k].kind = 3 → L[k].place = markF F (L.take k) + 1
def MkOk (F : Int) (L : List Rc) : Prop := ∀ k (h : k < L.length), L[k].kind = 3 → L[k].place = markF F (L.take k) + 1
instance (F : Int) (L : List Rc) : Decidable (MkOk F L) := by unfold MkOk; infer_instance
theorem MkTo.start (F : Int) (L : List Rc) : MkTo F L 0 := fun _ _ h => absurd h (Nat.not_lt_zero _)
theorem MkTo.on {F : Int} {L : List Rc} {k : Nat} (h : MkTo F L k) (hk : k < L.length) (g : L[k].kind = 3 → L[k].place = markF F (L.take k) + 1) : MkTo F L (k + 1) := fun j hj hjk => by
  by_cases e : j = k
  · subst e; exact g
  · exact h j hj (by omega)
theorem MkTo.all {F : Int} {L : List Rc} (h : MkTo F L L.length) : MkOk F L := fun k hk => h k hk hk
theorem MkTo.bad {F : Int} {L : List Rc} {k : Nat} (hk : k < L.length) (h3 : L[k].kind = 3) (g : L[k].place ≠ markF F (L.take k) + 1) : ¬ MkOk F L := fun h => g (h k hk h3)
theorem goodR_mark {r : Rc} (h : goodR r = true) (h3 : r.kind = 3) : 0 ≤ r.place ∧ r.place ≤ 200 := by
  obtain ⟨k, p, n, d⟩ := r
  simp only at h3
  subst h3
  rw [good_three] at h
  have := of_decide_eq_true h
  exact ⟨this.1, this.2.1⟩
theorem markF_in (F : Int) (L : List Rc) (h0 : 0 ≤ F) (h1 : F ≤ 200) : ∀ k, k ≤ L.length → (∀ j (hj : j < L.length), j < k → goodR L[j] = true) → 0 ≤ markF F (L.take k) ∧ markF F (L.take k) ≤ 200
  | 0, _, _ => ⟨h0, h1⟩
  | k + 1, hk, hg => by
    have ih := markF_in F L h0 h1 k (by omega) (fun j hj hjk => hg j hj (by omega))
    rw [markF_snoc F L k (by omega)]
    by_cases h3 : L[k].kind = 3
    · rw [if_pos h3]
      exact goodR_mark (hg k (by omega) (by omega)) h3
    · rw [if_neg h3]; exact ih
/-- sixteen blocks of two bytes -/
def goodBs (B : List ByteArray) : Bool := decide (B.length = 16) && B.all (fun t => decide (t.size = 2))
theorem goodBs_len {B : List ByteArray} (h : goodBs B = true) : B.length = 16 := by
  unfold goodBs at h; rw [Bool.and_eq_true] at h; exact of_decide_eq_true h.1
theorem goodBs_two {B : List ByteArray} (h : goodBs B = true) (k : Nat) (hk : k < B.length) : B[k].size = 2 := by
  unfold goodBs at h; rw [Bool.and_eq_true, List.all_eq_true] at h; exact of_decide_eq_true (h.2 _ (List.getElem_mem hk))
theorem goodBs_bad {B : List ByteArray} (k : Nat) (hk : k < B.length) (g : B[k].size ≠ 2) : goodBs B = false := by
  cases h : goodBs B
  · rfl
  · exact absurd (goodBs_two h k hk) g
theorem goodBs_short {B : List ByteArray} (g : B.length ≠ 16) : goodBs B = false := by
  cases h : goodBs B
  · rfl
  · exact absurd (goodBs_len h) g
theorem goodBs_all {B : List ByteArray} (g : B.length = 16) (h : ∀ k (hk : k < B.length), B[k].size = 2) : goodBs B = true := by
  unfold goodBs
  rw [Bool.and_eq_true, List.all_eq_true]
  refine ⟨decide_eq_true g, fun t ht => ?_⟩
  obtain ⟨k, hk, rfl⟩ := List.getElem_of_mem ht
  exact decide_eq_true (h k hk)
/-- a log that is good -/
def goodLg (F : Int) (L : List Rc) : Bool := decide (L.length ≤ 40) && goodL L && decide (MkOk F L)
def goodV (B : List ByteArray) (F : Int) (L : List Rc) (s : Int) : Bool := goodBs B && goodLg F L && decide (0 ≤ s ∧ s ≤ L.length) && decide (0 ≤ F ∧ F ≤ 200)
structure GoodV (B : List ByteArray) (F : Int) (L : List Rc) (s : Int) : Prop where
  bs : goodBs B = true
  len : L.length ≤ 40
  recs : goodL L = true
  mok : MkOk F L
  s0 : 0 ≤ s
  s1 : s ≤ L.length
  f0 : 0 ≤ F
  f1 : F ≤ 200
theorem goodV_iff {B : List ByteArray} {F : Int} {L : List Rc} {s : Int} : goodV B F L s = true ↔ GoodV B F L s := by
  unfold goodV goodLg
  simp only [Bool.and_eq_true, decide_eq_true_eq]
  exact ⟨fun ⟨⟨⟨h1, ⟨h2, h3⟩, h4⟩, h5, h6⟩, h7, h8⟩ => ⟨h1, h2, h3, h4, h5, h6, h7, h8⟩, fun h => ⟨⟨⟨h.bs, ⟨h.len, h.recs⟩, h.mok⟩, h.s0, h.s1⟩, h.f0, h.f1⟩⟩
theorem goodV_no {B : List ByteArray} {F : Int} {L : List Rc} {s : Int} (h : ¬ GoodV B F L s) : goodV B F L s = false := by
  cases g : goodV B F L s
  · rfl
  · exact absurd (goodV_iff.1 g) h
/-- blocks when records are done -/
def doL (B : List ByteArray) (L : List Rc) : List ByteArray := L.foldl doR B
theorem doL_snoc (B : List ByteArray) (L : List Rc) (k : Nat) (h : k < L.length) : doL B (L.take (k + 1)) = doR (doL B (L.take k)) L[k] := by
  unfold doL; rw [take_snoc L k h, List.foldl_append]; rfl
theorem doL_len (B : List ByteArray) : ∀ (L : List Rc), (doL B L).length = B.length := by
  intro L
  unfold doL
  induction L generalizing B with
  | nil => rfl
  | cons r l ih => rw [List.foldl_cons, ih, doR_len]
end Go.Proofs.Ytlbhfgcpflhccaa
