/- Marks that can be read; small functions over two marks. -/
import Derived.Test.YtlifhakgboekfabSyAll
namespace Go.Proofs.Ytlifhakgboekfab
set_option maxRecDepth 100000
open Go Go.ChangeShapes Go.WideShapes Go.ChangeAt Go.RowKit
theorem kboxS {w : World} {X : Nat} {o : Obj} (h : w.heap[X]? = some o) : X < w.heap.size := (Array.getElem?_eq_some_iff.1 h).1
theorem ba_inj {s t : ByteArray} (h : s.toList = t.toList) : s = t := by
  rw [ByteArray.toList_eq, ByteArray.toList_eq] at h
  cases s; cases t
  congr
  exact Array.toList_inj.1 h
theorem ba_ne {s t : ByteArray} (h : ¬ s = t) : (s.toList == t.toList) = false := beq_eq_false_iff_ne.2 fun e => h (ba_inj e)
/-- marks in memory -/
structure Mr (a : Option Addr) (c : Nat) (A : List Ly) (w : World) : Prop where
  fit : FitK A
  cap : A.length ≤ c
  ys : Ys w.heap.size a A w
theorem Mr.on {a : Option Addr} {c : Nat} {A : List Ly} {w v : World} (h : Mr a c A w) (g : Below w.heap.size w v) : Mr a c A v := ⟨h.fit, h.cap, (h.ys.below g).mono g.size⟩
theorem Mr.sgood {a : Option Addr} {c : Nat} {A : List Ly} {v : World} (h : Mr a c A v) : Calls Try.prog 15 #[.agg #[.slice a A.length c]] v fun e w' => e = .returned (.bool (goodK A)) ∧ Below v.heap.size v w' := sgoodK_any a c A v h.fit.len h.fit.bl h.ys
theorem Mr.igood {a : Option Addr} {c : Nat} {A : List Ly} {v : World} (h : Mr a c A v) : Calls Try.prog 32 #[.agg #[.slice a A.length c]] v fun e w' => e = .returned (.bool (goodK A)) ∧ Below v.heap.size v w' := igoodK_any a c A v h.fit.bl h.ys
theorem Mr.at {a : Option Addr} {c : Nat} {A : List Ly} {v : World} (h : Mr a c A v) (hg : GoodK A) (n : Nat) (hn : n < A.length) (x : Int) : Calls Try.prog 29 #[.agg #[.slice a A.length c], .int .i64 n, .int .i64 x] v fun e w' => e = .returned (.string (atL A x (n + 1))) ∧ Below v.heap.size v w' := l7At_any a c A n x v h.fit.len h.cap hn (fun k hk => ⟨h.fit.bl k hk, (hg.2.2 k hk).2.2.2.2.1⟩) h.ys
theorem Mr.all {a : Option Addr} {c : Nat} {A : List Ly} {v : World} (h : Mr a c A v) (hg : GoodK A) (m : Int) (hm : fndK A m < A.length) : Calls Try.prog 50 #[.agg #[.slice a A.length c], .int .i64 m] v fun e w' => e = .returned (.agg (arrS (atM A m) 16)) ∧ Below v.heap.size v w' := allAt_any a c A m v hg h.fit.bl hm h.ys
theorem both_iff {A B : List Ly} {m : Int} : (goodK A && goodK B && decide (fndK A m < A.length) && decide (fndK B m < B.length)) = decide (BothOk A B m) := by
  unfold BothOk goodK
  by_cases h1 : GoodK A <;> by_cases h2 : GoodK B <;> by_cases h3 : fndK A m < A.length <;> by_cases h4 : fndK B m < B.length <;> simp [h1, h2, h3, h4]
theorem same_no {A B : List Ly} {m : Int} (k : Nat) (h : k < 16) (g : ¬ atM A m k = atM B m k) : sameK A B m = false := decide_eq_false (fun e => g (e ⟨k, h⟩))
theorem same_yes {A B : List Ly} {m : Int} (h : ∀ k : Nat, k < 16 → atM A m k = atM B m k) : sameK A B m = true := decide_eq_true (fun k => h k.1 k.2)
end Go.Proofs.Ytlifhakgboekfab
