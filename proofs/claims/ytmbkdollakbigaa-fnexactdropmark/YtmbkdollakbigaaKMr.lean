/- Marks in memory; answers of lists. -/
import Derived.Test.YtmbkdollakbigaaKReadI
import Derived.Test.YtmbkdollakbigaaMiA
namespace Go.Proofs.Ytmbkdollakbigaa
set_option maxRecDepth 100000
open Go Go.ChangeShapes Go.WideShapes Go.ChangeAt Go.RowKit
theorem kboxS {w : World} {X : Nat} {o : Obj} (h : w.heap[X]? = some o) : X < w.heap.size := (Array.getElem?_eq_some_iff.1 h).1
theorem ba_inj {s t : ByteArray} (h : s.toList = t.toList) : s = t := by
  rw [ByteArray.toList_eq, ByteArray.toList_eq] at h
  cases s; cases t
  congr
  exact Array.toList_inj.1 h
theorem ba_ne {s t : ByteArray} (h : ¬ s = t) : (s.toList == t.toList) = false := beq_eq_false_iff_ne.2 fun e => h (ba_inj e)
/-- marks in memory -/
structure Mr (a : Option Addr) (c : Nat) (A : List Ly) (w : World) : Prop where
  fit : FitK A
  cap : A.length ≤ c
  ys : Ys w.heap.size a A w
theorem Mr.on {a : Option Addr} {c : Nat} {A : List Ly} {w v : World} (h : Mr a c A w) (g : Below w.heap.size w v) : Mr a c A v := ⟨h.fit, h.cap, (h.ys.below g).mono g.size⟩
theorem Mr.sgood {a : Option Addr} {c : Nat} {A : List Ly} {v : World} (h : Mr a c A v) : Calls Try.prog 18 #[.agg #[.slice a A.length c]] v fun e w' => e = .returned (.bool (goodK A)) ∧ Below v.heap.size v w' := sgoodK_any a c A v h.fit.len h.fit.bl h.ys
theorem Mr.igood {a : Option Addr} {c : Nat} {A : List Ly} {v : World} (h : Mr a c A v) : Calls Try.prog 22 #[.agg #[.slice a A.length c]] v fun e w' => e = .returned (.bool (goodK A)) ∧ Below v.heap.size v w' := igoodK_any a c A v h.fit.bl h.ys
theorem Mr.find {a : Option Addr} {c : Nat} {A : List Ly} {v : World} (h : Mr a c A v) (m : Int) : Calls Try.prog 19 #[.agg #[.slice a A.length c], .int .i64 m] v fun e w' => e = .returned (.int .i64 (fk A m)) ∧ Below v.heap.size v w' := l7Find_any a c A m v h.fit.len h.ys
theorem Mr.has {a : Option Addr} {c : Nat} {A : List Ly} {v : World} (h : Mr a c A v) (m : Int) : Calls Try.prog 23 #[.agg #[.slice a A.length c], .int .i64 m] v fun e w' => e = .returned (.bool (decide (fndK A m < A.length))) ∧ Below v.heap.size v w' := hasMark_any a c A m v h.fit.len h.ys
theorem Mr.at {a : Option Addr} {c : Nat} {A : List Ly} {v : World} (h : Mr a c A v) (hg : GoodK A) (n : Nat) (hn : n < A.length) (x : Int) : Calls Try.prog 20 #[.agg #[.slice a A.length c], .int .i64 n, .int .i64 x] v fun e w' => e = .returned (.string (atL A x (n + 1))) ∧ Below v.heap.size v w' := l7At_any a c A n x v h.fit.len h.cap hn (fun k hk => ⟨h.fit.bl k hk, (hg.2.2 k hk).2.2.2.2.1⟩) h.ys
/-- a list and a truth value, in memory of one's own -/
def LOut (V : List Int) (ok : Bool) (w : World) (e : Ending) (w' : World) : Prop := ∃ b c, e = .returned (.tuple #[.slice b V.length c, .bool ok]) ∧ OwnI w.heap.size w'.heap.size b V w' ∧ Below w.heap.size w w'
theorem LOut.no {w w' : World} (g : Below w.heap.size w w') : LOut [] false w (.returned (.tuple #[.slice none 0 0, .bool false])) w' := ⟨none, 0, rfl, Or.inl rfl, g⟩
theorem LOut.yes {V : List Int} {w w' : World} {v : Value} (h : AL w.heap.size v V w') (g : Below w.heap.size w w') : LOut V true w (.returned (.tuple #[v, .bool true])) w' := by
  obtain ⟨b, c, rfl, ho, _⟩ := h.own
  exact ⟨b, c, rfl, ho, g⟩
end Go.Proofs.Ytmbkdollakbigaa
