/- Walks of the model's FoldRecords. -/
import Derived.Test.YtbipbihjaeobkabStrR
import Derived.Test.YtbipbihjaeobkabGood
import Derived.Test.YtbipbihjaeobkabGoodL
import Derived.Test.YtbipbihjaeobkabCut
import Derived.Test.YtbipbihjaeobkabOwn
import Derived.Laws.AppendOwn
import Derived.BigRegion
namespace Go.Proofs.Ytbipbihjaeobkab
set_option maxRecDepth 100000
open Go.ChangeShapes Go.WideShapes Go.ChangeAt Go.RowKit G00541
def zz : ByteArray := ⟨#[0, 0]⟩
/-- what block j of a record becomes -/
def pieceT (k : Int) (D : ByteArray) (j : Nat) : ByteArray := if k = 1 then D.extract (2 * j) (2 * j + 2) else zz
theorem pieceT_one (D : ByteArray) (j : Nat) : pieceT 1 D j = D.extract (2 * j) (2 * j + 2) := rfl
theorem pieceT_else {k : Int} (h : k ≠ 1) (D : ByteArray) (j : Nat) : pieceT k D j = zz := by unfold pieceT; rw [if_neg h]
def doK (ts : List ByteArray) (k : Int) (p : Nat) (D : ByteArray) : Nat → List ByteArray
  | 0 => ts
  | j + 1 => (doK ts k p D j).set (p + j) (pieceT k D j)
theorem doK_len (ts : List ByteArray) (k : Int) (p : Nat) (D : ByteArray) : ∀ j, (doK ts k p D j).length = ts.length
  | 0 => rfl
  | j + 1 => by show ((doK ts k p D j).set (p + j) (pieceT k D j)).length = _; rw [List.length_set]; exact doK_len ts k p D j
def doR (ts : List ByteArray) (r : Rc) : List ByteArray := doK ts r.kind r.place.toNat (str r.data) r.long.toNat
theorem doR_len (ts : List ByteArray) (r : Rc) : (doR ts r).length = ts.length := doK_len _ _ _ _ _
def blankT : List ByteArray := List.replicate 16 zz
def foldR (l : List Rc) : List ByteArray := l.foldl doR blankT
theorem foldR_snoc (l : List Rc) (r : Rc) : foldR (l ++ [r]) = doR (foldR l) r := by unfold foldR; rw [List.foldl_append]; rfl
theorem foldR_len (l : List Rc) : (foldR l).length = 16 := by
  have : ∀ (l : List Rc) (ts : List ByteArray), ts.length = 16 → (l.foldl doR ts).length = 16 := by
    intro l
    induction l with
    | nil => intro ts h; exact h
    | cons r l ih => intro ts h; exact ih _ (by rw [doR_len]; exact h)
  exact this l blankT (by simp [blankT])
theorem set_set {α : Type} (l : List α) (i : Nat) (a b : α) : (l.set i a).set i b = l.set i b := List.set_set ..
theorem RecAt.but {B R : Nat} {k p n : Int} {D : ByteArray} {v v' : World} (h : RecAt B k p n D v) (g : But R v v') (hB : B ≠ R) : RecAt B k p n D v' := by
  have hc : ∀ i, v'.cell? ⟨B, i, none⟩ = v.cell? ⟨B, i, none⟩ := fun i => g.cell B i h.lt hB
  exact ⟨(hc 0).trans h.c0, (hc 1).trans h.c1, (hc 2).trans h.c2, (hc 3).trans h.c3, Nat.lt_of_lt_of_le h.lt g.size⟩
theorem SRow.drew {R : Nat} {l : List ByteArray} {w : World} (h : SRow R l w) : SRow R l w.drew := GRow.drew h
def svals (l : List ByteArray) : List Value := l.map fun s => .string s
theorem svals_flat (l : List ByteArray) : (l.map scell).flatten = svals l := by
  induction l with
  | nil => rfl
  | cons x l ih => rw [List.map_cons, List.flatten_cons, ih]; rfl
theorem infoStr : (Try.prog.info? 9).map (fun i => (i.zero, i.size, i.bytes)) = some (some (.string ⟨#[]⟩), 1, 16) := by kernel_rfl
theorem rep_snoc (j : Nat) : List.replicate (j + 1) zz = List.replicate j zz ++ [zz] := List.replicate_succ'
theorem good_do {r : Rc} (h : goodR r = true) : ∃ p n : Nat, r.place = p ∧ r.long = n ∧ (0 < n → p + n ≤ 16) ∧ p ≤ 200 ∧ n ≤ 4 ∧ (r.kind = 1 → (str r.data).size = 2 * n) := by
  have hc := good_cases h
  refine ⟨r.place.toNat, r.long.toNat, by omega, by omega, fun h0 => by have := hc.2.2.2.2.2.2.1 (by omega); omega, by omega, by omega, fun hk => ?_⟩
  have := hc.2.2.2.2.2.2.2.1 hk
  rw [str_size]; omega
def foldOk (l : List Rc) : Bool := goodL l && decide (l.length ≤ 60)
end Go.Proofs.Ytbipbihjaeobkab
