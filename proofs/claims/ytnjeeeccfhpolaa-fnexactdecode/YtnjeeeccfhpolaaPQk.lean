/- What the program's reduce over packets keeps while it goes. -/
import Derived.Test.YtnjeeeccfhpolaaPDl2
namespace Go.Proofs.Ytnjeeeccfhpolaa
set_option maxRecDepth 100000
open Go Go.ChangeShapes Go.WideShapes Go.ChangeAt Go.RowKit
/-- reducing packets: rows told and left, the bit's box -/
structure PJ (z n : Nat) (p : List Pk) (w : World) (lo BM b : Nat) (tv lv : Value) (T L : List Pk) (BB : Nat) (wr : World) : Prop where
  bn : b ≤ n
  red : redG hasP unP b (T, L) = redP n p
  gt : GL KP lo tv T wr
  gl : GL KP lo lv L wr
  ap : Apart tv lv
  ot : ∀ x ∈ T, okP z x
  ol : ∀ x ∈ L, okP z x
  len : T.length + L.length = p.length
  be : Below w.heap.size w wr
  bm : wr.heap[BM]? = some (.cells #[.func (.func 46) #[] #[]] 62)
  bb : wr.heap[BB]? = some (.cells #[.int .i64 ((b : Int) - 1)] 3)
  nt : ∀ k, tv.ownBlock = some k → k ≠ BB
  nl : ∀ k, lv.ownBlock = some k → k ≠ BB
  wb : w.heap.size ≤ BB
/-- the next bit: a box of its own -/
theorem PJ.next {z n : Nat} {p : List Pk} {w : World} {lo BM b : Nat} {tv lv : Value} {T L : List Pk} {BB : Nat} {wr : World} (h : PJ z n p w lo BM b tv lv T L BB wr) {c : Nat} (hb : b = c + 1) (T' L' : List Pk) (tv' lv' : Value) {wn : World}
    (gt : GL KP lo tv' T' wn) (gl : GL KP lo lv' L' wn) (ap : Apart tv' lv') (ot : ∀ x ∈ T', okP z x) (ol : ∀ x ∈ L', okP z x) (len : T'.length + L'.length = p.length) (hst : stepG hasP unP c (T, L) = (T', L'))
    (be : Below w.heap.size w wn := by first | exact PJ.be (by assumption) | assumption) (bm : wn.heap[BM]? = some (.cells #[.func (.func 46) #[] #[]] 62) := by first | exact PJ.bm (by assumption) | assumption) :
    PJ z n p w lo BM c tv' lv' T' L' wn.heap.size (wn.alloc (.cells #[.int .i64 ((c : Int) - 1)] 3)) := by
  have g := boxB wn (.cells #[.int .i64 ((c : Int) - 1)] 3)
  refine ⟨by have := h.bn; omega, ?_, gt.below g, gl.below g, ap, ot, ol, len, be.trans (g.mono be.size), (g.block _ (kbox bm)).trans bm, heap_last _ _, fun k hk => by have := (gt.lt k hk).2; omega, fun k hk => by have := (gl.lt k hk).2; omega, be.size⟩
  rw [← h.red, hb]
  show _ = redG hasP unP c (stepG hasP unP c (T, L))
  rw [hst]
/-- while rows are gone over: both rows, the boxes, and the list of both -/
structure PK (w : World) (lo BM BB Z X c : Nat) (x : Pk) (tv lv : Value) (T L : List Pk) (wr : World) : Prop where
  gt : GL KP lo tv T wr
  gl : GL KP lo lv L wr
  bm : wr.heap[BM]? = some (.cells #[.func (.func 46) #[] #[]] 62)
  bb : wr.heap[BB]? = some (.cells #[.int .i64 (c : Int)] 3)
  bz : wr.heap[Z]? = some (.cells #[tv, lv] 36)
  bx : wr.heap[X]? = some (.cells #[.int .i64 x.ms, .string x.tx] 28)
  be : Below w.heap.size w wr
/-- what does not change meanwhile -/
structure PS (w : World) (lo BM BB Z X : Nat) (tv lv : Value) : Prop where
  ap : Apart tv lv
  mlo : BM < lo
  wlo : w.heap.size ≤ lo
  nt : ∀ k, tv.ownBlock = some k → k ≠ BB ∧ k ≠ Z ∧ k ≠ X
  nl : ∀ k, lv.ownBlock = some k → k ≠ BB ∧ k ≠ Z ∧ k ≠ X
theorem PK.below {w : World} {lo BM BB Z X c : Nat} {x : Pk} {tv lv : Value} {T L : List Pk} {wr wr' : World} (h : PK w lo BM BB Z X c x tv lv T L wr) (g : Below wr.heap.size wr wr') : PK w lo BM BB Z X c x tv lv T L wr' :=
  ⟨h.gt.below g, h.gl.below g, (g.block _ (kbox h.bm)).trans h.bm, (g.block _ (kbox h.bb)).trans h.bb, (g.block _ (kbox h.bz)).trans h.bz, (g.block _ (kbox h.bx)).trans h.bx, h.be.trans (g.mono h.be.size)⟩
/-- one of both rows, and how all stands by what it is -/
structure CurP (lo : Nat) (BM BB X c : Nat) (x : Pk) (ca : Option Addr) (cc : Nat) (n : Nat) (st : List Pk → World → Prop) : Prop where
  gl : ∀ l wr, st l wr → GL KP lo (.slice ca n cc) l wr
  bm : ∀ l wr, st l wr → wr.heap[BM]? = some (.cells #[.func (.func 46) #[] #[]] 62)
  bb : ∀ l wr, st l wr → wr.heap[BB]? = some (.cells #[.int .i64 (c : Int)] 3)
  bx : ∀ l wr, st l wr → wr.heap[X]? = some (.cells #[.int .i64 x.ms, .string x.tx] 28)
  below : ∀ l wr wr', st l wr → Below wr.heap.size wr wr' → st l wr'
  set : ∀ R l wr j y, ca = some ⟨R, 0, none⟩ → l.length = n → st l wr → st (l.set j y) ((wr.setCell ⟨R, j * 2, none⟩ (.int .i64 y.ms)).setCell ⟨R, j * 2 + 1, none⟩ (.string y.tx))
theorem curTP {w : World} {lo BM BB Z X c cc n : Nat} {x : Pk} {ca : Option Addr} {lv : Value} {L : List Pk} (S : PS w lo BM BB Z X (.slice ca n cc) lv) :
    CurP lo BM BB X c x ca cc n (fun l wr => PK w lo BM BB Z X c x (.slice ca n cc) lv l L wr) := by
  refine ⟨fun l wr h => h.gt, fun l wr h => h.bm, fun l wr h => h.bb, fun l wr h => h.bx, fun l wr wr' h g => h.below g, fun R l wr j y e hl h => ?_⟩
  subst hl
  subst e
  have hR := (h.gt.lt R rfl).1
  have hn := S.nt R rfl
  have k : ∀ q, q ≠ R → ((wr.setCell ⟨R, j * 2, none⟩ (.int .i64 y.ms)).setCell ⟨R, j * 2 + 1, none⟩ (.string y.tx)).heap[q]? = wr.heap[q]? := fun q hq => (keepB _ _ _ _ _ hq).trans (keepB _ _ _ _ _ hq)
  exact ⟨h.gt.setP y, h.gl.keep (fun q hq => k q (fun e => S.ap R q rfl hq e.symm)), (k _ (by have := S.mlo; omega)).trans h.bm, (k _ (fun e => hn.1 e.symm)).trans h.bb, (k _ (fun e => hn.2.1 e.symm)).trans h.bz, (k _ (fun e => hn.2.2 e.symm)).trans h.bx, setB (setB h.be _ _ (by have := S.wlo; omega) _) _ _ (by have := S.wlo; omega) _⟩
theorem curLP {w : World} {lo BM BB Z X c cc n : Nat} {x : Pk} {ca : Option Addr} {tv : Value} {T : List Pk} (S : PS w lo BM BB Z X tv (.slice ca n cc)) :
    CurP lo BM BB X c x ca cc n (fun l wr => PK w lo BM BB Z X c x tv (.slice ca n cc) T l wr) := by
  refine ⟨fun l wr h => h.gl, fun l wr h => h.bm, fun l wr h => h.bb, fun l wr h => h.bx, fun l wr wr' h g => h.below g, fun R l wr j y e hl h => ?_⟩
  subst hl
  subst e
  have hR := (h.gl.lt R rfl).1
  have hn := S.nl R rfl
  have k : ∀ q, q ≠ R → ((wr.setCell ⟨R, j * 2, none⟩ (.int .i64 y.ms)).setCell ⟨R, j * 2 + 1, none⟩ (.string y.tx)).heap[q]? = wr.heap[q]? := fun q hq => (keepB _ _ _ _ _ hq).trans (keepB _ _ _ _ _ hq)
  exact ⟨h.gt.keep (fun q hq => k q (fun e => S.ap q R hq rfl e)), h.gl.setP y, (k _ (by have := S.mlo; omega)).trans h.bm, (k _ (fun e => hn.1 e.symm)).trans h.bb, (k _ (fun e => hn.2.1 e.symm)).trans h.bz, (k _ (fun e => hn.2.2 e.symm)).trans h.bx, setB (setB h.be _ _ (by have := S.wlo; omega) _) _ _ (by have := S.wlo; omega) _⟩
end Go.Proofs.Ytnjeeeccfhpolaa
