/- What the program's reduce keeps while it goes. -/
import Derived.Test.YtnjeeeccfhpolaaPDl
namespace Go.Proofs.Ytnjeeeccfhpolaa
set_option maxRecDepth 100000
open Go Go.ChangeShapes Go.WideShapes Go.ChangeAt Go.RowKit
def ivl : Value → Int | .int _ q => q | _ => 0
/-- the number in a box -/
def boxN (v : Value) (w : World) : Int := match v with
  | .pointer (some a) => ivl ((w.cell? a).getD undef)
  | _ => 0
theorem boxN_at {w : World} {B : Nat} {m : Int} {t : TypeId} (h : w.heap[B]? = some (.cells #[.int .i64 m] t)) : boxN (.pointer (some ⟨B, 0, none⟩)) w = m := by
  unfold boxN
  simp only [box_cell h]
  rfl
def lessI (b : Nat) (x y : Int) : Int := lessG hasI unI b x y
/-- reducing masks: rows told and left, the bit's box -/
structure RJ (n : Nat) (p : List Int) (w : World) (lo BM b : Nat) (tv lv : Value) (T L : List Int) (BB : Nat) (wr : World) : Prop where
  bn : b ≤ n
  red : redG hasI unI b (T, L) = redI n p
  gt : GL KI lo tv T wr
  gl : GL KI lo lv L wr
  ap : Apart tv lv
  ot : ∀ x ∈ T, okI x
  ol : ∀ x ∈ L, okI x
  len : T.length + L.length = p.length
  be : Below w.heap.size w wr
  bm : wr.heap[BM]? = some (.cells #[.func (.func 54) #[] #[]] 71)
  bb : wr.heap[BB]? = some (.cells #[.int .i64 ((b : Int) - 1)] 3)
  nt : ∀ k, tv.ownBlock = some k → k ≠ BB
  nl : ∀ k, lv.ownBlock = some k → k ≠ BB
  wb : w.heap.size ≤ BB
/-- the next bit: a box of its own -/
theorem RJ.next {n : Nat} {p : List Int} {w : World} {lo BM b : Nat} {tv lv : Value} {T L : List Int} {BB : Nat} {wr : World} (h : RJ n p w lo BM b tv lv T L BB wr) {c : Nat} (hb : b = c + 1) (T' L' : List Int) (tv' lv' : Value) {wn : World}
    (gt : GL KI lo tv' T' wn) (gl : GL KI lo lv' L' wn) (ap : Apart tv' lv') (ot : ∀ x ∈ T', okI x) (ol : ∀ x ∈ L', okI x) (len : T'.length + L'.length = p.length) (hst : stepG hasI unI c (T, L) = (T', L'))
    (be : Below w.heap.size w wn := by first | exact RJ.be (by assumption) | assumption) (bm : wn.heap[BM]? = some (.cells #[.func (.func 54) #[] #[]] 71) := by first | exact RJ.bm (by assumption) | assumption) :
    RJ n p w lo BM c tv' lv' T' L' wn.heap.size (wn.alloc (.cells #[.int .i64 ((c : Int) - 1)] 3)) := by
  have g := boxB wn (.cells #[.int .i64 ((c : Int) - 1)] 3)
  refine ⟨by have := h.bn; omega, ?_, gt.below g, gl.below g, ap, ot, ol, len, be.trans (g.mono be.size), (g.block _ (kbox bm)).trans bm, heap_last _ _, fun k hk => by have := (gt.lt k hk).2; omega, fun k hk => by have := (gl.lt k hk).2; omega, be.size⟩
  rw [← h.red, hb]
  show _ = redG hasI unI c (stepG hasI unI c (T, L))
  rw [hst]
/-- while rows are gone over: both rows, the boxes, and the list of both -/
structure RK (w : World) (lo BM BB Z c : Nat) (tv lv : Value) (T L : List Int) (wr : World) : Prop where
  gt : GL KI lo tv T wr
  gl : GL KI lo lv L wr
  bm : wr.heap[BM]? = some (.cells #[.func (.func 54) #[] #[]] 71)
  bb : wr.heap[BB]? = some (.cells #[.int .i64 (c : Int)] 3)
  bz : wr.heap[Z]? = some (.cells #[tv, lv] 40)
  be : Below w.heap.size w wr
/-- what does not change meanwhile -/
structure RS (w : World) (lo BM BB Z : Nat) (tv lv : Value) : Prop where
  ap : Apart tv lv
  mlo : BM < lo
  wlo : w.heap.size ≤ lo
  nt : ∀ k, tv.ownBlock = some k → k ≠ BB ∧ k ≠ Z
  nl : ∀ k, lv.ownBlock = some k → k ≠ BB ∧ k ≠ Z
theorem RK.below {w : World} {lo BM BB Z c : Nat} {tv lv : Value} {T L : List Int} {wr wr' : World} (h : RK w lo BM BB Z c tv lv T L wr) (g : Below wr.heap.size wr wr') : RK w lo BM BB Z c tv lv T L wr' :=
  ⟨h.gt.below g, h.gl.below g, (g.block _ (kbox h.bm)).trans h.bm, (g.block _ (kbox h.bb)).trans h.bb, (g.block _ (kbox h.bz)).trans h.bz, h.be.trans (g.mono h.be.size)⟩
/-- one of both rows, and how all stands by what it is -/
structure CurR (lo : Nat) (BM BB c : Nat) (ca : Option Addr) (cc : Nat) (n : Nat) (st : List Int → World → Prop) : Prop where
  gl : ∀ l wr, st l wr → GL KI lo (.slice ca n cc) l wr
  bm : ∀ l wr, st l wr → wr.heap[BM]? = some (.cells #[.func (.func 54) #[] #[]] 71)
  bb : ∀ l wr, st l wr → wr.heap[BB]? = some (.cells #[.int .i64 (c : Int)] 3)
  below : ∀ l wr wr', st l wr → Below wr.heap.size wr wr' → st l wr'
  set : ∀ R l wr j y, ca = some ⟨R, 0, none⟩ → l.length = n → st l wr → st (l.set j y) (wr.setCell ⟨R, j, none⟩ (.int .i64 y))
theorem curT {w : World} {lo BM BB Z c cc n : Nat} {ca : Option Addr} {lv : Value} {L : List Int} (S : RS w lo BM BB Z (.slice ca n cc) lv) :
    CurR lo BM BB c ca cc n (fun l wr => RK w lo BM BB Z c (.slice ca n cc) lv l L wr) := by
  refine ⟨fun l wr h => h.gt, fun l wr h => h.bm, fun l wr h => h.bb, fun l wr wr' h g => h.below g, fun R l wr j y e hl h => ?_⟩
  subst hl
  subst e
  have hR := (h.gt.lt R rfl).1
  have hn := S.nt R rfl
  have k : ∀ q, q ≠ R → (wr.setCell ⟨R, j, none⟩ (.int .i64 y)).heap[q]? = wr.heap[q]? := fun q hq => keepB _ _ _ _ _ hq
  exact ⟨h.gt.setI y, h.gl.keep (fun q hq => k q (fun e => S.ap R q rfl hq e.symm)), (k _ (by have := S.mlo; omega)).trans h.bm, (k _ (fun e => hn.1 e.symm)).trans h.bb, (k _ (fun e => hn.2 e.symm)).trans h.bz, setB h.be _ _ (by have := S.wlo; omega) _⟩
theorem curL {w : World} {lo BM BB Z c cc n : Nat} {ca : Option Addr} {tv : Value} {T : List Int} (S : RS w lo BM BB Z tv (.slice ca n cc)) :
    CurR lo BM BB c ca cc n (fun l wr => RK w lo BM BB Z c tv (.slice ca n cc) T l wr) := by
  refine ⟨fun l wr h => h.gl, fun l wr h => h.bm, fun l wr h => h.bb, fun l wr wr' h g => h.below g, fun R l wr j y e hl h => ?_⟩
  subst hl
  subst e
  have hR := (h.gl.lt R rfl).1
  have hn := S.nl R rfl
  have k : ∀ q, q ≠ R → (wr.setCell ⟨R, j, none⟩ (.int .i64 y)).heap[q]? = wr.heap[q]? := fun q hq => keepB _ _ _ _ _ hq
  exact ⟨h.gt.keep (fun q hq => k q (fun e => S.ap q R hq rfl e)), h.gl.setI y, (k _ (by have := S.mlo; omega)).trans h.bm, (k _ (fun e => hn.1 e.symm)).trans h.bb, (k _ (fun e => hn.2 e.symm)).trans h.bz, setB h.be _ _ (by have := S.wlo; omega) _⟩
/-- both rows gone over, up to z of them -/
def selz {α : Type} (b : Bool) (f : α → α) (l : List α) : List α := cond b (l.map f) l
theorem mixed_same {α : Type} (f : α → α) (L : List α) (j : Nat) (h : j < L.length) (e : f L[j] = L[j]) : mixed f L (j + 1) = mixed f L j := by
  rw [← mixed_set f L j h, e]
  have h' : j < (mixed f L j).length := by rw [mixed_len]; exact h
  have h1 := mixed_at f L j h h'
  exact (congrArg _ h1.symm).trans (List.set_getElem_self h')
theorem okI.less {b : Nat} {x y : Int} (hx : okI x) (hy : okI y) : okI (lessI b x y) := by
  unfold lessI lessG
  cases hasI b y
  · exact hy
  · exact hy.un hx
theorem OwnI.cells {lo hi : Nat} {a : Option Addr} {l : List Int} {w : World} (h : OwnI lo hi a l w) (k : Nat) (hk : k < l.length) : ∃ R, lo ≤ R ∧ R < w.heap.size ∧ a = some ⟨R, 0, none⟩ ∧ w.cell? ⟨R, k, none⟩ = some (.int .i64 l[k]) ∧ w.frozen? ⟨R, k, none⟩ = false := by
  rcases h with rfl | ⟨R, h1, h3, rfl, hr⟩
  · simp at hk
  · exact ⟨R, h1, hr.lt, rfl, hr.cell k hk, hr.free _ (by omega)⟩
end Go.Proofs.Ytnjeeeccfhpolaa
