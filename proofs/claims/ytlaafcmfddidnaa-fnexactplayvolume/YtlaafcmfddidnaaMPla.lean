/- Slices of truth values in memory. An op keeps a volume good; ops played one by one; plain lists. Rows of ops in memory. Slices of truth values: held against each other, made over. Truth values of one's own, in a block that holds nothing else; one appended. Walk of the program's foldSure: with what the log's row has room for. Walk of the program's DoVolume. Walk of the program's DoVolume: with what the log's row has room for. Walk of the program's PlayVolume. -/
import Derived.Test.YtlaafcmfddidnaaGRow
import Derived.Test.YtlaafcmfddidnaaOut
import Derived.WalkKit
import Derived.ProofKit
import Derived.Test.YtlaafcmfddidnaaVDo
import Derived.Test.YtlaafcmfddidnaaIFold
import Derived.Test.YtlaafcmfddidnaaVMark
import Derived.Test.YtlaafcmfddidnaaVOpen
import Derived.Test.YtlaafcmfddidnaaVApp
import Derived.Maps.AppendAt
namespace Go.Proofs.Ytlaafcmfddidnaa
set_option maxRecDepth 100000
open Go Go.ChangeShapes Go.WideShapes Go.ChangeAt Go.RowKit
def bcell (n : Bool) : List Value := [.bool n]
/-- a slice of truth values in memory below block B -/
def Bs (B : Nat) (a : Option Addr) (l : List Bool) (w : World) : Prop := GSl B 1 a (l.map bcell) w
theorem Bs.cell {B : Nat} {a : Option Addr} {l : List Bool} {w : World} (h : Bs B a l w) (h0 : 0 < l.length) : ∃ b off, a = some ⟨b, off, none⟩ ∧ b < B ∧ ∀ i (hi : i < l.length), w.cell? ⟨b, off + i, none⟩ = some (.bool l[i]) := by
  obtain ⟨b, off, e, hb, hc⟩ := GSl.cell h (by simpa using h0)
  refine ⟨b, off, e, hb, fun i hi => ?_⟩
  have c0 := hc i (by simpa using hi) 0 (by decide)
  rw [List.getElem_map, Nat.mul_one, Nat.add_zero] at c0
  exact c0
theorem Bs.below {B : Nat} {a : Option Addr} {l : List Bool} {w w' : World} (h : Bs B a l w) (g : Below B w w') : Bs B a l w' := GSl.below h g
theorem Bs.mono {B B' : Nat} {a : Option Addr} {l : List Bool} {w : World} (h : Bs B a l w) (hB : B ≤ B') : Bs B' a l w := GSl.mono h hB
/-- a row of truth values that a call itself has made -/
def BRow (R : Nat) (l : List Bool) (w : World) : Prop := GRow R 1 (l.map bcell) w
theorem BRow.lt {R : Nat} {l : List Bool} {w : World} (h : BRow R l w) : R < w.heap.size := GRow.lt h
theorem BRow.cell {R : Nat} {l : List Bool} {w : World} (h : BRow R l w) (i : Nat) (hi : i < l.length) : w.cell? ⟨R, i, none⟩ = some (.bool l[i]) := by
  have c0 := GRow.cell h i (by simpa using hi) 0 (by decide)
  rw [List.getElem_map, Nat.mul_one, Nat.add_zero] at c0
  exact c0
theorem BRow.free {R : Nat} {l : List Bool} {w : World} (h : BRow R l w) (j : Nat) (hj : j < l.length) : w.frozen? ⟨R, j, none⟩ = false := GRow.free h j (by simpa using hj)
theorem BRow.below {R : Nat} {l : List Bool} {w w' : World} (h : BRow R l w) (hb : Below w.heap.size w w') : BRow R l w' := GRow.below h hb
theorem BRow.same {R : Nat} {l : List Bool} {w w' : World} (h : BRow R l w) (hs : w.heap.size ≤ w'.heap.size) (hb : w'.heap[R]? = w.heap[R]?) : BRow R l w' := GRow.same h hs hb
theorem BRow.sl {R B : Nat} {l : List Bool} {w : World} (h : BRow R l w) (hB : R < B) : Bs B (some ⟨R, 0, none⟩) l w := GRow.sl h hB
theorem BRow.set {R : Nat} {l : List Bool} {w : World} (h : BRow R l w) (k : Nat) (hk : k < l.length) (n : Bool) : BRow R (l.set k n) (w.setCell ⟨R, k, none⟩ (.bool n)) := by
  have hk' : k < (l.map bcell).length := by simpa using hk
  have := GRow.set h k 0 hk' (by decide) (.bool n)
  rw [Nat.mul_one, Nat.add_zero] at this
  unfold BRow
  have e : (l.set k n).map bcell = (l.map bcell).set k ((l.map bcell)[k].set 0 (.bool n)) := by
    rw [List.map_set, List.getElem_map]; rfl
  rw [e]
  exact this
/-- truth values that are owned in blocks lo .. hi - 1 (or none) -/
def OwnB (lo hi : Nat) (a : Option Addr) (l : List Bool) (w : World) : Prop := l = [] ∨ ∃ R, lo ≤ R ∧ R < hi ∧ a = some ⟨R, 0, none⟩ ∧ BRow R l w
theorem OwnB.out {lo hi l2 h2 : Nat} {a : Option Addr} {l : List Bool} {w w' : World} (h : OwnB lo hi a l w) (g : Out l2 h2 w w') (hd : hi ≤ l2 ∨ h2 ≤ lo) : OwnB lo hi a l w' := by
  rcases h with h | ⟨R, h1, h3, e, hr⟩
  · exact Or.inl h
  · exact Or.inr ⟨R, h1, h3, e, hr.same g.size (g.block R hr.lt (by omega))⟩
theorem OwnB.below {lo hi : Nat} {a : Option Addr} {l : List Bool} {w w' : World} (h : OwnB lo hi a l w) (g : Below w.heap.size w w') : OwnB lo hi a l w' := by
  rcases h with h | ⟨R, h1, h3, e, hr⟩
  · exact Or.inl h
  · exact Or.inr ⟨R, h1, h3, e, hr.below g⟩
theorem OwnB.bs {lo hi : Nat} {a : Option Addr} {l : List Bool} {w : World} (h : OwnB lo hi a l w) : Bs w.heap.size a l w := by
  rcases h with rfl | ⟨R, h1, h3, rfl, hr⟩
  · exact ⟨fun h0 => absurd h0 (by simp)⟩
  · exact hr.sl hr.lt
end Go.Proofs.Ytlaafcmfddidnaa
namespace Go.Proofs.Ytlaafcmfddidnaa
set_option maxRecDepth 100000
open Go Go.ChangeShapes Go.WideShapes Go.ChangeAt Go.RowKit G00541
theorem doK_twoB (ts : List ByteArray) (k : Int) (p : Nat) (D : ByteArray) (ht : ∀ t ∈ ts, t.size = 2) : ∀ j, (k = 1 → 2 * j ≤ D.size) → ∀ t ∈ doK ts k p D j, t.size = 2
  | 0, _, t, h => ht t h
  | j + 1, hD, t, h => by
    rcases List.mem_or_eq_of_mem_set h with h1 | h1
    · exact doK_twoB ts k p D ht j (fun e => by have := hD e; omega) t h1
    · subst h1
      unfold pieceT
      split
      · rename_i e
        have h2 := hD e
        have := ByteArray.size_extract (a := D) (b := 2 * j) (e := 2 * j + 2)
        omega
      · rfl
theorem goodBs_doL (L : List Rc) : ∀ (B : List ByteArray), goodBs B = true → goodL L = true → goodBs (doL B L) = true := by
  induction L with
  | nil => intro B h _; exact h
  | cons r l ih =>
    intro B h hg
    unfold goodL at hg
    rw [List.all_cons, Bool.and_eq_true] at hg
    have h16 := goodBs_len h
    have hr := good_cases hg.1
    have h2 : goodBs (doR B r) = true := by
      refine goodBs_all (by rw [doR_len]; exact h16) (fun k hk => ?_)
      refine doK_twoB B r.kind r.place.toNat (str r.data) (fun t ht => ?_) r.long.toNat (fun e => ?_) _ (List.getElem_mem hk)
      · obtain ⟨i, hi, rfl⟩ := List.getElem_of_mem ht
        exact goodBs_two h i hi
      · rw [str_size]
        have := hr.2.2.2.2.2.2.2.1 e
        have := hr.2.2.2.1
        omega
    exact ih (doR B r) h2 hg.2
theorem MkOk.take {F : Int} {L : List Rc} (h : MkOk F L) (n : Nat) : MkOk F (L.take n) := fun k hk h3 => by
  have hk' : k < n ∧ k < L.length := by rw [List.length_take] at hk; omega
  rw [List.getElem_take] at h3 ⊢
  rw [h k hk'.2 h3, List.take_take, Nat.min_eq_left (by omega)]
theorem markF_app (F : Int) (L M : List Rc) : markF F (L ++ M) = markF (markF F L) M := by unfold markF; rw [List.foldl_append]
theorem MkOk.drop {F : Int} {L : List Rc} (h : MkOk F L) (n : Nat) : MkOk (markF F (L.take n)) (L.drop n) := fun k hk h3 => by
  have hk' : n + k < L.length := by rw [List.length_drop] at hk; omega
  rw [List.getElem_drop] at h3 ⊢
  rw [h (n + k) hk' h3, ← markF_app, ← List.take_add]
theorem MkOk.snoc {F : Int} {L : List Rc} (h : MkOk F L) (r : Rc) (hr : r.kind = 3 → r.place = markF F L + 1) : MkOk F (L ++ [r]) := fun k hk h3 => by
  by_cases e : k < L.length
  · rw [List.getElem_append_left e] at h3 ⊢
    rw [h k e h3, List.take_append_of_le_length (by omega)]
  · have e2 : k = L.length := by rw [List.length_append] at hk; simp at hk; omega
    subst e2
    rw [List.getElem_append_right (Nat.le_refl _)] at h3 ⊢
    simp only [Nat.sub_self, List.getElem_cons_zero] at h3 ⊢
    rw [hr h3, List.take_append_of_le_length (Nat.le_refl _), List.take_length]
theorem goodL_app {L : List Rc} (h : goodL L = true) (r : Rc) (hr : goodR r = true) : goodL (L ++ [r]) = true := by
  unfold goodL at h ⊢
  rw [List.all_append, h]
  simp [hr]
theorem goodL_dropK {L : List Rc} (h : goodL L = true) (n : Nat) : goodL (L.drop n) = true := by
  unfold goodL at h ⊢
  rw [List.all_eq_true] at h ⊢
  exact fun x hx => h x (List.mem_of_mem_drop hx)
theorem goodV_do {B : List ByteArray} {F : Int} {L : List Rc} {s : Int} {o : Op} {v : Vol} (hg : GoodV B F L s) (h : doV B F L s o = some v) : GoodV v.1 v.2.1 v.2.2.1 v.2.2.2 := by
  have hlen := hg.len
  have hs0 := hg.s0
  have hs1 := hg.s1
  unfold doV at h
  split at h
  · unfold recDo at h
    split at h
    · rename_i hc
      injection h with h; subst h
      have hr : goodR (opR o) = true := by
        have := hc.1
        unfold recOk at this
        rw [Bool.and_eq_true] at this
        exact this.2
      exact ⟨hg.bs, by simp only [List.length_append]; simp; omega, goodL_app hg.recs _ hr, hg.mok.snoc _ (fun e => hc.2.2 e), hs0, by simp only [List.length_append]; simp; omega, hg.f0, hg.f1⟩
    · cases h
  · split at h
    · split at h
      · injection h with h; subst h
        exact ⟨hg.bs, hg.len, hg.recs, hg.mok, by simp only; omega, by simp only; omega, hg.f0, hg.f1⟩
      · split at h
        · unfold crashDo at h
          split at h
          · rename_i hc
            injection h with h; subst h
            refine ⟨hg.bs, ?_, goodL_take hg.recs _, hg.mok.take _, by simp only; omega, ?_, hg.f0, hg.f1⟩
            · simp only [List.length_take]; omega
            · simp only [List.length_take]; omega
          · cases h
        · split at h
          · unfold foldDo at h
            injection h with h; subst h
            have hm := markF_in F L hg.f0 hg.f1 s.toNat (by omega) (fun j hj _ => good_at hg.recs j hj)
            refine ⟨goodBs_doL _ _ hg.bs (goodL_take hg.recs _), ?_, goodL_dropK hg.recs _, hg.mok.drop _, by simp only; omega, ?_, hm.1, hm.2⟩
            · simp only [List.length_drop]; omega
            · simp only [List.length_drop]; omega
          · cases h
    · cases h
/-- a volume behind ops -/
def nextV (v : Vol) (o : Op) : Vol := (doV v.1 v.2.1 v.2.2.1 v.2.2.2 o).getD v
def didV (v : Vol) (o : Op) : Bool := (doV v.1 v.2.1 v.2.2.1 v.2.2.2 o).isSome
def newV : Vol := (blankT, 0, [], 0)
def runV : List Op → Vol × List Bool → Vol × List Bool
  | [], s => s
  | o :: l, s => runV l (nextV s.1 o, s.2 ++ [didV s.1 o])
def GoodVol (v : Vol) : Prop := GoodV v.1 v.2.1 v.2.2.1 v.2.2.2
theorem GoodVol.new : GoodVol newV := ⟨by decide +kernel, by decide, rfl, fun k h => absurd h (Nat.not_lt_zero _), by decide, by decide, by decide, by decide⟩
theorem GoodVol.next {v : Vol} (h : GoodVol v) (o : Op) : GoodVol (nextV v o) := by
  unfold nextV
  cases e : doV v.1 v.2.1 v.2.2.1 v.2.2.2 o with
  | none => exact h
  | some u => exact goodV_do h e
theorem runV_snoc (l : List Op) (o : Op) (s : Vol × List Bool) : runV (l ++ [o]) s = (nextV (runV l s).1 o, (runV l s).2 ++ [didV (runV l s).1 o]) := by
  induction l generalizing s with
  | nil => rfl
  | cons x l ih => exact ih _
theorem runV_good (l : List Op) (s : Vol × List Bool) (h : GoodVol s.1) : GoodVol (runV l s).1 := by
  induction l generalizing s with
  | nil => exact h
  | cons x l ih => exact ih _ (h.next x)
theorem runV_len (l : List Op) (s : Vol × List Bool) : (runV l s).2.length = s.2.length + l.length := by
  induction l generalizing s with
  | nil => rfl
  | cons x l ih =>
    have := ih (nextV s.1 x, s.2 ++ [didV s.1 x])
    show (runV l (nextV s.1 x, s.2 ++ [didV s.1 x])).2.length = _
    rw [this, List.length_append, List.length_cons]
    simp
    omega
/-- what playing tells -/
def plOk (l : List Op) : Bool := decide (l.length ≤ 60)
def plV (l : List Op) : Vol := if l.length ≤ 60 then (runV l (newV, [])).1 else ([], 0, [], 0)
def plD (l : List Op) : List Bool := if l.length ≤ 60 then (runV l (newV, [])).2 else []
/-- the answer of PlayVolume -/
def POut (v : Vol) (d : List Bool) (ok : Bool) (w : World) (e : Ending) (w' : World) : Prop := ∃ aB kB aL kL a k, e = .returned (.tuple #[.agg #[.slice aB v.1.length kB, .int .i64 v.2.1, .slice aL v.2.2.1.length kL, .int .i64 v.2.2.2], .slice a d.length k, .bool ok]) ∧
  ∃ l1 h1 l2 h2, w.heap.size ≤ l1 ∧ h1 ≤ w'.heap.size ∧ w.heap.size ≤ l2 ∧ h2 ≤ w'.heap.size ∧ l1 ≤ h1 ∧ l2 ≤ h2 ∧ (h1 ≤ l2 ∨ h2 ≤ l1) ∧ OwnV l1 h1 aB v.1 aL v.2.2.1 w' ∧ OwnB l2 h2 a d w' ∧ Below w.heap.size w w'
end Go.Proofs.Ytlaafcmfddidnaa
namespace Go.Proofs.Ytlaafcmfddidnaa
set_option maxRecDepth 100000
open Go Go.ChangeShapes Go.WideShapes Go.ChangeAt Go.RowKit G00541
def zeroOp : Op := ⟨0, 0, 0, ⟨#[]⟩, 0⟩
/-- a slice of ops in memory below block B -/
def Os (B : Nat) (a : Option Addr) (l : List Op) (w : World) : Prop := GSl B 5 a (l.map ocells) w
theorem Os.cell {B : Nat} {a : Option Addr} {l : List Op} {w : World} (h : Os B a l w) (h0 : 0 < l.length) : ∃ b off, a = some ⟨b, off, none⟩ ∧ b < B ∧ ∀ i (hi : i < l.length), w.cell? ⟨b, off + i * 5, none⟩ = some (.int .i64 l[i].kind) ∧ w.cell? ⟨b, off + i * 5 + 1, none⟩ = some (.int .i64 l[i].place) ∧ w.cell? ⟨b, off + i * 5 + 2, none⟩ = some (.int .i64 l[i].long) ∧ w.cell? ⟨b, off + i * 5 + 3, none⟩ = some (.string l[i].data) ∧ w.cell? ⟨b, off + i * 5 + 4, none⟩ = some (.int .i64 l[i].keep) := by
  obtain ⟨b, off, e, hb, hc⟩ := GSl.cell h (by simpa using h0)
  refine ⟨b, off, e, hb, fun i hi => ?_⟩
  have hi' : i < (l.map ocells).length := by simpa using hi
  have hr : (l.map ocells)[i] = ocells l[i] := List.getElem_map _
  have c0 := hc i hi' 0 (by decide)
  have c1 := hc i hi' 1 (by decide)
  have c2 := hc i hi' 2 (by decide)
  have c3 := hc i hi' 3 (by decide)
  have c4 := hc i hi' 4 (by decide)
  rw [hr] at c0 c1 c2 c3 c4
  exact ⟨c0, c1, c2, c3, c4⟩
theorem Os.below {B : Nat} {a : Option Addr} {l : List Op} {w w' : World} (h : Os B a l w) (g : Below B w w') : Os B a l w' := GSl.below h g
theorem Os.mono {B B' : Nat} {a : Option Addr} {l : List Op} {w : World} (h : Os B a l w) (hB : B ≤ B') : Os B' a l w := GSl.mono h hB
/-- a row of ops that a call itself has made -/
def ORow (R : Nat) (l : List Op) (w : World) : Prop := GRow R 5 (l.map ocells) w
theorem ORow.lt {R : Nat} {l : List Op} {w : World} (h : ORow R l w) : R < w.heap.size := GRow.lt h
theorem ORow.cell {R : Nat} {l : List Op} {w : World} (h : ORow R l w) (i : Nat) (hi : i < l.length) : w.cell? ⟨R, i * 5, none⟩ = some (.int .i64 l[i].kind) ∧ w.cell? ⟨R, i * 5 + 1, none⟩ = some (.int .i64 l[i].place) ∧ w.cell? ⟨R, i * 5 + 2, none⟩ = some (.int .i64 l[i].long) ∧ w.cell? ⟨R, i * 5 + 3, none⟩ = some (.string l[i].data) ∧ w.cell? ⟨R, i * 5 + 4, none⟩ = some (.int .i64 l[i].keep) := by
  have hi' : i < (l.map ocells).length := by simpa using hi
  have hr : (l.map ocells)[i] = ocells l[i] := List.getElem_map _
  have c0 := GRow.cell h i hi' 0 (by decide)
  have c1 := GRow.cell h i hi' 1 (by decide)
  have c2 := GRow.cell h i hi' 2 (by decide)
  have c3 := GRow.cell h i hi' 3 (by decide)
  have c4 := GRow.cell h i hi' 4 (by decide)
  rw [hr] at c0 c1 c2 c3 c4
  exact ⟨c0, c1, c2, c3, c4⟩
theorem ORow.free {R : Nat} {l : List Op} {w : World} (h : ORow R l w) (j : Nat) (hj : j < l.length * 5) : w.frozen? ⟨R, j, none⟩ = false := GRow.free h j (by simpa using hj)
theorem ORow.below {R : Nat} {l : List Op} {w w' : World} (h : ORow R l w) (hb : Below w.heap.size w w') : ORow R l w' := GRow.below h hb
theorem ORow.same {R : Nat} {l : List Op} {w w' : World} (h : ORow R l w) (hs : w.heap.size ≤ w'.heap.size) (hb : w'.heap[R]? = w.heap[R]?) : ORow R l w' := GRow.same h hs hb
theorem ORow.sl {R B : Nat} {l : List Op} {w : World} (h : ORow R l w) (hB : R < B) : Os B (some ⟨R, 0, none⟩) l w := GRow.sl h hB
theorem ORow.setAt {R : Nat} {l : List Op} {w : World} (h : ORow R l w) (k j : Nat) (hk : k < l.length) (hj : j < 5) (v : Value) (z : Op) (hz : (ocells l[k]).set j v = ocells z) :
    ORow R (l.set k z) (w.setCell ⟨R, k * 5 + j, none⟩ v) := by
  have hk' : k < (l.map ocells).length := by simpa using hk
  have := GRow.set h k j hk' hj v
  have hr : (l.map ocells)[k] = ocells l[k] := List.getElem_map _
  rw [hr, hz, ← List.map_set] at this
  exact this
theorem ORow.set {R : Nat} {l : List Op} {w : World} (h : ORow R l w) (k : Nat) (hk : k < l.length) (z : Op) :
    ORow R (l.set k z) (((((w.setCell ⟨R, k * 5, none⟩ (.int .i64 z.kind)).setCell ⟨R, k * 5 + 1, none⟩ (.int .i64 z.place)).setCell ⟨R, k * 5 + 2, none⟩ (.int .i64 z.long)).setCell ⟨R, k * 5 + 3, none⟩ (.string z.data)).setCell ⟨R, k * 5 + 4, none⟩ (.int .i64 z.keep)) := by
  have h0 := h.setAt k 0 hk (by decide) (.int .i64 z.kind) ⟨z.kind, l[k].place, l[k].long, l[k].data, l[k].keep⟩ rfl
  have h1 := h0.setAt k 1 (by simpa using hk) (by decide) (.int .i64 z.place) ⟨z.kind, z.place, l[k].long, l[k].data, l[k].keep⟩ (by rw [List.getElem_set_self]; rfl)
  have h2 := h1.setAt k 2 (by simpa using hk) (by decide) (.int .i64 z.long) ⟨z.kind, z.place, z.long, l[k].data, l[k].keep⟩ (by rw [List.getElem_set_self]; rfl)
  have h3 := h2.setAt k 3 (by simpa using hk) (by decide) (.string z.data) ⟨z.kind, z.place, z.long, z.data, l[k].keep⟩ (by rw [List.getElem_set_self]; rfl)
  have h4 := h3.setAt k 4 (by simpa using hk) (by decide) (.int .i64 z.keep) z (by rw [List.getElem_set_self]; rfl)
  simpa using h4
theorem ORow.setMark {R : Nat} {l : List Op} {w w1 : World} (h : ORow R l w) (k : Nat) (hk : k < l.length) (z : Op) (hb : Below (((w.setCell ⟨R, k * 5, none⟩ (.int .i64 z.kind)).setCell ⟨R, k * 5 + 1, none⟩ (.int .i64 z.place)).setCell ⟨R, k * 5 + 2, none⟩ (.int .i64 z.long)).heap.size (((w.setCell ⟨R, k * 5, none⟩ (.int .i64 z.kind)).setCell ⟨R, k * 5 + 1, none⟩ (.int .i64 z.place)).setCell ⟨R, k * 5 + 2, none⟩ (.int .i64 z.long)) w1) :
    ORow R (l.set k z) ((w1.setCell ⟨R, k * 5 + 3, none⟩ (.string z.data)).setCell ⟨R, k * 5 + 4, none⟩ (.int .i64 z.keep)) := by
  have h0 := h.setAt k 0 hk (by decide) (.int .i64 z.kind) ⟨z.kind, l[k].place, l[k].long, l[k].data, l[k].keep⟩ rfl
  have h1 := h0.setAt k 1 (by simpa using hk) (by decide) (.int .i64 z.place) ⟨z.kind, z.place, l[k].long, l[k].data, l[k].keep⟩ (by rw [List.getElem_set_self]; rfl)
  have h2 := h1.setAt k 2 (by simpa using hk) (by decide) (.int .i64 z.long) ⟨z.kind, z.place, z.long, l[k].data, l[k].keep⟩ (by rw [List.getElem_set_self]; rfl)
  have h3 := (h2.below hb).setAt k 3 (by simpa using hk) (by decide) (.string z.data) ⟨z.kind, z.place, z.long, z.data, l[k].keep⟩ (by rw [List.getElem_set_self]; rfl)
  have h4 := h3.setAt k 4 (by simpa using hk) (by decide) (.int .i64 z.keep) z (by rw [List.getElem_set_self]; rfl)
  simpa using h4
theorem ORow.made (w : World) (n : Nat) : ORow w.heap.size (List.replicate n zeroOp) (w.alloc (.cells (madeCells (Value.agg #[.int .i64 0, .int .i64 0, .int .i64 0, .string ⟨#[]⟩, .int .i64 0]).cells (n * 5)) 44)) := by
  have := GRow.made w 44 n #[.int .i64 0, .int .i64 0, .int .i64 0, .string ⟨#[]⟩, .int .i64 0]
  unfold ORow
  rw [List.map_replicate]
  exact this
/-- ops that are owned in blocks lo .. hi - 1 (or none) -/
def OwnO (lo hi : Nat) (a : Option Addr) (l : List Op) (w : World) : Prop := l = [] ∨ ∃ R, lo ≤ R ∧ R < hi ∧ a = some ⟨R, 0, none⟩ ∧ ORow R l w
theorem OwnO.below {lo hi : Nat} {a : Option Addr} {l : List Op} {w w' : World} (h : OwnO lo hi a l w) (g : Below w.heap.size w w') : OwnO lo hi a l w' := by
  rcases h with h | ⟨R, h1, h3, e, hr⟩
  · exact Or.inl h
  · exact Or.inr ⟨R, h1, h3, e, hr.below g⟩
theorem OwnO.out {lo hi l2 h2 : Nat} {a : Option Addr} {l : List Op} {w w' : World} (h : OwnO lo hi a l w) (g : Out l2 h2 w w') (hd : hi ≤ l2 ∨ h2 ≤ lo) : OwnO lo hi a l w' := by
  rcases h with h | ⟨R, h1, h3, e, hr⟩
  · exact Or.inl h
  · exact Or.inr ⟨R, h1, h3, e, hr.same g.size (g.block R hr.lt (by omega))⟩
theorem OwnO.os {lo hi : Nat} {a : Option Addr} {l : List Op} {w : World} (h : OwnO lo hi a l w) : Os w.heap.size a l w := by
  rcases h with rfl | ⟨R, h1, h3, rfl, hr⟩
  · exact ⟨fun h0 => absurd h0 (by simp)⟩
  · exact hr.sl hr.lt
set_option maxHeartbeats 400000 in
theorem eqVolOp_same (z0 : Int) (z1 : Int) (z2 : Int) (D : ByteArray) (z4 : Int) (w : World) :
    Calls Try.prog 25 #[.agg #[.int .i64 z0, .int .i64 z1, .int .i64 z2, .string D, .int .i64 z4], .agg #[.int .i64 z0, .int .i64 z1, .int .i64 z2, .string D, .int .i64 z4]] w fun e w' => e = .returned (.bool true) ∧ Below w.heap.size w w' := by
  go_enter Try.func25, Try.ntmps25
  go_wp2
  go_ret
  exact ⟨rfl, ((Below.refl _ _).alloc (Nat.le_refl _) _).alloc (by simp) _⟩
set_option maxHeartbeats 400000 in
theorem szVolOp_any (z0 : Int) (z1 : Int) (z2 : Int) (D : ByteArray) (z4 : Int) (left : Int) (w : World) (h0 : 0 ≤ left) (h1 : left ≤ 1048576) (hz : D.size ≤ 9223372036854775807) :
    Calls Try.prog 16 #[.agg #[.int .i64 z0, .int .i64 z1, .int .i64 z2, .string D, .int .i64 z4], .int .i64 left] w fun e w' => (∃ r : Int, e = .returned (.int .i64 r) ∧ r ≤ 1048576 ∧ (0 ≤ r → D.size ≤ 1048576)) ∧ Below w.heap.size w w' := by
  by_cases g : (D.size : Int) ≤ left
  · have hd : decide (left - (D.size : Int) < 0) = false := by simp; omega
    go_enter Try.func16, Try.ntmps16
    go_wp2
    go_ret
    exact ⟨⟨_, rfl, by omega, fun _ => by omega⟩, (Below.refl _ _).alloc (Nat.le_refl _) _⟩
  · have hd : decide (left - (D.size : Int) < 0) = true := by simp; omega
    go_enter Try.func16, Try.ntmps16
    go_wp2
    go_ret
    exact ⟨⟨-1, rfl, by omega, fun h => by omega⟩, (Below.refl _ _).alloc (Nat.le_refl _) _⟩
set_option maxHeartbeats 400000 in
theorem toVolOp_any (z0 : Int) (z1 : Int) (z2 : Int) (D : ByteArray) (z4 : Int) (w : World) :
    Calls Try.prog 20 #[.agg #[.int .i64 z0, .int .i64 z1, .int .i64 z2, .string D, .int .i64 z4]] w fun e w' => e = .returned (.agg #[.int .i64 z0, .int .i64 z1, .int .i64 z2, .string D, .int .i64 z4]) ∧ Below w.heap.size w w' := by
  go_enter Try.func20, Try.ntmps20
  go_wp2
  refine bodyPost_ret (v := .agg #[.int .i64 z0, .int .i64 z1, .int .i64 z2, .string D, .int .i64 z4]) (by simp [results, Try.results20, go_sem]) rfl ⟨rfl, ?_⟩
  exact (((Below.refl _ _).alloc (Nat.le_refl _) _).alloc (by simp) _).alloc (by simp; omega) _
theorem infoOp : (Try.prog.info? 44).map (fun i => (i.zero, i.size, i.bytes)) = some (some (.agg #[.int .i64 0, .int .i64 0, .int .i64 0, .string ⟨#[]⟩, .int .i64 0]), 5, 48) := by kernel_rfl
theorem make_ops (n : Nat) (hn : n ≤ 1048576) (W : World) : (Instr.makeSlice 31 (.int .i64 (n : Int)) (.int .i64 (n : Int))).run Try.prog W =
    .ok (.slice (some ⟨W.heap.size, 0, none⟩) n n) (W.alloc (.cells (madeCells (Value.agg #[.int .i64 0, .int .i64 0, .int .i64 0, .string ⟨#[]⟩, .int .i64 0]).cells (n * 5)) 44)) := by
  obtain ⟨i0, hi, hz0, hz1, hz2⟩ := info_parts infoOp
  have h := run_make (P := Try.prog) W 31 44 i0 _ Try.underlying31 hi hz0 .i64 .i64 (n : Int) (n : Int) (by omega) (by omega) (by rw [hz2]; omega) (by omega)
  rw [hz1] at h
  simpa using h
set_option maxHeartbeats 1000000 in
theorem toVolOpS_any (a : Option Addr) (cap : Nat) (l : List Op) (w : World) (hn : l.length ≤ 1048576) (hZ : Os w.heap.size a l w) :
    Calls Try.prog 6 #[.slice a l.length cap] w fun e w' => e = .returned (.slice (some ⟨w.heap.size, 0, none⟩) l.length l.length) ∧ ORow w.heap.size l w' ∧ Below w.heap.size w w' := by
  have HZ : Hid (Os w.heap.size a l w) := hZ
  clear hZ
  have hmk := make_ops l.length hn
  have hr0 := ORow.made w l.length
  generalize madeCells (Value.agg #[.int .i64 0, .int .i64 0, .int .i64 0, .string ⟨#[]⟩, .int .i64 0]).cells (l.length * 5) = M at *
  have HR : Hid (ORow w.heap.size (List.replicate l.length zeroOp) (w.alloc (.cells M 44))) := hr0
  clear hr0
  go_enter Try.func6, Try.ntmps6
  go_wp2
  go_loopw [4] (fun i wr => ∃ (k : Nat) (ys : List Op), k ≤ l.length ∧ i = .int .i64 k ∧ ys.length = l.length ∧ ys.take k = l.take k ∧ ORow w.heap.size ys wr ∧ Below w.heap.size w wr) (fun i _ => l.length - (intOf i).toNat)
  case atStart => exact ⟨0, List.replicate l.length zeroOp, Nat.zero_le _, rfl, by simp, rfl, HR.out, (Below.refl _ _).alloc (Nat.le_refl _) _⟩
  case round =>
    obtain ⟨k, ys, hk, rfl, hy, htk, hrow, hbel⟩ := hrel
    have HROW : Hid (ORow w.heap.size ys wr) := hrow
    have HBEL : Hid (Below w.heap.size w wr) := hbel
    have HTK : Hid (ys.take k = l.take k) := htk
    by_cases hlt : k < l.length
    · obtain ⟨b, off, rfl, hb, hcells⟩ := HZ.out.cell (by omega)
      obtain ⟨c0, c1, c2, c3, c4⟩ := hcells k hlt
      have hb' : ∀ o, wr.cell? ⟨b, o, none⟩ = w.cell? ⟨b, o, none⟩ := fun o => hbel.cell (p := ⟨b, o, none⟩) hb
      rw [← hb'] at c0 c1 c2 c3 c4
      clear hcells hb'
      have HC : Hid (∀ v, Calls Try.prog 20 #[.agg #[.int .i64 l[k].kind, .int .i64 l[k].place, .int .i64 l[k].long, .string l[k].data, .int .i64 l[k].keep]] v fun e w' => e = .returned (.agg #[.int .i64 l[k].kind, .int .i64 l[k].place, .int .i64 l[k].long, .string l[k].data, .int .i64 l[k].keep]) ∧ Below v.heap.size v w') := fun v => toVolOp_any _ _ _ _ _ v
      obtain ⟨y0, y1, y2, y3, y4⟩ := hrow.cell k (by omega)
      have f0 := hrow.free (k * 5) (by omega)
      have f1 := hrow.free (k * 5 + 1) (by omega)
      have f2 := hrow.free (k * 5 + 2) (by omega)
      have f3 := hrow.free (k * 5 + 3) (by omega)
      have f4 := hrow.free (k * 5 + 4) (by omega)
      have hszr := hbel.size
      have hltr := hrow.lt
      clear hrow hbel htk
      go_wp2_with fail
      refine (HC.out _).mono ?_
      rintro e w1 ⟨rfl, b1⟩
      have hc1 : ∀ o, w1.cell? ⟨w.heap.size, o, none⟩ = wr.cell? ⟨w.heap.size, o, none⟩ := fun o => b1.cell (p := ⟨w.heap.size, o, none⟩) hltr
      have hf1 : ∀ o, w1.frozen? ⟨w.heap.size, o, none⟩ = wr.frozen? ⟨w.heap.size, o, none⟩ := fun o => b1.frozen (p := ⟨w.heap.size, o, none⟩) hltr
      rw [← hc1] at y0 y1 y2 y3 y4
      rw [← hf1] at f0 f1 f2 f3 f4
      clear hc1 hf1
      have HB1 : Hid (Below wr.heap.size wr w1) := b1
      clear b1
      go_wp2
      go_roundw
      case rel =>
        refine ⟨k + 1, ys.set k l[k], by omega, by go_num, by simpa using hy, ?_, (HROW.out.below HB1.out).set k (by omega) l[k], ?_⟩
        · have hky : k < ys.length := by omega
          rw [take_snoc _ k (by simpa using hky), take_snoc l k hlt, List.take_set_of_le (Nat.le_refl _), HTK.out, List.getElem_set_self]
        · exact (((((HBEL.out.trans (HB1.out.mono hszr)).setCell (Nat.le_refl _) _).setCell (Nat.le_refl _) _).setCell (Nat.le_refl _) _).setCell (Nat.le_refl _) _).setCell (Nat.le_refl _) _
      case measure => simp [intOf]; omega
    · obtain rfl : k = l.length := by omega
      rw [List.take_length, List.take_of_length_le (by omega)] at htk
      subst htk
      clear hrow hbel
      go_wp2
      go_ret
      exact ⟨rfl, HROW.out, HBEL.out⟩
set_option maxHeartbeats 2000000 in
theorem eqVolOpS_same (a1 a2 : Option Addr) (c1 c2 : Nat) (l : List Op) (w : World) (hn : l.length ≤ 1048576) (h1 : Os w.heap.size a1 l w) (h2 : Os w.heap.size a2 l w) :
    Calls Try.prog 10 #[.slice a1 l.length c1, .slice a2 l.length c2] w fun e w' => e = .returned (.bool true) ∧ Below w.heap.size w w' := by
  have H1 : Hid (Os w.heap.size a1 l w) := h1
  have H2 : Hid (Os w.heap.size a2 l w) := h2
  clear h1 h2
  go_enter Try.func10, Try.ntmps10
  go_wp2
  go_loopw [5] (fun i wr => ∃ k : Nat, k ≤ l.length ∧ i = .int .i64 k ∧ Below w.heap.size w wr) (fun i _ => l.length - (intOf i).toNat)
  case atStart => exact ⟨0, Nat.zero_le _, rfl, Below.refl _ _⟩
  case round =>
    obtain ⟨k, hk, rfl, hbel⟩ := hrel
    have HBEL : Hid (Below w.heap.size w wr) := hbel
    by_cases hlt : k < l.length
    · obtain ⟨b1, o1, rfl, hb1, hc1⟩ := H1.out.cell (by omega)
      obtain ⟨b2, o2, rfl, hb2, hc2⟩ := H2.out.cell (by omega)
      obtain ⟨x0, x1, x2, x3, x4⟩ := hc1 k hlt
      obtain ⟨y0, y1, y2, y3, y4⟩ := hc2 k hlt
      have hb1' : ∀ o, wr.cell? ⟨b1, o, none⟩ = w.cell? ⟨b1, o, none⟩ := fun o => hbel.cell (p := ⟨b1, o, none⟩) hb1
      have hb2' : ∀ o, wr.cell? ⟨b2, o, none⟩ = w.cell? ⟨b2, o, none⟩ := fun o => hbel.cell (p := ⟨b2, o, none⟩) hb2
      rw [← hb1'] at x0 x1 x2 x3 x4
      rw [← hb2'] at y0 y1 y2 y3 y4
      clear hc1 hc2 hb1' hb2' hbel
      generalize l[k].kind = r0 at *
      generalize l[k].place = r1 at *
      generalize l[k].long = r2 at *
      generalize l[k].data = r3 at *
      generalize l[k].keep = r4 at *
      go_wp2_with fail
      go_region_with (go_at_call 25; refine (eqVolOp_same r0 r1 r2 r3 r4 _).mono ?_; rintro e w9 ⟨rfl, b9⟩)
      all_goals
        have HB9 : Hid (Below w.heap.size w w9) := HBEL.out.trans ((show Below wr.heap.size wr w9 from ⟨b9.os, b9.tape, b9.output, b9.size, b9.block⟩).mono HBEL.out.size)
        clear b9
        go_wp2
        go_roundw
        · exact ⟨k + 1, by omega, by go_num, HB9.out⟩
        · simp [intOf]; omega
    · clear hbel
      go_wp2
      go_ret
      exact ⟨rfl, HBEL.out⟩
set_option maxHeartbeats 1000000 in
theorem szVolOpS_left (a : Option Addr) (cap : Nat) (l : List Op) (left : Int) (w : World) (h0 : 0 ≤ left) (h1 : left ≤ 1048576) (hz : ∀ r ∈ l, r.data.size ≤ 9223372036854775807) (hn : l.length ≤ 9223372036854775807) (hZ : Os w.heap.size a l w) :
    Calls Try.prog 4 #[.slice a l.length cap, .int .i64 left] w fun e w' => (∃ r : Int, e = .returned (.int .i64 r) ∧ r ≤ 1048576 ∧ (0 ≤ r → l.length ≤ 1048576)) ∧ Below w.heap.size w w' := by
  have HZ : Hid (Os w.heap.size a l w) := hZ
  have HS : Hid (∀ r ∈ l, r.data.size ≤ 9223372036854775807) := hz
  clear hZ hz
  by_cases g : (l.length : Int) ≤ left
  · have hd : decide (left - (l.length : Int) < 0) = false := by simp; omega
    have hl : l.length ≤ 1048576 := by omega
    go_enter Try.func4, Try.ntmps4
    go_wp2
    go_loopw [1, 5] (fun t i wr => ∃ (k : Nat) (r : Int), k ≤ l.length ∧ i = .int .i64 k ∧ t = .int .i64 r ∧ 0 ≤ r ∧ r ≤ 1048576 ∧ Below w.heap.size w wr) (fun _ i _ => l.length - (intOf i).toNat)
    case atStart => exact ⟨0, _, Nat.zero_le _, rfl, rfl, by omega, by omega, Below.refl _ _⟩
    case round =>
      obtain ⟨k, r, hk, rfl, rfl, r0, r1, hbel⟩ := hrel
      have HBEL : Hid (Below w.heap.size w wr) := hbel
      clear hbel
      by_cases hlt : k < l.length
      · obtain ⟨b, off, rfl, hb, hcells⟩ := HZ.out.cell (by omega)
        obtain ⟨c0, c1, c2, c3, c4⟩ := hcells k hlt
        have hb' : ∀ o, wr.cell? ⟨b, o, none⟩ = w.cell? ⟨b, o, none⟩ := fun o => HBEL.out.cell (p := ⟨b, o, none⟩) hb
        rw [← hb'] at c0 c1 c2 c3 c4
        clear hcells hb'
        have hsz := HS.out l[k] (List.getElem_mem hlt)
        generalize l[k] = z at *
        obtain ⟨z0, z1, z2, D, z4⟩ := z
        have hsz' : D.size ≤ 9223372036854775807 := hsz
        have HC' : Hid (∀ v, Calls Try.prog 16 #[.agg #[.int .i64 z0, .int .i64 z1, .int .i64 z2, .string D, .int .i64 z4], .int .i64 r] v fun e w' => (∃ r : Int, e = .returned (.int .i64 r) ∧ r ≤ 1048576 ∧ (0 ≤ r → D.size ≤ 1048576)) ∧ Below v.heap.size v w') := fun v => szVolOp_any z0 z1 z2 D z4 r v r0 r1 (by omega)
        clear hsz hsz'
        simp only at c0 c1 c2 c3 c4
        go_wp2_with fail
        refine (HC'.out _).mono ?_
        rintro e w1 ⟨⟨q, rfl, q1, hq⟩, b1⟩
        have HB1 : Hid (Below w.heap.size w w1) := HBEL.out.trans (b1.mono HBEL.out.size)
        clear b1
        by_cases hq0 : 0 ≤ q
        · have hdq : decide (q < 0) = false := by simp; omega
          clear hq
          go_wp2
          go_roundw
          case rel => exact ⟨k + 1, q, by omega, by go_num, rfl, hq0, q1, HB1.out⟩
          case measure => simp [intOf]; omega
        · have hdq : decide (q < 0) = true := by simp; omega
          clear hq
          go_wp2
          go_ret
          exact ⟨⟨-1, rfl, by omega, fun h => by omega⟩, HB1.out⟩
      · go_wp2
        go_ret
        exact ⟨⟨r, rfl, r1, fun _ => hl⟩, HBEL.out⟩
  · have hd : decide (left - (l.length : Int) < 0) = true := by simp; omega
    go_enter Try.func4, Try.ntmps4
    go_wp2
    go_ret
    exact ⟨⟨-1, rfl, by omega, fun h => by omega⟩, Below.refl _ _⟩
def mop (k : Nat) : Op := ⟨k, k + 1, k + 2, markT (k + 3), k + 4⟩
def omarks (n k : Nat) : List Op := (List.range n).map fun i => mop (k + 5 * i)
theorem omarks_len (n k : Nat) : (omarks n k).length = n := by simp [omarks]
theorem omarks_at (n k i : Nat) (h : i < (omarks n k).length) : (omarks n k)[i] = mop (k + 5 * i) := by simp [omarks]
theorem val_iN {k : IntKind} {a b : Int} (h : a = b) : Value.int k a = .int k b := by rw [h]
set_option maxHeartbeats 2000000 in
theorem markVolOpS_row (R cap k0 : Nat) (l : List Op) (w : World) (hn : l.length ≤ 1048576) (k1 : 1 ≤ k0) (k2 : k0 ≤ 10000000) (hR : ORow R l w) :
    Calls Try.prog 11 #[.slice (some ⟨R, 0, none⟩) l.length cap, .int .i64 k0] w fun e w' => e = .returned (.int .i64 (k0 + 5 * l.length : Nat)) ∧ ORow R (omarks l.length k0) w' ∧ But R w w' := by
  have HR : Hid (ORow R l w) := hR
  clear hR
  go_enter Try.func11, Try.ntmps11
  go_wp2
  go_loopw [1, 5] (fun t i wr => ∃ (j : Nat) (ys : List Op), j ≤ l.length ∧ i = .int .i64 j ∧ t = .int .i64 (k0 + 5 * j : Nat) ∧ ys.length = l.length ∧ ys.take j = (omarks l.length k0).take j ∧ ORow R ys wr ∧ But R w wr) (fun _ i _ => l.length - (intOf i).toNat)
  case atStart => exact ⟨0, l, Nat.zero_le _, rfl, rfl, rfl, rfl, HR.out, But.refl _ _⟩
  case round =>
    obtain ⟨j, ys, hj, rfl, rfl, hy, htk, hrow, hbut⟩ := hrel
    have HROW : Hid (ORow R ys wr) := hrow
    have HBUT : Hid (But R w wr) := hbut
    have HTK : Hid (ys.take j = (omarks l.length k0).take j) := htk
    have hltr := hrow.lt
    by_cases hlt : j < l.length
    · obtain ⟨y0, y1, y2, y3, y4⟩ := hrow.cell j (by omega)
      have f0 := hrow.free (j * 5) (by omega)
      have f1 := hrow.free (j * 5 + 1) (by omega)
      have f2 := hrow.free (j * 5 + 2) (by omega)
      have f3 := hrow.free (j * 5 + 3) (by omega)
      have f4 := hrow.free (j * 5 + 4) (by omega)
      clear hrow hbut htk
      generalize ys[j].kind = q0 at *
      generalize ys[j].place = q1 at *
      generalize ys[j].long = q2 at *
      generalize ys[j].data = q3 at *
      generalize ys[j].keep = q4 at *
      have HC : Hid (∀ v, Calls Try.prog 26 #[.int .i64 (((k0 + 5 * j : Nat) : Int) + 1 + 1 + 1)] v fun e w' => e = .returned (.string (markT (k0 + 5 * j + 3))) ∧ Below v.heap.size v w') := fun v => by
        have := markText_any (k0 + 5 * j + 3) v (by omega) (by omega)
        rw [show ((k0 + 5 * j + 3 : Nat) : Int) = ((k0 + 5 * j : Nat) : Int) + 1 + 1 + 1 by omega] at this
        exact this
      generalize hk : k0 + 5 * j = kk at *
      have hkb : kk ≤ 17000000 := by omega
      have HKK : Hid (k0 + 5 * j = kk) := hk
      clear hk
      have hlt3 : R < (((wr.setCell ⟨R, j * 5, none⟩ (.int .i64 (kk : Int))).setCell ⟨R, j * 5 + 1, none⟩ (.int .i64 ((kk : Int) + 1))).setCell ⟨R, j * 5 + 2, none⟩ (.int .i64 ((kk : Int) + 1 + 1))).heap.size := by simpa [World.setCell] using hltr
      go_wp2_with fail
      refine (HC.out _).mono ?_
      rintro e w1 ⟨rfl, b1⟩
      have g3 := (b1.cell (p := ⟨R, j * 5 + 3, none⟩) (by simpa [World.setCell] using hltr)).trans (show _ = some (.string q3) by go_simp)
      have h3 := (b1.frozen (p := ⟨R, j * 5 + 3, none⟩) (by simpa [World.setCell] using hltr)).trans (show _ = false by go_simp)
      have g4 := (b1.cell (p := ⟨R, j * 5 + 4, none⟩) (by simpa [World.setCell] using hltr)).trans (show _ = some (.int .i64 q4) by go_simp)
      have h4 := (b1.frozen (p := ⟨R, j * 5 + 4, none⟩) (by simpa [World.setCell] using hltr)).trans (show _ = false by go_simp)
      have HRN : Hid (ORow R (ys.set j (mop kk)) ((w1.setCell ⟨R, j * 5 + 3, none⟩ (.string (markT (kk + 3)))).setCell ⟨R, j * 5 + 4, none⟩ (.int .i64 ((kk : Int) + 4)))) := by
        exact HROW.out.setMark j (by omega) (mop kk) b1
      have HBN : Hid (But R w w1) := ((((HBUT.out).setCell _ _).setCell _ _).setCell _ _).trans (But.ofBelow b1)
      have e4 : (kk : Int) + 1 + 1 + 1 + 1 = (kk : Int) + 4 := by omega
      clear b1 hlt3
      go_wp2
      go_roundw
      case rel =>
        refine ⟨j + 1, ys.set j (mop kk), by omega, by go_num, val_iN (by have := HKK.out; omega), by simpa using hy, ?_, ?_, (HBN.out.setCell _ _).setCell _ _⟩
        · have hjy : j < ys.length := by omega
          have hjm : j < (omarks l.length k0).length := by rw [omarks_len]; exact hlt
          rw [take_snoc _ j (by simpa using hjy), take_snoc _ j hjm, List.take_set_of_le (Nat.le_refl _), HTK.out, List.getElem_set_self, omarks_at, HKK.out]
        · first | exact HRN.out | (rw [e4]; exact HRN.out) | (rw [← e4] at HRN; exact HRN.out)
      case measure => simp [intOf]; omega
    · obtain rfl : j = l.length := by omega
      clear hrow hbut
      go_wp2
      go_ret
      rw [List.take_of_length_le (by omega), List.take_of_length_le (by rw [omarks_len]; omega)] at htk
      subst htk
      exact ⟨rfl, HROW.out, HBUT.out⟩
set_option maxHeartbeats 400000 in
theorem markVolOpS_none (a : Option Addr) (cap k0 : Nat) (w : World) :
    Calls Try.prog 11 #[.slice a 0 cap, .int .i64 k0] w fun e w' => e = .returned (.int .i64 k0) ∧ w' = w := by
  go_enter Try.func11, Try.ntmps11
  go_wp2
  go_loop [1, 5] (fun t i => t = .int .i64 k0 ∧ i = .int .i64 0) (fun _ _ => 0)
  case atStart => exact ⟨rfl, rfl⟩
  case round =>
    obtain ⟨rfl, rfl⟩ := hrel
    go_wp2
    go_ret
    exact ⟨rfl, rfl⟩
theorem mark_ownO (lo hi : Nat) (a : Option Addr) (c : Nat) (l : List Op) (w : World) (hn : l.length ≤ 1048576) (h : OwnO lo hi a l w) :
    Calls Try.prog 11 #[.slice a l.length c, .int .i64 1] w fun e w' => e = .returned (.int .i64 (1 + 5 * l.length : Nat)) ∧ OwnO lo hi a (omarks l.length 1) w' ∧ Out lo hi w w' := by
  rcases h with rfl | ⟨R, h1, h3, rfl, hr⟩
  · exact (markVolOpS_none a c 1 w).mono fun e w' ⟨he, hb⟩ => ⟨he, Or.inl rfl, by subst hb; exact Out.refl _ _ _⟩
  · exact (markVolOpS_row R c 1 l w hn (by omega) (by omega) hr).mono fun e w' ⟨he, hrow, hb⟩ => ⟨he, Or.inr ⟨R, h1, h3, rfl, hrow⟩, Out.ofBut hb h1 h3⟩
theorem to_ownO (a : Option Addr) (cap : Nat) (l : List Op) (w : World) (hn : l.length ≤ 1048576) (hI : Os w.heap.size a l w) :
    Calls Try.prog 6 #[.slice a l.length cap] w fun e w' => ∃ b, e = .returned (.slice b l.length l.length) ∧ OwnO w.heap.size w'.heap.size b l w' ∧ Below w.heap.size w w' :=
  (toVolOpS_any a cap l w hn hI).mono fun _ _ ⟨he, hr, hb⟩ => ⟨_, he, Or.inr ⟨_, Nat.le_refl _, hr.lt, rfl, hr⟩, hb⟩
theorem ops_of {H : Type} {enc : TypeId × Value → H} {P : Program} {W : World} {r : Reach} {b0 : Nat} {tS t : TypeId} {f0 f1 f2 f3 f4 : Field} {v : Value} {d : DataW H} {ps : List MemPlace}
    (hS : P.underlying tS = some (.slice t)) (ht : P.underlying t = some (.struct #[f0, f1, f2, f3, f4])) (hc : P.cellsOf t = 5) (o0 : f0.offset = 0) (o1 : f1.offset = 1) (o2 : f2.offset = 2) (o3 : f3.offset = 3) (o4 : f4.offset = 4)
    (u0 : P.underlying f0.type = some (.int .i64)) (u1 : P.underlying f1.type = some (.int .i64)) (u2 : P.underlying f2.type = some (.int .i64)) (u3 : P.underlying f3.type = some .string) (u4 : P.underlying f4.type = some (.int .i64))
    (c0 : P.cellsOf f0.type = 1) (c1 : P.cellsOf f1.type = 1) (c2 : P.cellsOf f2.type = 1) (c3 : P.cellsOf f3.type = 1) (c4 : P.cellsOf f4.type = 1)
    (hval : Value.okWide P W r b0 tS v) (h : DataW.Trod enc P W 0 (fun _ => true) true tS v d ps) :
    ∃ (a : Option Addr) (cap : Nat) (l : List Op), v = .slice a l.length cap ∧ Os W.heap.size a l W ∧ (∀ r ∈ l, fitO r) ∧ l.length ≤ 9223372036854775807 := by
  obtain ⟨a, len, cap, rfl⟩ := okWide_slice hS hval
  obtain ⟨fuel, hf⟩ := h
  have hf' : DataW.trod enc P W 0 (fun _ => true) true fuel tS [.slice a len cap] = some (d, ps) := hf
  obtain ⟨rows, hlen, hgs, hrows, hmax⟩ := gsl_of hS hc (by decide) hf'
  obtain ⟨l, rfl, hq⟩ := list_of (f := ocells) (Q := fun r => fitO r) rows (fun r hr => by
    obtain ⟨n, x, hx⟩ := hrows r hr
    exact ocells_of ht hc o0 o1 o2 o3 o4 u0 u1 u2 u3 u4 c0 c1 c2 c3 c4 hx)
  have hlen' : l.length = len := by simpa using hlen
  subst hlen'
  have e : maxLen = 9223372036854775807 := by decide
  rw [e] at hmax
  exact ⟨a, cap, l, rfl, hgs, hq, hmax⟩
end Go.Proofs.Ytlaafcmfddidnaa
namespace Go.Proofs.Ytlaafcmfddidnaa
set_option maxRecDepth 100000
open Go.ChangeShapes Go.WideShapes Go.ChangeAt Go.RowKit
set_option maxHeartbeats 1000000 in
theorem eqBoolS_same (a1 a2 : Option Addr) (c1 c2 : Nat) (l : List Bool) (w : World) (hn : l.length ≤ 1048576) (h1 : Bs w.heap.size a1 l w) (h2 : Bs w.heap.size a2 l w) :
    Calls Try.prog 9 #[.slice a1 l.length c1, .slice a2 l.length c2] w fun e w' => e = .returned (.bool true) ∧ Below w.heap.size w w' := by
  have H1 : Hid (Bs w.heap.size a1 l w) := h1
  have H2 : Hid (Bs w.heap.size a2 l w) := h2
  clear h1 h2
  go_enter Try.func9, Try.ntmps9
  go_wp2
  go_loopw [5] (fun i wr => ∃ k : Nat, k ≤ l.length ∧ i = .int .i64 k ∧ Below w.heap.size w wr) (fun i _ => l.length - (intOf i).toNat)
  case atStart => exact ⟨0, Nat.zero_le _, rfl, Below.refl _ _⟩
  case round =>
    obtain ⟨k, hk, rfl, hbel⟩ := hrel
    have HBEL : Hid (Below w.heap.size w wr) := hbel
    by_cases hlt : k < l.length
    · obtain ⟨b1, o1, rfl, hb1, hc1⟩ := H1.out.cell (by omega)
      obtain ⟨b2, o2, rfl, hb2, hc2⟩ := H2.out.cell (by omega)
      have x0 := (hbel.cell (p := ⟨b1, o1 + k, none⟩) hb1).trans (hc1 k hlt)
      have y0 := (hbel.cell (p := ⟨b2, o2 + k, none⟩) hb2).trans (hc2 k hlt)
      clear hc1 hc2 hbel
      generalize l[k] = n at *
      go_wp2
      go_region
      all_goals
        go_wp2
        go_roundw
        · exact ⟨k + 1, by omega, by go_num, HBEL.out.drew⟩
        · simp [intOf]; omega
    · clear hbel
      go_wp2
      go_ret
      exact ⟨rfl, HBEL.out⟩
theorem infoB : (Try.prog.info? 4).map (fun i => (i.zero, i.size, i.bytes)) = some (some (.bool false), 1, 1) := by kernel_rfl
theorem make_bools (n : Nat) (hn : n ≤ 1048576) (W : World) : (Instr.makeSlice 28 (.int .i64 (n : Int)) (.int .i64 (n : Int))).run Try.prog W =
    .ok (.slice (some ⟨W.heap.size, 0, none⟩) n n) (W.alloc (.cells (madeCells (Value.bool false).cells n) 4)) := by
  obtain ⟨i0, hi, hz0, hz1, hz2⟩ := info_parts infoB
  have h := run_make (P := Try.prog) W 28 4 i0 _ Try.underlying28 hi hz0 .i64 .i64 (n : Int) (n : Int) (by omega) (by omega) (by rw [hz2]; omega) (by omega)
  rw [hz1] at h
  simpa using h
theorem BRow.made (w : World) (n : Nat) : BRow w.heap.size (List.replicate n false) (w.alloc (.cells (madeCells (Value.bool false).cells n) 4)) := by
  have := GRow.made w 4 n #[.bool false]
  unfold BRow
  rw [List.map_replicate]
  have e : (#[Value.bool false] : Array Value).size = 1 := rfl
  rw [e, Nat.mul_one] at this
  exact this
def bmk (k : Nat) : Bool := (k : Int) % 3 == 0
def bmarks (n k : Nat) : List Bool := (List.range n).map fun i => bmk (k + i)
theorem bmarks_len (n k : Nat) : (bmarks n k).length = n := by simp [bmarks]
theorem bmarks_at (n k i : Nat) (h : i < (bmarks n k).length) : (bmarks n k)[i] = bmk (k + i) := by simp [bmarks]
set_option maxHeartbeats 1000000 in
theorem markBoolS_row (R cap k0 : Nat) (l : List Bool) (w : World) (hn : l.length ≤ 1048576) (k1 : 1 ≤ k0) (k2 : k0 ≤ 4611686018427387904) (hR : BRow R l w) :
    Calls Try.prog 13 #[.slice (some ⟨R, 0, none⟩) l.length cap, .int .i64 k0] w fun e w' => e = .returned (.int .i64 (k0 + l.length : Nat)) ∧ BRow R (bmarks l.length k0) w' ∧ But R w w' := by
  have HR : Hid (BRow R l w) := hR
  clear hR
  go_enter Try.func13, Try.ntmps13
  go_wp2
  go_loopw [1, 5] (fun t i wr => ∃ (j : Nat) (ys : List Bool), j ≤ l.length ∧ i = .int .i64 j ∧ t = .int .i64 (k0 + j : Nat) ∧ ys.length = l.length ∧ ys.take j = (bmarks l.length k0).take j ∧ BRow R ys wr ∧ But R w wr) (fun _ i _ => l.length - (intOf i).toNat)
  case atStart => exact ⟨0, l, Nat.zero_le _, rfl, rfl, rfl, rfl, HR.out, But.refl _ _⟩
  case round =>
    obtain ⟨j, ys, hj, rfl, rfl, hy, htk, hrow, hbut⟩ := hrel
    have HROW : Hid (BRow R ys wr) := hrow
    have HBUT : Hid (But R w wr) := hbut
    have HTK : Hid (ys.take j = (bmarks l.length k0).take j) := htk
    by_cases hlt : j < l.length
    · have y0 := hrow.cell j (by omega)
      have f0 := hrow.free j (by omega)
      clear hrow hbut htk
      generalize ys[j] = yd at *
      go_wp2_with fail
      go_roundw
      case rel =>
        refine ⟨j + 1, ys.set j (bmk (k0 + j)), by omega, by go_num, by go_num, by simpa using hy, ?_, HROW.out.set j (by omega) _, HBUT.out.setCell _ _⟩
        have hjy : j < ys.length := by omega
        have hjm : j < (bmarks l.length k0).length := by rw [bmarks_len]; exact hlt
        rw [take_snoc _ j (by simpa using hjy), take_snoc _ j hjm, List.take_set_of_le (Nat.le_refl _), HTK.out, List.getElem_set_self, bmarks_at]
      case measure => simp [intOf]; omega
    · obtain rfl : j = l.length := by omega
      clear hrow hbut
      go_wp2
      go_ret
      rw [List.take_of_length_le (by omega), List.take_of_length_le (by rw [bmarks_len]; omega)] at htk
      subst htk
      exact ⟨rfl, HROW.out, HBUT.out⟩
set_option maxHeartbeats 400000 in
theorem markBoolS_none (a : Option Addr) (cap k0 : Nat) (w : World) :
    Calls Try.prog 13 #[.slice a 0 cap, .int .i64 k0] w fun e w' => e = .returned (.int .i64 k0) ∧ w' = w := by
  go_enter Try.func13, Try.ntmps13
  go_wp2
  go_loop [1, 5] (fun t i => t = .int .i64 k0 ∧ i = .int .i64 0) (fun _ _ => 0)
  case atStart => exact ⟨rfl, rfl⟩
  case round =>
    obtain ⟨rfl, rfl⟩ := hrel
    go_wp2
    go_ret
    exact ⟨rfl, rfl⟩
set_option maxHeartbeats 1000000 in
theorem heldBoolS_row (a : Option Addr) (cap k0 n : Nat) (w : World) (hn : n ≤ 1048576) (k1 : 1 ≤ k0) (k2 : k0 ≤ 4611686018427387904) (hR : Bs w.heap.size a (bmarks n k0) w) :
    Calls Try.prog 15 #[.slice a n cap, .int .i64 k0] w fun e w' => e = .returned (.int .i64 (k0 + n : Nat)) ∧ Below w.heap.size w w' := by
  have HR : Hid (Bs w.heap.size a (bmarks n k0) w) := hR
  clear hR
  have hml := bmarks_len n k0
  go_enter Try.func15, Try.ntmps15
  go_wp2
  go_loopw [1, 5] (fun t i wr => ∃ j : Nat, j ≤ n ∧ i = .int .i64 j ∧ t = .int .i64 (k0 + j : Nat) ∧ Below w.heap.size w wr) (fun _ i _ => n - (intOf i).toNat)
  case atStart => exact ⟨0, Nat.zero_le _, rfl, rfl, Below.refl _ _⟩
  case round =>
    obtain ⟨j, hj, rfl, rfl, hbel⟩ := hrel
    have HBEL : Hid (Below w.heap.size w wr) := hbel
    by_cases hlt : j < n
    · obtain ⟨b, o, rfl, hb, hc⟩ := HR.out.cell (by omega)
      have x0 := (hbel.cell (p := ⟨b, o + j, none⟩) hb).trans (hc j (by omega))
      have hbv : bmk (k0 + j) = (((k0 : Int) + (j : Int)) % 3 == 0) := by
        unfold bmk
        rw [Int.natCast_add]
      rw [bmarks_at, hbv] at x0
      clear hc hbel hbv
      cases hbb : (((k0 : Int) + (j : Int)) % 3 == 0)
      · rw [hbb] at x0
        go_wp2_with fail
        go_roundw
        case rel => exact ⟨j + 1, by omega, by go_num, by go_num, HBEL.out⟩
        case measure => simp [intOf]; omega
      · rw [hbb] at x0
        go_wp2_with fail
        go_roundw
        case rel => exact ⟨j + 1, by omega, by go_num, by go_num, HBEL.out⟩
        case measure => simp [intOf]; omega
    · obtain rfl : j = n := by omega
      clear hbel
      go_wp2
      go_ret
      exact ⟨rfl, HBEL.out⟩
end Go.Proofs.Ytlaafcmfddidnaa
namespace Go.Proofs.Ytlaafcmfddidnaa
set_option maxRecDepth 100000
open Go Go.ChangeShapes Go.WideShapes Go.ChangeAt Go.RowKit G00541
def tvals (l : List Bool) : List Value := l.map fun b => .bool b
theorem tvals_snoc (l : List Bool) (n : Bool) : tvals (l ++ [n]) = tvals l ++ [.bool n] := by simp [tvals]
/-- the block of a row holds truth values alone -/
def AllB (v : Value) (w : World) : Prop := ∀ g, v.ownBlock = some g → ∀ off u, w.cell? ⟨g, off, none⟩ = some u → ∃ b, u = .bool b
structure TB (lo : Nat) (v : Value) (l : List Bool) (w : World) : Prop where
  row : w.ownsRow lo 4 1 v l.length (tvals l)
  all : AllB v w
theorem TB.nil (lo : Nat) (w : World) : TB lo (.slice none 0 0) [] w := ⟨World.ownsRow_nil _ _ _ _, fun g h => by simp [Value.ownBlock] at h⟩
theorem TB.keep {lo : Nat} {v : Value} {l : List Bool} {w w' : World} (h : TB lo v l w) (hk : ∀ k, v.ownBlock = some k → w'.heap[k]? = w.heap[k]?) : TB lo v l w' :=
  ⟨rw_keep h.row hk, fun g hg off u hu => by
    refine h.all g hg off u ?_
    unfold World.cell? at hu ⊢
    simp only [hk g hg] at hu
    exact hu⟩
theorem TB.below {lo : Nat} {v : Value} {l : List Bool} {w w' : World} (h : TB lo v l w) (g : Below w.heap.size w w') : TB lo v l w' := h.keep (fun k hk => g.block k (World.ownsRow.lt h.row k hk).2)
theorem allB_box {w : World} {g : Nat} {cs : Array Value} {t : TypeId} (h : w.heap[g]? = some (.cells cs t)) (hc : ∀ u ∈ cs.toList, ∃ b, u = Value.bool b) (off : Nat) (u : Value) (hu : w.cell? ⟨g, off, none⟩ = some u) : ∃ b, u = .bool b := by
  rw [box_cell h] at hu
  exact hc u (Array.mem_toList_iff.2 (Array.mem_of_getElem? hu))
theorem zeros_b (n : Nat) : ∀ u ∈ (Builtin.zeroCells (Value.bool false).cells n).toList, ∃ b, u = Value.bool b := by
  intro u hu
  have hc : (Value.bool false).cells = #[.bool false] := rfl
  simp only [Builtin.zeroCells, hc, Array.toList_map, List.mem_map] at hu
  obtain ⟨i, _, rfl⟩ := hu
  refine ⟨false, ?_⟩
  have : i % 1 = 0 := Nat.mod_one i
  simp [this]
theorem tvals_b (l : List Bool) : ∀ u ∈ tvals l, ∃ b, u = Value.bool b := fun u hu => by
  obtain ⟨b, _, rfl⟩ := List.mem_map.1 hu
  exact ⟨b, rfl⟩
theorem TB.push {lo : Nat} {v : Value} {l : List Bool} {w : World} (h : TB lo v l w) (hlo : lo ≤ w.heap.size) (b : Bool) (hm : l.length + 1 ≤ 10000) :
    ∃ v' w', (∀ ty, (Builtin.append_ #[28, 28] ty #[v, .slice (some ⟨w.heap.size, 0, none⟩) 1 1]).run Try.prog (w.alloc (.cells #[.bool b] 4)) = .ok v' w') ∧ TB lo v' (l ++ [b]) w' ∧ (w.alloc (.cells #[.bool b] 4)).grownBy w' v.ownBlock ∧ (v'.ownBlock = v.ownBlock ∨ v'.ownBlock = some (w.heap.size + 1)) := by
  have gb := boxB w (.cells #[.bool b] 4)
  have hz := heap_size w (.cells #[.bool b] 4)
  have hbx := heap_last w (.cells #[.bool b] 4)
  have ha := h.below gb
  generalize hwa : w.alloc (.cells #[.bool b] 4) = wa at *
  obtain ⟨i, hi, hz0, hz1, hz2⟩ := info_parts infoB
  have hnews : ∀ j u, [Value.bool b][j]? = some u → wa.cell? ((⟨w.heap.size, 0, none⟩ : Addr).add j) = some u := fun j u hu => by
    have hj : j = 0 := by
      cases j with
      | zero => rfl
      | succ j => simp at hu
    subst hj
    have e : (⟨w.heap.size, 0, none⟩ : Addr).add 0 = ⟨w.heap.size, 0, none⟩ := rfl
    rw [e, box_cell hbx]
    exact hu
  have one1 : ∀ u ∈ [Value.bool b], u.oneCell' = true := fun u hu => by obtain rfl := List.mem_singleton.1 hu; rfl
  obtain ⟨v', w', hr, h2, h3, _, h5⟩ := run_append_own_at wa lo 28 28 4 i (.bool false) 1 1 Try.underlying28 hi hz0 hz1 hz2 rfl (by decide) v l.length (tvals l) ha.row ⟨w.heap.size, 0, none⟩ 1 1 [.bool b] rfl hnews one1 (by unfold maxLen; omega) (by omega) (by omega)
  rw [hz] at h5
  refine ⟨v', w', fun ty => hr, ⟨by rw [List.length_append, tvals_snoc]; exact h2, ?_⟩, h3, h5⟩
  have hdet : ∀ x y, (Builtin.append_ #[28, 28] 28 #[v, .slice (some ⟨w.heap.size, 0, none⟩) 1 1]).run Try.prog wa = .ok x y → v' = x ∧ w' = y := fun x y h => by
    have h' : (Builtin.append_ #[28, 28] 28 #[v, .slice (some ⟨w.heap.size, 0, none⟩) 1 1]).run Try.prog wa = .ok v' w' := hr
    rw [h'] at h
    injection h with h1 h2
    exact ⟨h1, h2⟩
  rcases ha.row.2 with ⟨rfl, hl0⟩ | ⟨g, cap, cur, rfl, hbg, hg, hnc, hcm, hcs, htake⟩
  · have hr2 := run_append_nil (P := Try.prog) wa 28 28 4 i (.bool false) Try.underlying28 hi hz0 ⟨w.heap.size, 0, none⟩ 1 1 [.bool b] (by rw [hz1]; rfl) hnews (by decide) (by decide) (by rw [hz2]; decide)
    obtain ⟨rfl, rfl⟩ := hdet _ _ hr2
    intro g hg off u hu
    have hg' : wa.heap.size = g := by simpa [Value.ownBlock] using hg
    subst hg'
    refine allB_box (heap_last wa.drew _) (fun u hu => ?_) off u hu
    rw [Array.toList_append] at hu
    rcases List.mem_append.1 hu with hu | hu
    · exact ⟨b, List.mem_singleton.1 hu⟩
    · exact zeros_b _ u hu
  · by_cases hroom : l.length + 1 ≤ cap
    · have hr2 := run_append_room (P := Try.prog) wa 28 28 4 i Try.underlying28 hi g l.length cap cur hg ⟨w.heap.size, 0, none⟩ 1 1 [.bool b] (by rw [hz1]; rfl) hnews one1 hroom (by rw [hz1, hcs]; simp; omega)
      obtain ⟨rfl, rfl⟩ := hdet _ _ hr2
      intro g' hg' off u hu
      have e : g = g' := by simpa [Value.ownBlock] using hg'
      subst e
      refine allB_box (setRow_heap wa g cur _ 4 _ hg) (fun u hu => ?_) off u hu
      have hcur : ∀ u ∈ cur.toList, ∃ b, u = Value.bool b := fun u hu => by
        obtain ⟨k, hk, rfl⟩ := List.getElem_of_mem hu
        refine ha.all g rfl k _ ?_
        rw [box_cell hg]
        rw [Array.length_toList] at hk
        simp [hk]
      rw [List.toList_toArray] at hu
      rcases List.mem_append.1 hu with hu | hu
      · rcases List.mem_append.1 hu with hu | hu
        · exact hcur u (List.mem_of_mem_take hu)
        · exact ⟨b, List.mem_singleton.1 hu⟩
      · exact hcur u (List.mem_of_mem_drop hu)
    · have holds : ∀ j u, (tvals l)[j]? = some u → wa.cell? ((⟨g, 0, none⟩ : Addr).add j) = some u := ha.row.cells (g := g) rfl
      have hlt : (tvals l).length = l.length := by simp [tvals]
      have hcl : cap < l.length + 1 := by omega
      have hr2 := run_append_grow (P := Try.prog) wa 28 28 4 i (.bool false) Try.underlying28 hi hz0 ⟨g, 0, none⟩ l.length cap (tvals l) (by rw [hz1, hlt, Nat.mul_one]) holds ⟨w.heap.size, 0, none⟩ 1 1 [.bool b] (by rw [hz1]; rfl) hnews hcl (by omega) (by rw [hz2]; have := nextslicecap_le hcl; omega)
      obtain ⟨rfl, rfl⟩ := hdet _ _ hr2
      intro g' hg' off u hu
      have e : wa.heap.size = g' := by simpa [Value.ownBlock] using hg'
      subst e
      refine allB_box (heap_last wa.drew _) (fun u hu => ?_) off u hu
      rw [Array.toList_append, Array.toList_append, List.toList_toArray, List.toList_toArray] at hu
      rcases List.mem_append.1 hu with hu | hu
      · rcases List.mem_append.1 hu with hu | hu
        · exact tvals_b l u hu
        · exact ⟨b, List.mem_singleton.1 hu⟩
      · exact zeros_b _ u hu
theorem tvals_flat (l : List Bool) : tvals l = (l.map bcell).flatten := by
  unfold tvals
  induction l with
  | nil => rfl
  | cons x l ih => rw [List.map_cons, List.map_cons, List.flatten_cons, ih]; rfl
theorem TB.own {lo : Nat} {v : Value} {l : List Bool} {w : World} (h : TB lo v l w) : ∃ b c, v = .slice b l.length c ∧ OwnB lo w.heap.size b l w := by
  have h9 := h.row
  by_cases h0 : 0 < l.length
  · have hv : v ≠ .slice none 0 0 := by
      intro e
      rcases h9.2 with ⟨_, h1⟩ | ⟨g, cap, cur, e2, _⟩
      · omega
      · rw [e] at e2; cases e2
    have e9 : tvals l = (l.map bcell).flatten := tvals_flat l
    rw [e9] at h9
    obtain ⟨R, cap, e, hR, hrow⟩ := GRow.ofOwns (rows := l.map bcell) (fun i hi => by rw [List.getElem_map]; rfl) h9 (by simp) hv
    exact ⟨_, cap, e, Or.inr ⟨R, hR, hrow.lt, rfl, hrow⟩⟩
  · obtain rfl : l = [] := List.eq_nil_of_length_eq_zero (by omega)
    rcases h9.2 with ⟨e, _⟩ | ⟨g, cap, cur, e, _⟩
    · exact ⟨none, 0, e, Or.inl rfl⟩
    · exact ⟨_, cap, e, Or.inl rfl⟩
/-- texts and records lie in no block of truth values: they stay while one is appended -/
theorem ss_apart {lo : Nat} {v : Value} {d : List Bool} {w w' : World} {B : Nat} {a : Option Addr} {l : List ByteArray} (h : TB lo v d w) (hs : Ss B a l w) (hB : B ≤ w.heap.size) (g : w.grownBy w' v.ownBlock) : Ss w'.heap.size a l w' := by
  refine ⟨fun h0 => ?_⟩
  obtain ⟨b, off, e, hb, hc⟩ := GSl.cell hs h0
  have hg := g.size
  refine ⟨b, off, e, by omega, fun i hi j hj => ?_⟩
  have hl : 0 < l.length := by simpa using h0
  obtain ⟨b2, off2, e2, hb2, hc2⟩ := Ss.cell hs hl
  have hbb : some b ≠ v.ownBlock := fun e3 => by
    rw [e] at e2
    injection e2 with e2
    injection e2 with e4 e5 _
    subst e4; subst e5
    obtain ⟨x, hx⟩ := h.all b e3.symm _ _ (hc2 0 hl)
    cases hx
  have hbk := g.block b (by omega) hbb
  have hcell := hc i hi j hj
  unfold World.cell? at hcell ⊢
  simp only [hbk]
  exact hcell
theorem rs_apart {lo : Nat} {v : Value} {d : List Bool} {w w' : World} {B : Nat} {a : Option Addr} {l : List Rc} (h : TB lo v d w) (hs : Rs B a l w) (hB : B ≤ w.heap.size) (g : w.grownBy w' v.ownBlock) : Rs w'.heap.size a l w' := by
  refine ⟨fun h0 => ?_⟩
  obtain ⟨b, off, e, hb, hc⟩ := GSl.cell hs h0
  have hg := g.size
  refine ⟨b, off, e, by omega, fun i hi j hj => ?_⟩
  have hl : 0 < l.length := by simpa using h0
  obtain ⟨b2, off2, e2, hb2, hc2⟩ := Rs.cell hs hl
  have hbb : some b ≠ v.ownBlock := fun e3 => by
    rw [e] at e2
    injection e2 with e2
    injection e2 with e4 e5 _
    subst e4; subst e5
    obtain ⟨x, hx⟩ := h.all b e3.symm _ _ (hc2 0 hl).1
    cases hx
  have hbk := g.block b (by omega) hbb
  have hcell := hc i hi j hj
  unfold World.cell? at hcell ⊢
  simp only [hbk]
  exact hcell
end Go.Proofs.Ytlaafcmfddidnaa
namespace Go.Proofs.Ytlaafcmfddidnaa
set_option maxRecDepth 100000
open Go.ChangeShapes Go.WideShapes Go.ChangeAt Go.RowKit G00541
theorem rw_capV {w : World} {base : Nat} {e : TypeId} {size : Nat} {a : Option Addr} {m n c : Nat} {xs : List Value} (h : w.ownsRow base e size (.slice a m c) n xs) : n ≤ c := by
  rcases h.2 with ⟨h1, rfl⟩ | ⟨g', cap, cur, h1, _, _, h2, _⟩
  · injection h1 with _ h2 h3; omega
  · injection h1 with _ h3 h4; omega
def FdOutK (B : List ByteArray) (F : Int) (L : List Rc) (n : Nat) (w : World) (e : Ending) (w' : World) : Prop :=
  ∃ aB kB aL kL, (L.drop n).length ≤ kL ∧ e = .returned (.agg #[.slice aB (doL B (L.take n)).length kB, .int .i64 (markF F (L.take n)), .slice aL (L.drop n).length kL, .int .i64 0]) ∧ OwnV w.heap.size w'.heap.size aB (doL B (L.take n)) aL (L.drop n) w' ∧ Below w.heap.size w w'
set_option maxHeartbeats 1000000 in
theorem foldSure_k (aB aL : Option Addr) (kB kL : Nat) (B : List ByteArray) (F : Int) (L : List Rc) (s : Int) (n : Nat) (w : World) (hs : s = n) (hg : GoodV B F L s) (hk : L.length ≤ kL) (hB : Ss w.heap.size aB B w) (hL : Rs w.heap.size aL L w) :
    Calls Try.prog 43 #[.agg #[.slice aB B.length kB, .int .i64 F, .slice aL L.length kL, .int .i64 s]] w fun e w' => FdOutK B F L n w e w' := by
  have hn : n ≤ L.length := by have := hg.s1; omega
  have HK := hid (LV.start w #[.slice aB B.length kB, .int .i64 F, .slice aL L.length kL, .int .i64 s] #[.slice none 0 0, .int .i64 0, .slice none 0 0, .int .i64 0])
  have hz0 : ((w.alloc (.cells #[.slice aB B.length kB, .int .i64 F, .slice aL L.length kL, .int .i64 s] 27)).alloc (.cells #[.slice none 0 0, .int .i64 0, .slice none 0 0, .int .i64 0] 27)).heap.size = w.heap.size + 2 := by simp
  obtain ⟨k1, hs1⟩ := cut_low aL kL L n s hs hn hk
  obtain ⟨a2, k2, hs2, hR2⟩ := cut_high aL kL L n s hs hn hk hL
  have hl40 := hg.len
  have h16 := goodBs_len hg.bs
  have HC1 : Hid (∀ v, Below w.heap.size w v → Calls Try.prog 52 #[.slice aB B.length kB, .slice aL (L.take n).length k1] v fun e w' => ∃ R c, e = .returned (.slice (some ⟨R, 0, none⟩) 16 c) ∧ v.heap.size ≤ R ∧ SRow R (doL B (L.take n)) w' ∧ Below v.heap.size v w' ∧ 16 ≤ c) := fun v g => blocksBehind_any aB aL kB k1 B (L.take n) v hg.bs (by rw [List.length_take]; omega) (goodL_take hg.recs n) ((hB.below g).mono g.size) (((hL.take n).below g).mono g.size)
  have HC2 : Hid (∀ v, Below w.heap.size w v → Calls Try.prog 40 #[.int .i64 F, .slice aL (L.take n).length k1] v fun e w' => e = .returned (.int .i64 (markF F (L.take n))) ∧ Below v.heap.size v w') := fun v g => markBehind_any aL k1 F (L.take n) v (by rw [List.length_take]; omega) (((hL.take n).below g).mono g.size)
  have HC3 : Hid (∀ v, Below w.heap.size w v → Calls Try.prog 42 #[.slice a2 (L.drop n).length k2] v fun e w' => ∃ b c, e = .returned (.slice b (L.drop n).length c) ∧ w'.ownsRow v.heap.size 58 4 (.slice b (L.drop n).length c) (L.drop n).length (rvals (L.drop n)) ∧ Below v.heap.size v w') := fun v g => copyRecords_any a2 k2 (L.drop n) v (by rw [List.length_drop]; omega) (fun k h => by have := good_small (good_at (goodL_drop hg.recs n) k h); omega) ((hR2.below g).mono g.size)
  have HX : Hid (∀ v, LV w #[.slice aB B.length kB, .int .i64 F, .slice aL L.length kL, .int .i64 s] #[.slice none 0 0, .int .i64 0, .slice none 0 0, .int .i64 0] v → (v.cell? ⟨w.heap.size, 0, none⟩ = some (.slice aB B.length kB) ∧ v.cell? ⟨w.heap.size, 1, none⟩ = some (.int .i64 F) ∧ v.cell? ⟨w.heap.size, 2, none⟩ = some (.slice aL L.length kL) ∧ v.cell? ⟨w.heap.size, 3, none⟩ = some (.int .i64 s)) ∧ v.cell? ⟨w.heap.size + 1, 0, none⟩ = some (.slice none 0 0) ∧ v.cell? ⟨w.heap.size + 1, 1, none⟩ = some (.int .i64 0) ∧ v.cell? ⟨w.heap.size + 1, 2, none⟩ = some (.slice none 0 0) ∧ v.cell? ⟨w.heap.size + 1, 3, none⟩ = some (.int .i64 0) ∧ v.frozen? ⟨w.heap.size + 1, 0, none⟩ = false ∧ v.frozen? ⟨w.heap.size + 1, 1, none⟩ = false ∧ v.frozen? ⟨w.heap.size + 1, 2, none⟩ = false ∧ v.frozen? ⟨w.heap.size + 1, 3, none⟩ = false) := fun v h => ⟨⟨box_cell h.x 0, box_cell h.x 1, box_cell h.x 2, box_cell h.x 3⟩, box_cell h.z 0, box_cell h.z 1, box_cell h.z 2, box_cell h.z 3, box_free h.z 0, box_free h.z 1, box_free h.z 2, box_free h.z 3⟩
  have HDL : Hid ((doL B (L.take n)).length = 16) := by show (doL B (L.take n)).length = 16; rw [doL_len]; exact h16
  clear hB hL hg hR2 hk hl40 h16 hs
  generalize hW : ((w.alloc (.cells #[.slice aB B.length kB, .int .i64 F, .slice aL L.length kL, .int .i64 s] 27)).alloc (.cells #[.slice none 0 0, .int .i64 0, .slice none 0 0, .int .i64 0] 27)) = W at *
  obtain ⟨⟨px0, px1, px2, px3⟩, -⟩ := HX.out _ HK.out
  have HKd := hid (HK.out.on (Below.refl _ _).drew)
  obtain ⟨⟨qx0, qx1, qx2, qx3⟩, -⟩ := HX.out _ HKd.out
  have HKe := hid (HKd.out.on (Below.refl _ _).drew)
  obtain ⟨⟨ox0, ox1, ox2, ox3⟩, -⟩ := HX.out _ HKe.out
  have HC1d := hid (HC1.out W.drew.drew HKe.out.below)
  have hzd : W.drew.drew.heap.size = w.heap.size + 2 := hz0
  generalize (L.take n).length = n1 at *
  generalize hn2 : (L.drop n).length = n2 at *
  have HN2 := hid hn2
  clear hn2
  have HFD : Hid (∀ e w', (∃ aB' kB' aL' kL', n2 ≤ kL' ∧ e = .returned (.agg #[.slice aB' 16 kB', .int .i64 (markF F (L.take n)), .slice aL' n2 kL', .int .i64 0]) ∧ OwnV w.heap.size w'.heap.size aB' (doL B (L.take n)) aL' (L.drop n) w' ∧ Below w.heap.size w w') → FdOutK B F L n w e w') := fun e w' h => by
    unfold FdOutK
    rw [HDL.out, HN2.out]
    exact h
  go_enter Try.func43, Try.ntmps43
  go_wp2_with fail
  clear hW
  go_big_region
  go_wp2_with fail
  go_region_held (fun v => v.cell? ⟨w.heap.size, 0, none⟩ = some (.slice aB B.length kB) ∧ v.cell? ⟨w.heap.size, 1, none⟩ = some (.int .i64 F) ∧ v.cell? ⟨w.heap.size, 2, none⟩ = some (.slice aL L.length kL) ∧ v.cell? ⟨w.heap.size, 3, none⟩ = some (.int .i64 s)) (first | exact ⟨by with_reducible assumption, by with_reducible assumption, by with_reducible assumption, by with_reducible assumption⟩) (first | (go_at_call 52; refine HC1d.out.mono ?_; rintro e w3 ⟨R, c1, rfl, hR, o1, b1, -⟩; have hK3 := HKe.out.on b1; obtain ⟨⟨rx0, rx1, rx2, rx3⟩, -⟩ := HX.out _ hK3) | (go_at_call 40; refine (HC2.out w3 hK3.below).mono ?_; rintro e w4 ⟨rfl, b2⟩; have hK4 := hK3.on b2; obtain ⟨⟨sx0, sx1, sx2, sx3⟩, -⟩ := HX.out _ hK4) | (go_at_call 42; refine (HC3.out w4 hK4.below).mono ?_; rintro e w5 ⟨b2', c2, rfl, o2, b3⟩; have hK5 := hK4.on b3; obtain ⟨⟨tx0, tx1, tx2, tx3⟩, tz0, tz1, tz2, tz3, tf0, tf1, tf2, tf3⟩ := HX.out _ hK5; have hK6 := hK5.fillZ (.slice (some ⟨R, 0, none⟩) 16 c1) (.int .i64 (markF F (L.take n))) (.slice b2' n2 c2) (.int .i64 0); have ux0 : ((((w5.setCell ⟨w.heap.size + 1, 0, none⟩ (.slice (some ⟨R, 0, none⟩) 16 c1)).setCell ⟨w.heap.size + 1, 1, none⟩ (.int .i64 (markF F (L.take n)))).setCell ⟨w.heap.size + 1, 2, none⟩ (.slice b2' n2 c2)).setCell ⟨w.heap.size + 1, 3, none⟩ (.int .i64 0)).cell? ⟨w.heap.size, 0, none⟩ = some (.slice aB B.length kB) := box_cell hK6.x 0; have ux1 : ((((w5.setCell ⟨w.heap.size + 1, 0, none⟩ (.slice (some ⟨R, 0, none⟩) 16 c1)).setCell ⟨w.heap.size + 1, 1, none⟩ (.int .i64 (markF F (L.take n)))).setCell ⟨w.heap.size + 1, 2, none⟩ (.slice b2' n2 c2)).setCell ⟨w.heap.size + 1, 3, none⟩ (.int .i64 0)).cell? ⟨w.heap.size, 1, none⟩ = some (.int .i64 F) := box_cell hK6.x 1; have ux2 : ((((w5.setCell ⟨w.heap.size + 1, 0, none⟩ (.slice (some ⟨R, 0, none⟩) 16 c1)).setCell ⟨w.heap.size + 1, 1, none⟩ (.int .i64 (markF F (L.take n)))).setCell ⟨w.heap.size + 1, 2, none⟩ (.slice b2' n2 c2)).setCell ⟨w.heap.size + 1, 3, none⟩ (.int .i64 0)).cell? ⟨w.heap.size, 2, none⟩ = some (.slice aL L.length kL) := box_cell hK6.x 2; have ux3 : ((((w5.setCell ⟨w.heap.size + 1, 0, none⟩ (.slice (some ⟨R, 0, none⟩) 16 c1)).setCell ⟨w.heap.size + 1, 1, none⟩ (.int .i64 (markF F (L.take n)))).setCell ⟨w.heap.size + 1, 2, none⟩ (.slice b2' n2 c2)).setCell ⟨w.heap.size + 1, 3, none⟩ (.int .i64 0)).cell? ⟨w.heap.size, 3, none⟩ = some (.int .i64 s) := box_cell hK6.x 3))
  all_goals
    have hs3 := b1.size
    have hs4 := b2.size
    have hs5 := b3.size
    have hRl := o1.lt
    rw [hzd] at hR b1 hs3
    have hOWN : OwnV w.heap.size ((((w5.setCell ⟨w.heap.size + 1, 0, none⟩ (.slice (some ⟨R, 0, none⟩) 16 c1)).setCell ⟨w.heap.size + 1, 1, none⟩ (.int .i64 (markF F (L.take n)))).setCell ⟨w.heap.size + 1, 2, none⟩ (.slice b2' n2 c2)).setCell ⟨w.heap.size + 1, 3, none⟩ (.int .i64 0)).heap.size (some ⟨R, 0, none⟩) (doL B (L.take n)) b2' (L.drop n) ((((w5.setCell ⟨w.heap.size + 1, 0, none⟩ (.slice (some ⟨R, 0, none⟩) 16 c1)).setCell ⟨w.heap.size + 1, 1, none⟩ (.int .i64 (markF F (L.take n)))).setCell ⟨w.heap.size + 1, 2, none⟩ (.slice b2' n2 c2)).setCell ⟨w.heap.size + 1, 3, none⟩ (.int .i64 0)) := by
      have hz5 : ((((w5.setCell ⟨w.heap.size + 1, 0, none⟩ (.slice (some ⟨R, 0, none⟩) 16 c1)).setCell ⟨w.heap.size + 1, 1, none⟩ (.int .i64 (markF F (L.take n)))).setCell ⟨w.heap.size + 1, 2, none⟩ (.slice b2' n2 c2)).setCell ⟨w.heap.size + 1, 3, none⟩ (.int .i64 0)).heap.size = w5.heap.size := by simp [World.setCell]
      rw [hz5]
      have o1' := (o1.below b2).below b3
      refine ⟨w4.heap.size, by omega, by omega, Or.inr ⟨R, by omega, by omega, rfl, ?_⟩, ?_⟩
      · refine o1'.same (by rw [hz5]; exact Nat.le_refl _) ?_
        rw [keepB _ _ _ _ _ (by omega), keepB _ _ _ _ _ (by omega), keepB _ _ _ _ _ (by omega), keepB _ _ _ _ _ (by omega)]
      · have hn2 := HN2.out
        rw [← hn2] at o2
        have o2' : ((((w5.setCell ⟨w.heap.size + 1, 0, none⟩ (.slice (some ⟨R, 0, none⟩) 16 c1)).setCell ⟨w.heap.size + 1, 1, none⟩ (.int .i64 (markF F (L.take n)))).setCell ⟨w.heap.size + 1, 2, none⟩ (.slice b2' n2 c2)).setCell ⟨w.heap.size + 1, 3, none⟩ (.int .i64 0)).ownsRow w4.heap.size 58 4 (.slice b2' (L.drop n).length c2) (L.drop n).length (rvals (L.drop n)) := rw_keep o2 (fun k hk => by
          have := (o2.lt k hk).1
          rw [keepB _ _ _ _ _ (by omega), keepB _ _ _ _ _ (by omega), keepB _ _ _ _ _ (by omega), keepB _ _ _ _ _ (by omega)])
        obtain ⟨b9, c9, e9, ho⟩ := own_recs o2'
        injection e9 with e1 e2 e3
        subst e1
        rw [hz5] at ho
        exact ho
    have HCP := hid (rw_capV o2)
    have HOWN := hid hOWN
    have HB6 := hid hK6.below
    have e0 : ((((w5.setCell ⟨w.heap.size + 1, 0, none⟩ (.slice (some ⟨R, 0, none⟩) 16 c1)).setCell ⟨w.heap.size + 1, 1, none⟩ (.int .i64 (markF F (L.take n)))).setCell ⟨w.heap.size + 1, 2, none⟩ (.slice b2' n2 c2)).setCell ⟨w.heap.size + 1, 3, none⟩ (.int .i64 0)).cell? ⟨w.heap.size + 1, 0, none⟩ = some (.slice (some ⟨R, 0, none⟩) 16 c1) := box_cell hK6.z 0
    have e1 : ((((w5.setCell ⟨w.heap.size + 1, 0, none⟩ (.slice (some ⟨R, 0, none⟩) 16 c1)).setCell ⟨w.heap.size + 1, 1, none⟩ (.int .i64 (markF F (L.take n)))).setCell ⟨w.heap.size + 1, 2, none⟩ (.slice b2' n2 c2)).setCell ⟨w.heap.size + 1, 3, none⟩ (.int .i64 0)).cell? ⟨w.heap.size + 1, 1, none⟩ = some (.int .i64 (markF F (L.take n))) := box_cell hK6.z 1
    have e2 : ((((w5.setCell ⟨w.heap.size + 1, 0, none⟩ (.slice (some ⟨R, 0, none⟩) 16 c1)).setCell ⟨w.heap.size + 1, 1, none⟩ (.int .i64 (markF F (L.take n)))).setCell ⟨w.heap.size + 1, 2, none⟩ (.slice b2' n2 c2)).setCell ⟨w.heap.size + 1, 3, none⟩ (.int .i64 0)).cell? ⟨w.heap.size + 1, 2, none⟩ = some (.slice b2' n2 c2) := box_cell hK6.z 2
    have e3 : ((((w5.setCell ⟨w.heap.size + 1, 0, none⟩ (.slice (some ⟨R, 0, none⟩) 16 c1)).setCell ⟨w.heap.size + 1, 1, none⟩ (.int .i64 (markF F (L.take n)))).setCell ⟨w.heap.size + 1, 2, none⟩ (.slice b2' n2 c2)).setCell ⟨w.heap.size + 1, 3, none⟩ (.int .i64 0)).cell? ⟨w.heap.size + 1, 3, none⟩ = some (.int .i64 0) := box_cell hK6.z 3
    clear hOWN hK6 hK5 hK4 hK3 o1 o2 b1 b2 b3 hs3 hs4 hs5 hRl hR px0 px1 px2 px3 qx0 qx1 qx2 qx3 ox0 ox1 ox2 ox3 rx0 rx1 rx2 rx3 sx0 sx1 sx2 sx3 tx0 tx1 tx2 tx3 ux0 ux1 ux2 ux3 tz0 tz1 tz2 tz3 tf0 tf1 tf2 tf3 hzd hz0 hs1 hs2
    generalize ((((w5.setCell ⟨w.heap.size + 1, 0, none⟩ (.slice (some ⟨R, 0, none⟩) 16 c1)).setCell ⟨w.heap.size + 1, 1, none⟩ (.int .i64 (markF F (L.take n)))).setCell ⟨w.heap.size + 1, 2, none⟩ (.slice b2' n2 c2)).setCell ⟨w.heap.size + 1, 3, none⟩ (.int .i64 0)) = XX at *
    go_wp2_with fail
    refine bodyPost_ret (v := .agg #[.slice (some ⟨R, 0, none⟩) 16 c1, .int .i64 (markF F (L.take n)), .slice b2' n2 c2, .int .i64 0]) (by simp [results, Try.results43, go_sem, e0, e1, e2, e3]) rfl ?_
    exact HFD.out _ _ ⟨_, _, _, _, HCP.out, rfl, HOWN.out, HB6.out⟩
end Go.Proofs.Ytlaafcmfddidnaa
namespace Go.Proofs.Ytlaafcmfddidnaa
set_option maxRecDepth 100000
open Go.ChangeShapes Go.WideShapes Go.ChangeAt Go.RowKit G00541
theorem OV.apart {lo mid : Nat} {aB : Option Addr} {kB : Nat} {B : List ByteArray} {aL : Option Addr} {kL : Nat} {L : List Rc} {w : World} (h : OV lo mid aB kB B aL kL L w) (X j : Nat) (u : Value) (h1 : ∀ g, (Value.slice aB B.length kB).ownBlock = some g → g ≠ X) (h2 : ∀ g, (Value.slice aL L.length kL).ownBlock = some g → g ≠ X) : OV lo mid aB kB B aL kL L (w.setCell ⟨X, j, none⟩ u) :=
  ⟨h.lm, by have := h.mh; simpa [World.setCell] using this, rw_keep h.base (fun k hk => keepB _ _ _ _ _ (h1 k hk)), h.low, rw_keep h.log (fun k hk => keepB _ _ _ _ _ (h2 k hk))⟩
theorem OV.lower {lo lo' mid : Nat} {aB : Option Addr} {kB : Nat} {B : List ByteArray} {aL : Option Addr} {kL : Nat} {L : List Rc} {w : World} (h : OV lo mid aB kB B aL kL L w) (hl : lo' ≤ lo) : OV lo' mid aB kB B aL kL L w := ⟨by have := h.lm; omega, h.mh, rw_mono h.base hl, h.low, h.log⟩
theorem ownV_set {lo hi : Nat} {aB : Option Addr} {B : List ByteArray} {aL : Option Addr} {L : List Rc} {w : World} (h : OwnV lo hi aB B aL L w) (X j : Nat) (u : Value) (hX : X < lo) : OwnV lo hi aB B aL L (w.setCell ⟨X, j, none⟩ u) := by
  obtain ⟨mid, h1, h2, h3, h4⟩ := h
  refine ⟨mid, h1, h2, ?_, ?_⟩
  · rcases h3 with e | ⟨R, r1, r2, e, r⟩
    · exact Or.inl e
    · exact Or.inr ⟨R, r1, r2, e, r.same (by simp [World.setCell]) (keepB _ _ _ _ _ (by omega))⟩
  · rcases h4 with e | ⟨R, r1, r2, e, r⟩
    · exact Or.inl e
    · exact Or.inr ⟨R, r1, r2, e, r.same (by simp [World.setCell]) (keepB _ _ _ _ _ (by omega))⟩
theorem ownV_lower {lo lo' hi : Nat} {aB : Option Addr} {B : List ByteArray} {aL : Option Addr} {L : List Rc} {w : World} (h : OwnV lo hi aB B aL L w) (hl : lo' ≤ lo) : OwnV lo' hi aB B aL L w := by
  obtain ⟨mid, h1, h2, h3, h4⟩ := h
  refine ⟨mid, by omega, h2, ?_, h4⟩
  rcases h3 with e | ⟨R, r1, r2, e, r⟩
  · exact Or.inl e
  · exact Or.inr ⟨R, by omega, r2, e, r⟩
set_option maxHeartbeats 8000000 in
theorem idoV_any (aB aL : Option Addr) (kB kL : Nat) (B : List ByteArray) (F : Int) (L : List Rc) (s : Int) (k p n m : Int) (D : ByteArray) (w : World) (hf : B.length ≤ 1048576 ∧ L.length ≤ 1048576) (hk : L.length ≤ kL) (hB : Ss w.heap.size aB B w) (hL : Rs w.heap.size aL L w) (hg : GoodV B F L s) :
    Calls Try.prog 22 #[.agg #[.slice aB B.length kB, .int .i64 F, .slice aL L.length kL, .int .i64 s], .agg #[.int .i64 k, .int .i64 p, .int .i64 n, .string D, .int .i64 m]] w fun e w' => DOut (doV B F L s ⟨k, p, n, D, m⟩) w e w' := by
  have HK := hid (DK.start w #[.slice aB B.length kB, .int .i64 F, .slice aL L.length kL, .int .i64 s] #[.int .i64 k, .int .i64 p, .int .i64 n, .string D, .int .i64 m] #[.slice none 0 0, .int .i64 0, .slice none 0 0, .int .i64 0])
  have HG : Hid (∀ v, Below w.heap.size w v → Calls Try.prog 37 #[.agg #[.slice aB B.length kB, .int .i64 F, .slice aL L.length kL, .int .i64 s]] v fun e w' => e = .returned (.bool true) ∧ Below v.heap.size v w') := fun v g => by
    have := igoodV_any aB aL kB kL B F L s v hf ((hB.below g).mono g.size) ((hL.below g).mono g.size)
    rw [goodV_iff.2 hg] at this
    exact this
  have HND : Hid (∀ v, Calls Try.prog 38 #[.agg #[.int .i64 k, .int .i64 p, .int .i64 n, .string D, .int .i64 m]] v fun e w' => e = .returned (.bool (needOk ⟨k, p, n, D, m⟩)) ∧ Below v.heap.size v w') := fun v => need_any k p n m D v
  have HCP : Hid (∀ v, Below w.heap.size w v → Calls Try.prog 39 #[.agg #[.slice aB B.length kB, .int .i64 F, .slice aL L.length kL, .int .i64 s]] v fun e w' => CpOut B F L s v e w') := fun v g => copyVolume_any aB aL kB kL B F L s v hg ((hB.below g).mono g.size) ((hL.below g).mono g.size)
  have HMB : Hid (∀ v, Below w.heap.size w v → Calls Try.prog 40 #[.int .i64 F, .slice aL L.length kL] v fun e w' => e = .returned (.int .i64 (markF F L)) ∧ Below v.heap.size v w') := fun v g => markBehind_any aL kL F L v hf.2 ((hL.below g).mono g.size)
  have HRF : Hid (∀ v, Calls Try.prog 41 #[.agg #[.int .i64 k, .int .i64 p, .int .i64 n, .string D, .int .i64 m]] v fun e w' => ForOut ⟨k, p, n, D, m⟩ v e w') := fun v => irec_any k p n m D v
  have HFS : Hid (∀ v, Below w.heap.size w v → Calls Try.prog 43 #[.agg #[.slice aB B.length kB, .int .i64 F, .slice aL L.length kL, .int .i64 s]] v fun e w' => FdOut B F L s.toNat v e w') := fun v g => foldSure_any aB aL kB kL B F L s s.toNat v (by have := hg.s0; omega) hg hk ((hB.below g).mono g.size) ((hL.below g).mono g.size)
  have HCR : Hid (∀ q : Nat, q ≤ L.length → ∃ c, (∀ v, Sem.run Try.prog (Instr.slice 25 (.slice aL L.length kL) none (some (.int .i64 (q : Int))) none) v = .ok (.slice aL (L.take q).length c) v) ∧ ∀ v, Below w.heap.size w v → Calls Try.prog 42 #[.slice aL (L.take q).length c] v fun e w' => ∃ b c, e = .returned (.slice b (L.take q).length c) ∧ w'.ownsRow v.heap.size 58 4 (.slice b (L.take q).length c) (L.take q).length (rvals (L.take q)) ∧ Below v.heap.size v w') := fun q hq => by
    obtain ⟨c, hc⟩ := cut_low aL kL L q q rfl hq hk
    exact ⟨c, hc, fun v g => copyRecords_any aL c (L.take q) v (by rw [List.length_take]; have := hg.len; omega) (fun j h => by have := good_small (good_at (goodL_take hg.recs q) j h); omega) (((hL.take q).below g).mono g.size)⟩
  have HL40 : Hid (L.length ≤ 40) := hg.len
  have HM : Hid (0 ≤ markF F L ∧ markF F L ≤ 200) := by
    have := markF_in F L hg.f0 hg.f1 L.length (Nat.le_refl _) (fun j hj _ => good_at hg.recs j hj)
    rw [markF_all] at this
    exact this
  have hlen := hg.len
  have hs0 := hg.s0
  clear hB hL hg hf hk
  generalize hW : (((w.alloc (.cells #[.slice aB B.length kB, .int .i64 F, .slice aL L.length kL, .int .i64 s] 27)).alloc (.cells #[.int .i64 k, .int .i64 p, .int .i64 n, .string D, .int .i64 m] 44)).alloc (.cells #[.slice none 0 0, .int .i64 0, .slice none 0 0, .int .i64 0] 27)) = W at *
  obtain ⟨x0, x1, x2, x3⟩ := HK.out.vol
  go_enter Try.func22, Try.ntmps22
  go_wp2_with fail
  clear hW
  refine (HG.out _ HK.out.below).mono ?_
  rintro e w2 ⟨rfl, b2⟩
  have HK2 := hid (HK.out.on b2)
  clear b2 HK HG x0 x1 x2 x3
  obtain ⟨x0, x1, x2, x3⟩ := HK2.out.vol
  obtain ⟨o0, o1, o2, o3, o4⟩ := HK2.out.op
  go_wp2_with fail
  refine (HND.out _).mono ?_
  rintro e w3 ⟨rfl, b3⟩
  have HK3 := hid (HK2.out.on b3)
  clear b3 HK2 HND x0 x1 x2 x3 o0 o1 o2 o3 o4
  cases hnd : needOk ⟨k, p, n, D, m⟩
  · have HNO := hid (doV_need (B := B) (F := F) (L := L) (s := s) hnd)
    clear hnd
    have hKz := HK3.out.fill (.slice none 0 0) (.int .i64 0) (.slice none 0 0) (.int .i64 0)
    have ez0 : ((((w3.setCell ⟨w.heap.size + 1 + 1, 0, none⟩ (.slice none 0 0)).setCell ⟨w.heap.size + 1 + 1, 1, none⟩ (.int .i64 0)).setCell ⟨w.heap.size + 1 + 1, 2, none⟩ (.slice none 0 0)).setCell ⟨w.heap.size + 1 + 1, 3, none⟩ (.int .i64 0)).cell? ⟨w.heap.size + 1 + 1, 0, none⟩ = some (.slice none 0 0) := box_cell hKz.z 0
    have ez1 : ((((w3.setCell ⟨w.heap.size + 1 + 1, 0, none⟩ (.slice none 0 0)).setCell ⟨w.heap.size + 1 + 1, 1, none⟩ (.int .i64 0)).setCell ⟨w.heap.size + 1 + 1, 2, none⟩ (.slice none 0 0)).setCell ⟨w.heap.size + 1 + 1, 3, none⟩ (.int .i64 0)).cell? ⟨w.heap.size + 1 + 1, 1, none⟩ = some (.int .i64 0) := box_cell hKz.z 1
    have ez2 : ((((w3.setCell ⟨w.heap.size + 1 + 1, 0, none⟩ (.slice none 0 0)).setCell ⟨w.heap.size + 1 + 1, 1, none⟩ (.int .i64 0)).setCell ⟨w.heap.size + 1 + 1, 2, none⟩ (.slice none 0 0)).setCell ⟨w.heap.size + 1 + 1, 3, none⟩ (.int .i64 0)).cell? ⟨w.heap.size + 1 + 1, 2, none⟩ = some (.slice none 0 0) := box_cell hKz.z 2
    have ez3 : ((((w3.setCell ⟨w.heap.size + 1 + 1, 0, none⟩ (.slice none 0 0)).setCell ⟨w.heap.size + 1 + 1, 1, none⟩ (.int .i64 0)).setCell ⟨w.heap.size + 1 + 1, 2, none⟩ (.slice none 0 0)).setCell ⟨w.heap.size + 1 + 1, 3, none⟩ (.int .i64 0)).cell? ⟨w.heap.size + 1 + 1, 3, none⟩ = some (.int .i64 0) := box_cell hKz.z 3
    have HBz := hid hKz.below
    obtain ⟨⟨z0, z1, z2, z3⟩, f0, f1, f2, f3⟩ := HK3.out.cells
    clear hKz
    go_wp2_with fail
    generalize ((((w3.setCell ⟨w.heap.size + 1 + 1, 0, none⟩ (.slice none 0 0)).setCell ⟨w.heap.size + 1 + 1, 1, none⟩ (.int .i64 0)).setCell ⟨w.heap.size + 1 + 1, 2, none⟩ (.slice none 0 0)).setCell ⟨w.heap.size + 1 + 1, 3, none⟩ (.int .i64 0)) = XX at *
    refine bodyPost_ret (v := .tuple #[.agg #[.slice none 0 0, .int .i64 0, .slice none 0 0, .int .i64 0], .bool false]) (by simp [results, Try.results22, go_sem, ez0, ez1, ez2, ez3]) rfl ?_
    rw [HNO.out]
    exact ⟨rfl, HBz.out⟩
  obtain ⟨x0, x1, x2, x3⟩ := HK3.out.vol
  obtain ⟨o0, o1, o2, o3, o4⟩ := HK3.out.op
  have HND := hid hnd
  clear hnd
  go_wp2_with fail
  refine (HCP.out _ HK3.out.below).mono ?_
  rintro e w4 ⟨mid, a1, c1, a2, c2, rfl, hov, b4⟩
  have hK4 := HK3.out.on b4
  have b5 := boxB w4 (.cells #[.slice a1 B.length c1, .int .i64 F, .slice a2 L.length c2, .int .i64 s] 27)
  have hXD : (w4.alloc (.cells #[.slice a1 B.length c1, .int .i64 F, .slice a2 L.length c2, .int .i64 s] 27)).heap[w4.heap.size]? = some (.cells #[.slice a1 B.length c1, .int .i64 F, .slice a2 L.length c2, .int .i64 s] 27) := heap_last _ _
  have hlo := HK3.out.size
  have b4s := b4.size
  have hbd : ∀ g, (Value.slice a1 B.length c1).ownBlock = some g → g < w4.heap.size := fun g hg => (hov.base.lt g hg).2
  have hld : ∀ g, (Value.slice a2 L.length c2).ownBlock = some g → g < w4.heap.size := fun g hg => (hov.log.lt g hg).2
  have HOV := hid (hov.below b5)
  have HK5 := hid (hK4.on b5)
  have HXD := hid hXD
  have hsz5 : (w4.alloc (.cells #[.slice a1 B.length c1, .int .i64 F, .slice a2 L.length c2, .int .i64 s] 27)).heap.size = w4.heap.size + 1 := heap_size _ _
  have HBD := hid hbd
  have HLD := hid hld
  clear hov b4 hK4 b5 hXD HK3 HCP x0 x1 x2 x3 o0 o1 o2 o3 o4 hbd hld
  generalize hW5 : w4.alloc (.cells #[.slice a1 B.length c1, .int .i64 F, .slice a2 L.length c2, .int .i64 s] 27) = W5 at *
  have hXDlt : w4.heap.size < W5.heap.size := by omega
  have hX3 : w.heap.size + 3 ≤ w4.heap.size := by have := b4s; omega
  clear hsz5 b4s
  obtain ⟨x0, x1, x2, x3⟩ := HK5.out.vol
  obtain ⟨o0, o1, o2, o3, o4⟩ := HK5.out.op
  have d0 : W5.cell? ⟨w4.heap.size, 0, none⟩ = some (.slice a1 B.length c1) := box_cell HXD.out 0
  have g0 : W5.frozen? ⟨w4.heap.size, 0, none⟩ = false := box_free HXD.out 0
  have d1 : W5.cell? ⟨w4.heap.size, 1, none⟩ = some (.int .i64 F) := box_cell HXD.out 1
  have g1 : W5.frozen? ⟨w4.heap.size, 1, none⟩ = false := box_free HXD.out 1
  have d2 : W5.cell? ⟨w4.heap.size, 2, none⟩ = some (.slice a2 L.length c2) := box_cell HXD.out 2
  have g2 : W5.frozen? ⟨w4.heap.size, 2, none⟩ = false := box_free HXD.out 2
  have d3 : W5.cell? ⟨w4.heap.size, 3, none⟩ = some (.int .i64 s) := box_cell HXD.out 3
  have g3 : W5.frozen? ⟨w4.heap.size, 3, none⟩ = false := box_free HXD.out 3
  by_cases k6 : 1 ≤ k ∧ k ≤ 6
  case neg =>
    have HNO := hid (doV_other (B := B) (F := F) (L := L) (s := s) (o := ⟨k, p, n, D, m⟩) k6)
    have e1 : (k == 1) = false := beq_eq_false_iff_ne.2 (by omega)
    have e2 : (k == 2) = false := beq_eq_false_iff_ne.2 (by omega)
    have e3 : (k == 3) = false := beq_eq_false_iff_ne.2 (by omega)
    have e4 : (k == 4) = false := beq_eq_false_iff_ne.2 (by omega)
    have e5 : (k == 5) = false := beq_eq_false_iff_ne.2 (by omega)
    have e6 : (k == 6) = false := beq_eq_false_iff_ne.2 (by omega)
    have dd1 : decide (k = 1) = false := decide_eq_false (by omega)
    have dd2 : decide (k = 2) = false := decide_eq_false (by omega)
    have dd3 : decide (k = 3) = false := decide_eq_false (by omega)
    have dd4 : decide (k = 4) = false := decide_eq_false (by omega)
    have dd5 : decide (k = 5) = false := decide_eq_false (by omega)
    have dd6 : decide (k = 6) = false := decide_eq_false (by omega)
    clear k6
    have hKz := HK5.out.fill (.slice none 0 0) (.int .i64 0) (.slice none 0 0) (.int .i64 0)
    have ez0 : ((((W5.setCell ⟨w.heap.size + 1 + 1, 0, none⟩ (.slice none 0 0)).setCell ⟨w.heap.size + 1 + 1, 1, none⟩ (.int .i64 0)).setCell ⟨w.heap.size + 1 + 1, 2, none⟩ (.slice none 0 0)).setCell ⟨w.heap.size + 1 + 1, 3, none⟩ (.int .i64 0)).cell? ⟨w.heap.size + 1 + 1, 0, none⟩ = some (.slice none 0 0) := box_cell hKz.z 0
    have ez1 : ((((W5.setCell ⟨w.heap.size + 1 + 1, 0, none⟩ (.slice none 0 0)).setCell ⟨w.heap.size + 1 + 1, 1, none⟩ (.int .i64 0)).setCell ⟨w.heap.size + 1 + 1, 2, none⟩ (.slice none 0 0)).setCell ⟨w.heap.size + 1 + 1, 3, none⟩ (.int .i64 0)).cell? ⟨w.heap.size + 1 + 1, 1, none⟩ = some (.int .i64 0) := box_cell hKz.z 1
    have ez2 : ((((W5.setCell ⟨w.heap.size + 1 + 1, 0, none⟩ (.slice none 0 0)).setCell ⟨w.heap.size + 1 + 1, 1, none⟩ (.int .i64 0)).setCell ⟨w.heap.size + 1 + 1, 2, none⟩ (.slice none 0 0)).setCell ⟨w.heap.size + 1 + 1, 3, none⟩ (.int .i64 0)).cell? ⟨w.heap.size + 1 + 1, 2, none⟩ = some (.slice none 0 0) := box_cell hKz.z 2
    have ez3 : ((((W5.setCell ⟨w.heap.size + 1 + 1, 0, none⟩ (.slice none 0 0)).setCell ⟨w.heap.size + 1 + 1, 1, none⟩ (.int .i64 0)).setCell ⟨w.heap.size + 1 + 1, 2, none⟩ (.slice none 0 0)).setCell ⟨w.heap.size + 1 + 1, 3, none⟩ (.int .i64 0)).cell? ⟨w.heap.size + 1 + 1, 3, none⟩ = some (.int .i64 0) := box_cell hKz.z 3
    have HBz := hid hKz.below
    obtain ⟨⟨z0, z1, z2, z3⟩, f0, f1, f2, f3⟩ := HK5.out.cells
    clear hKz
    go_wp2_with fail
    generalize ((((W5.setCell ⟨w.heap.size + 1 + 1, 0, none⟩ (.slice none 0 0)).setCell ⟨w.heap.size + 1 + 1, 1, none⟩ (.int .i64 0)).setCell ⟨w.heap.size + 1 + 1, 2, none⟩ (.slice none 0 0)).setCell ⟨w.heap.size + 1 + 1, 3, none⟩ (.int .i64 0)) = XX at *
    refine bodyPost_ret (v := .tuple #[.agg #[.slice none 0 0, .int .i64 0, .slice none 0 0, .int .i64 0], .bool false]) (by simp [results, Try.results22, go_sem, ez0, ez1, ez2, ez3]) rfl ?_
    rw [HNO.out]
    exact ⟨rfl, HBz.out⟩
  have HRS : Hid (¬ (1 ≤ k ∧ k ≤ 3) → restOk ⟨k, p, n, D, m⟩) := fun h => of_decide_eq_true ((need_rest (o := ⟨k, p, n, D, m⟩) h).symm.trans HND.out)
  by_cases k4 : k = 4
  · subst k4
    have HEQ := hid (doV_four (B := B) (F := F) (L := L) (s := s) (o := ⟨4, p, n, D, m⟩) rfl (HRS.out (by omega)))
    have hK6 := HK5.out.step (setB (Below.refl (w.heap.size + 3) W5) w4.heap.size 3 hX3 (.int .i64 (L.length : Int)))
    have hO6 := HOV.out.apart w4.heap.size 3 (.int .i64 (L.length : Int)) (fun g hg => by have := HBD.out g hg; omega) (fun g hg => by have := HLD.out g hg; omega)
    have hKr := hK6.fill (.slice a1 B.length c1) (.int .i64 F) (.slice a2 L.length c2) (.int .i64 (L.length : Int))
    have er0 : (((((W5.setCell ⟨w4.heap.size, 3, none⟩ (.int .i64 (L.length : Int))).setCell ⟨w.heap.size + 1 + 1, 0, none⟩ (.slice a1 B.length c1)).setCell ⟨w.heap.size + 1 + 1, 1, none⟩ (.int .i64 F)).setCell ⟨w.heap.size + 1 + 1, 2, none⟩ (.slice a2 L.length c2)).setCell ⟨w.heap.size + 1 + 1, 3, none⟩ (.int .i64 (L.length : Int))).cell? ⟨w.heap.size + 1 + 1, 0, none⟩ = some (.slice a1 B.length c1) := box_cell hKr.z 0
    have er1 : (((((W5.setCell ⟨w4.heap.size, 3, none⟩ (.int .i64 (L.length : Int))).setCell ⟨w.heap.size + 1 + 1, 0, none⟩ (.slice a1 B.length c1)).setCell ⟨w.heap.size + 1 + 1, 1, none⟩ (.int .i64 F)).setCell ⟨w.heap.size + 1 + 1, 2, none⟩ (.slice a2 L.length c2)).setCell ⟨w.heap.size + 1 + 1, 3, none⟩ (.int .i64 (L.length : Int))).cell? ⟨w.heap.size + 1 + 1, 1, none⟩ = some (.int .i64 F) := box_cell hKr.z 1
    have er2 : (((((W5.setCell ⟨w4.heap.size, 3, none⟩ (.int .i64 (L.length : Int))).setCell ⟨w.heap.size + 1 + 1, 0, none⟩ (.slice a1 B.length c1)).setCell ⟨w.heap.size + 1 + 1, 1, none⟩ (.int .i64 F)).setCell ⟨w.heap.size + 1 + 1, 2, none⟩ (.slice a2 L.length c2)).setCell ⟨w.heap.size + 1 + 1, 3, none⟩ (.int .i64 (L.length : Int))).cell? ⟨w.heap.size + 1 + 1, 2, none⟩ = some (.slice a2 L.length c2) := box_cell hKr.z 2
    have er3 : (((((W5.setCell ⟨w4.heap.size, 3, none⟩ (.int .i64 (L.length : Int))).setCell ⟨w.heap.size + 1 + 1, 0, none⟩ (.slice a1 B.length c1)).setCell ⟨w.heap.size + 1 + 1, 1, none⟩ (.int .i64 F)).setCell ⟨w.heap.size + 1 + 1, 2, none⟩ (.slice a2 L.length c2)).setCell ⟨w.heap.size + 1 + 1, 3, none⟩ (.int .i64 (L.length : Int))).cell? ⟨w.heap.size + 1 + 1, 3, none⟩ = some (.int .i64 (L.length : Int)) := box_cell hKr.z 3
    have HBr := hid hKr.below
    have hOr := (((hO6.set (w.heap.size + 1 + 1) 0 (.slice a1 B.length c1) (by omega)).set (w.heap.size + 1 + 1) 1 (.int .i64 F) (by omega)).set (w.heap.size + 1 + 1) 2 (.slice a2 L.length c2) (by omega)).set (w.heap.size + 1 + 1) 3 (.int .i64 (L.length : Int)) (by omega)
    have HOr := hid (hOr.lower (show w.heap.size ≤ w3.heap.size by omega)).own
    obtain ⟨⟨z0, z1, z2, z3⟩, f0, f1, f2, f3⟩ := hK6.cells
    clear hKr hOr
    go_wp2_with fail
    generalize (((((W5.setCell ⟨w4.heap.size, 3, none⟩ (.int .i64 (L.length : Int))).setCell ⟨w.heap.size + 1 + 1, 0, none⟩ (.slice a1 B.length c1)).setCell ⟨w.heap.size + 1 + 1, 1, none⟩ (.int .i64 F)).setCell ⟨w.heap.size + 1 + 1, 2, none⟩ (.slice a2 L.length c2)).setCell ⟨w.heap.size + 1 + 1, 3, none⟩ (.int .i64 (L.length : Int))) = XX at *
    refine bodyPost_ret (v := .tuple #[.agg #[.slice a1 B.length c1, .int .i64 F, .slice a2 L.length c2, .int .i64 (L.length : Int)], .bool true]) (by simp [results, Try.results22, go_sem, er0, er1, er2, er3]) rfl ?_
    rw [HEQ.out]
    exact ⟨_, _, _, _, rfl, HOr.out, HBr.out⟩
  by_cases k6f : k = 6
  · subst k6f
    have HEQ := hid (doV_six (B := B) (F := F) (L := L) (s := s) (o := ⟨6, p, n, D, m⟩) rfl (HRS.out (by omega)))
    have HC6 := hid (HFS.out W5 HK5.out.below)
    unfold FdOut at HC6
    generalize hB9 : doL B (L.take s.toNat) = B9 at *
    generalize hm9 : markF F (L.take s.toNat) = mk at *
    generalize hL9 : L.drop s.toNat = L9 at *
    have HEQ2 : Hid (doV B F L s ⟨6, p, n, D, m⟩ = some (B9, mk, L9, 0)) := by
      show doV B F L s ⟨6, p, n, D, m⟩ = _
      rw [HEQ.out]; unfold foldDo; rw [hB9, hm9, hL9]
    have HDO : Hid (∀ e w', (∃ aB' kB' aL' kL', e = .returned (.tuple #[.agg #[.slice aB' B9.length kB', .int .i64 mk, .slice aL' L9.length kL', .int .i64 0], .bool true]) ∧ OwnV w.heap.size w'.heap.size aB' B9 aL' L9 w' ∧ Below w.heap.size w w') → DOut (doV B F L s ⟨6, p, n, D, m⟩) w e w') := fun e w' h => by rw [HEQ2.out]; exact h
    clear hB9 hm9 hL9 HEQ
    generalize B9.length = n1 at *
    generalize L9.length = n2 at *
    go_wp2_with fail
    refine HC6.out.mono ?_
    rintro e w6 ⟨b1, j1, b2, j2, rfl, ho6, b6⟩
    have hK6 := HK5.out.on b6
    have hX6 := (b6.block w4.heap.size hXDlt).trans HXD.out
    have hs6 := b6.size
    clear d0 d1 d2 d3 g0 g1 g2 g3 x0 x1 x2 x3 o0 o1 o2 o3 o4
    have d0 : w6.cell? ⟨w4.heap.size, 0, none⟩ = some (.slice a1 B.length c1) := box_cell hX6 0
    have g0 : w6.frozen? ⟨w4.heap.size, 0, none⟩ = false := box_free hX6 0
    have d1 : w6.cell? ⟨w4.heap.size, 1, none⟩ = some (.int .i64 F) := box_cell hX6 1
    have g1 : w6.frozen? ⟨w4.heap.size, 1, none⟩ = false := box_free hX6 1
    have d2 : w6.cell? ⟨w4.heap.size, 2, none⟩ = some (.slice a2 L.length c2) := box_cell hX6 2
    have g2 : w6.frozen? ⟨w4.heap.size, 2, none⟩ = false := box_free hX6 2
    have d3 : w6.cell? ⟨w4.heap.size, 3, none⟩ = some (.int .i64 s) := box_cell hX6 3
    have g3 : w6.frozen? ⟨w4.heap.size, 3, none⟩ = false := box_free hX6 3
    have hK7 := hK6.step (setB (setB (setB (setB (Below.refl (w.heap.size + 3) w6) w4.heap.size 0 hX3 (.slice b1 n1 j1)) w4.heap.size 1 hX3 (.int .i64 mk)) w4.heap.size 2 hX3 (.slice b2 n2 j2)) w4.heap.size 3 hX3 (.int .i64 0))
    have hKr := hK7.fill (.slice b1 n1 j1) (.int .i64 mk) (.slice b2 n2 j2) (.int .i64 0)
    have er0 : ((((((((w6.setCell ⟨w4.heap.size, 0, none⟩ (.slice b1 n1 j1)).setCell ⟨w4.heap.size, 1, none⟩ (.int .i64 mk)).setCell ⟨w4.heap.size, 2, none⟩ (.slice b2 n2 j2)).setCell ⟨w4.heap.size, 3, none⟩ (.int .i64 0)).setCell ⟨w.heap.size + 1 + 1, 0, none⟩ (.slice b1 n1 j1)).setCell ⟨w.heap.size + 1 + 1, 1, none⟩ (.int .i64 mk)).setCell ⟨w.heap.size + 1 + 1, 2, none⟩ (.slice b2 n2 j2)).setCell ⟨w.heap.size + 1 + 1, 3, none⟩ (.int .i64 0)).cell? ⟨w.heap.size + 1 + 1, 0, none⟩ = some (.slice b1 n1 j1) := box_cell hKr.z 0
    have er1 : ((((((((w6.setCell ⟨w4.heap.size, 0, none⟩ (.slice b1 n1 j1)).setCell ⟨w4.heap.size, 1, none⟩ (.int .i64 mk)).setCell ⟨w4.heap.size, 2, none⟩ (.slice b2 n2 j2)).setCell ⟨w4.heap.size, 3, none⟩ (.int .i64 0)).setCell ⟨w.heap.size + 1 + 1, 0, none⟩ (.slice b1 n1 j1)).setCell ⟨w.heap.size + 1 + 1, 1, none⟩ (.int .i64 mk)).setCell ⟨w.heap.size + 1 + 1, 2, none⟩ (.slice b2 n2 j2)).setCell ⟨w.heap.size + 1 + 1, 3, none⟩ (.int .i64 0)).cell? ⟨w.heap.size + 1 + 1, 1, none⟩ = some (.int .i64 mk) := box_cell hKr.z 1
    have er2 : ((((((((w6.setCell ⟨w4.heap.size, 0, none⟩ (.slice b1 n1 j1)).setCell ⟨w4.heap.size, 1, none⟩ (.int .i64 mk)).setCell ⟨w4.heap.size, 2, none⟩ (.slice b2 n2 j2)).setCell ⟨w4.heap.size, 3, none⟩ (.int .i64 0)).setCell ⟨w.heap.size + 1 + 1, 0, none⟩ (.slice b1 n1 j1)).setCell ⟨w.heap.size + 1 + 1, 1, none⟩ (.int .i64 mk)).setCell ⟨w.heap.size + 1 + 1, 2, none⟩ (.slice b2 n2 j2)).setCell ⟨w.heap.size + 1 + 1, 3, none⟩ (.int .i64 0)).cell? ⟨w.heap.size + 1 + 1, 2, none⟩ = some (.slice b2 n2 j2) := box_cell hKr.z 2
    have er3 : ((((((((w6.setCell ⟨w4.heap.size, 0, none⟩ (.slice b1 n1 j1)).setCell ⟨w4.heap.size, 1, none⟩ (.int .i64 mk)).setCell ⟨w4.heap.size, 2, none⟩ (.slice b2 n2 j2)).setCell ⟨w4.heap.size, 3, none⟩ (.int .i64 0)).setCell ⟨w.heap.size + 1 + 1, 0, none⟩ (.slice b1 n1 j1)).setCell ⟨w.heap.size + 1 + 1, 1, none⟩ (.int .i64 mk)).setCell ⟨w.heap.size + 1 + 1, 2, none⟩ (.slice b2 n2 j2)).setCell ⟨w.heap.size + 1 + 1, 3, none⟩ (.int .i64 0)).cell? ⟨w.heap.size + 1 + 1, 3, none⟩ = some (.int .i64 0) := box_cell hKr.z 3
    have HBr := hid hKr.below
    have hP0 := ownV_set ho6 w4.heap.size 0 (.slice b1 n1 j1) hXDlt
    have hP1 := ownV_set hP0 w4.heap.size 1 (.int .i64 mk) hXDlt
    have hP2 := ownV_set hP1 w4.heap.size 2 (.slice b2 n2 j2) hXDlt
    have hP3 := ownV_set hP2 w4.heap.size 3 (.int .i64 0) hXDlt
    have hP4 := ownV_set hP3 (w.heap.size + 1 + 1) 0 (.slice b1 n1 j1) (by omega)
    have hP5 := ownV_set hP4 (w.heap.size + 1 + 1) 1 (.int .i64 mk) (by omega)
    have hP6 := ownV_set hP5 (w.heap.size + 1 + 1) 2 (.slice b2 n2 j2) (by omega)
    have hP7 := ownV_set hP6 (w.heap.size + 1 + 1) 3 (.int .i64 0) (by omega)
    have hz8 : ((((((((w6.setCell ⟨w4.heap.size, 0, none⟩ (.slice b1 n1 j1)).setCell ⟨w4.heap.size, 1, none⟩ (.int .i64 mk)).setCell ⟨w4.heap.size, 2, none⟩ (.slice b2 n2 j2)).setCell ⟨w4.heap.size, 3, none⟩ (.int .i64 0)).setCell ⟨w.heap.size + 1 + 1, 0, none⟩ (.slice b1 n1 j1)).setCell ⟨w.heap.size + 1 + 1, 1, none⟩ (.int .i64 mk)).setCell ⟨w.heap.size + 1 + 1, 2, none⟩ (.slice b2 n2 j2)).setCell ⟨w.heap.size + 1 + 1, 3, none⟩ (.int .i64 0)).heap.size = w6.heap.size := by simp [World.setCell]
    have HOr : Hid (OwnV w.heap.size ((((((((w6.setCell ⟨w4.heap.size, 0, none⟩ (.slice b1 n1 j1)).setCell ⟨w4.heap.size, 1, none⟩ (.int .i64 mk)).setCell ⟨w4.heap.size, 2, none⟩ (.slice b2 n2 j2)).setCell ⟨w4.heap.size, 3, none⟩ (.int .i64 0)).setCell ⟨w.heap.size + 1 + 1, 0, none⟩ (.slice b1 n1 j1)).setCell ⟨w.heap.size + 1 + 1, 1, none⟩ (.int .i64 mk)).setCell ⟨w.heap.size + 1 + 1, 2, none⟩ (.slice b2 n2 j2)).setCell ⟨w.heap.size + 1 + 1, 3, none⟩ (.int .i64 0)).heap.size b1 B9 b2 L9 ((((((((w6.setCell ⟨w4.heap.size, 0, none⟩ (.slice b1 n1 j1)).setCell ⟨w4.heap.size, 1, none⟩ (.int .i64 mk)).setCell ⟨w4.heap.size, 2, none⟩ (.slice b2 n2 j2)).setCell ⟨w4.heap.size, 3, none⟩ (.int .i64 0)).setCell ⟨w.heap.size + 1 + 1, 0, none⟩ (.slice b1 n1 j1)).setCell ⟨w.heap.size + 1 + 1, 1, none⟩ (.int .i64 mk)).setCell ⟨w.heap.size + 1 + 1, 2, none⟩ (.slice b2 n2 j2)).setCell ⟨w.heap.size + 1 + 1, 3, none⟩ (.int .i64 0))) := by
      show OwnV w.heap.size ((((((((w6.setCell ⟨w4.heap.size, 0, none⟩ (.slice b1 n1 j1)).setCell ⟨w4.heap.size, 1, none⟩ (.int .i64 mk)).setCell ⟨w4.heap.size, 2, none⟩ (.slice b2 n2 j2)).setCell ⟨w4.heap.size, 3, none⟩ (.int .i64 0)).setCell ⟨w.heap.size + 1 + 1, 0, none⟩ (.slice b1 n1 j1)).setCell ⟨w.heap.size + 1 + 1, 1, none⟩ (.int .i64 mk)).setCell ⟨w.heap.size + 1 + 1, 2, none⟩ (.slice b2 n2 j2)).setCell ⟨w.heap.size + 1 + 1, 3, none⟩ (.int .i64 0)).heap.size b1 B9 b2 L9 ((((((((w6.setCell ⟨w4.heap.size, 0, none⟩ (.slice b1 n1 j1)).setCell ⟨w4.heap.size, 1, none⟩ (.int .i64 mk)).setCell ⟨w4.heap.size, 2, none⟩ (.slice b2 n2 j2)).setCell ⟨w4.heap.size, 3, none⟩ (.int .i64 0)).setCell ⟨w.heap.size + 1 + 1, 0, none⟩ (.slice b1 n1 j1)).setCell ⟨w.heap.size + 1 + 1, 1, none⟩ (.int .i64 mk)).setCell ⟨w.heap.size + 1 + 1, 2, none⟩ (.slice b2 n2 j2)).setCell ⟨w.heap.size + 1 + 1, 3, none⟩ (.int .i64 0))
      rw [hz8]
      exact ownV_lower hP7 (by omega)
    obtain ⟨⟨z0, z1, z2, z3⟩, f0, f1, f2, f3⟩ := hK6.cells
    clear hKr hP0 hP1 hP2 hP3 hP4 hP5 hP6 hP7 hK7 ho6 b6 hz8
    go_wp2_with fail
    generalize ((((((((w6.setCell ⟨w4.heap.size, 0, none⟩ (.slice b1 n1 j1)).setCell ⟨w4.heap.size, 1, none⟩ (.int .i64 mk)).setCell ⟨w4.heap.size, 2, none⟩ (.slice b2 n2 j2)).setCell ⟨w4.heap.size, 3, none⟩ (.int .i64 0)).setCell ⟨w.heap.size + 1 + 1, 0, none⟩ (.slice b1 n1 j1)).setCell ⟨w.heap.size + 1 + 1, 1, none⟩ (.int .i64 mk)).setCell ⟨w.heap.size + 1 + 1, 2, none⟩ (.slice b2 n2 j2)).setCell ⟨w.heap.size + 1 + 1, 3, none⟩ (.int .i64 0)) = XX at *
    refine bodyPost_ret (v := .tuple #[.agg #[.slice b1 n1 j1, .int .i64 mk, .slice b2 n2 j2, .int .i64 0], .bool true]) (by simp [results, Try.results22, go_sem, er0, er1, er2, er3]) rfl ?_
    exact HDO.out _ _ ⟨_, _, _, _, rfl, HOr.out, HBr.out⟩
  by_cases k5 : k = 5
  · subst k5
    have HEQ := hid (doV_five (B := B) (F := F) (L := L) (s := s) (o := ⟨5, p, n, D, m⟩) rfl (HRS.out (by omega)))
    by_cases hc : s ≤ m ∧ m ≤ L.length
    case neg =>
      have HNO : Hid (doV B F L s ⟨5, p, n, D, m⟩ = none) := by
        show doV B F L s ⟨5, p, n, D, m⟩ = none
        rw [HEQ.out]; unfold crashDo; rw [if_neg hc]
      by_cases h1 : s ≤ m
      · have q1 : decide (m < s) = false := decide_eq_false (by omega)
        have q2 : decide ((L.length : Int) < m) = true := decide_eq_true (by omega)
        clear hc HEQ h1
        have hKz := HK5.out.fill (.slice none 0 0) (.int .i64 0) (.slice none 0 0) (.int .i64 0)
        have ez0 : ((((W5.setCell ⟨w.heap.size + 1 + 1, 0, none⟩ (.slice none 0 0)).setCell ⟨w.heap.size + 1 + 1, 1, none⟩ (.int .i64 0)).setCell ⟨w.heap.size + 1 + 1, 2, none⟩ (.slice none 0 0)).setCell ⟨w.heap.size + 1 + 1, 3, none⟩ (.int .i64 0)).cell? ⟨w.heap.size + 1 + 1, 0, none⟩ = some (.slice none 0 0) := box_cell hKz.z 0
        have ez1 : ((((W5.setCell ⟨w.heap.size + 1 + 1, 0, none⟩ (.slice none 0 0)).setCell ⟨w.heap.size + 1 + 1, 1, none⟩ (.int .i64 0)).setCell ⟨w.heap.size + 1 + 1, 2, none⟩ (.slice none 0 0)).setCell ⟨w.heap.size + 1 + 1, 3, none⟩ (.int .i64 0)).cell? ⟨w.heap.size + 1 + 1, 1, none⟩ = some (.int .i64 0) := box_cell hKz.z 1
        have ez2 : ((((W5.setCell ⟨w.heap.size + 1 + 1, 0, none⟩ (.slice none 0 0)).setCell ⟨w.heap.size + 1 + 1, 1, none⟩ (.int .i64 0)).setCell ⟨w.heap.size + 1 + 1, 2, none⟩ (.slice none 0 0)).setCell ⟨w.heap.size + 1 + 1, 3, none⟩ (.int .i64 0)).cell? ⟨w.heap.size + 1 + 1, 2, none⟩ = some (.slice none 0 0) := box_cell hKz.z 2
        have ez3 : ((((W5.setCell ⟨w.heap.size + 1 + 1, 0, none⟩ (.slice none 0 0)).setCell ⟨w.heap.size + 1 + 1, 1, none⟩ (.int .i64 0)).setCell ⟨w.heap.size + 1 + 1, 2, none⟩ (.slice none 0 0)).setCell ⟨w.heap.size + 1 + 1, 3, none⟩ (.int .i64 0)).cell? ⟨w.heap.size + 1 + 1, 3, none⟩ = some (.int .i64 0) := box_cell hKz.z 3
        have HBz := hid hKz.below
        obtain ⟨⟨z0, z1, z2, z3⟩, f0, f1, f2, f3⟩ := HK5.out.cells
        clear hKz
        go_wp2_with fail
        generalize ((((W5.setCell ⟨w.heap.size + 1 + 1, 0, none⟩ (.slice none 0 0)).setCell ⟨w.heap.size + 1 + 1, 1, none⟩ (.int .i64 0)).setCell ⟨w.heap.size + 1 + 1, 2, none⟩ (.slice none 0 0)).setCell ⟨w.heap.size + 1 + 1, 3, none⟩ (.int .i64 0)) = XX at *
        refine bodyPost_ret (v := .tuple #[.agg #[.slice none 0 0, .int .i64 0, .slice none 0 0, .int .i64 0], .bool false]) (by simp [results, Try.results22, go_sem, ez0, ez1, ez2, ez3]) rfl ?_
        rw [HNO.out]
        exact ⟨rfl, HBz.out⟩
      · have q1 : decide (m < s) = true := decide_eq_true (by omega)
        clear hc HEQ h1
        have hKz := HK5.out.fill (.slice none 0 0) (.int .i64 0) (.slice none 0 0) (.int .i64 0)
        have ez0 : ((((W5.setCell ⟨w.heap.size + 1 + 1, 0, none⟩ (.slice none 0 0)).setCell ⟨w.heap.size + 1 + 1, 1, none⟩ (.int .i64 0)).setCell ⟨w.heap.size + 1 + 1, 2, none⟩ (.slice none 0 0)).setCell ⟨w.heap.size + 1 + 1, 3, none⟩ (.int .i64 0)).cell? ⟨w.heap.size + 1 + 1, 0, none⟩ = some (.slice none 0 0) := box_cell hKz.z 0
        have ez1 : ((((W5.setCell ⟨w.heap.size + 1 + 1, 0, none⟩ (.slice none 0 0)).setCell ⟨w.heap.size + 1 + 1, 1, none⟩ (.int .i64 0)).setCell ⟨w.heap.size + 1 + 1, 2, none⟩ (.slice none 0 0)).setCell ⟨w.heap.size + 1 + 1, 3, none⟩ (.int .i64 0)).cell? ⟨w.heap.size + 1 + 1, 1, none⟩ = some (.int .i64 0) := box_cell hKz.z 1
        have ez2 : ((((W5.setCell ⟨w.heap.size + 1 + 1, 0, none⟩ (.slice none 0 0)).setCell ⟨w.heap.size + 1 + 1, 1, none⟩ (.int .i64 0)).setCell ⟨w.heap.size + 1 + 1, 2, none⟩ (.slice none 0 0)).setCell ⟨w.heap.size + 1 + 1, 3, none⟩ (.int .i64 0)).cell? ⟨w.heap.size + 1 + 1, 2, none⟩ = some (.slice none 0 0) := box_cell hKz.z 2
        have ez3 : ((((W5.setCell ⟨w.heap.size + 1 + 1, 0, none⟩ (.slice none 0 0)).setCell ⟨w.heap.size + 1 + 1, 1, none⟩ (.int .i64 0)).setCell ⟨w.heap.size + 1 + 1, 2, none⟩ (.slice none 0 0)).setCell ⟨w.heap.size + 1 + 1, 3, none⟩ (.int .i64 0)).cell? ⟨w.heap.size + 1 + 1, 3, none⟩ = some (.int .i64 0) := box_cell hKz.z 3
        have HBz := hid hKz.below
        obtain ⟨⟨z0, z1, z2, z3⟩, f0, f1, f2, f3⟩ := HK5.out.cells
        clear hKz
        go_wp2_with fail
        generalize ((((W5.setCell ⟨w.heap.size + 1 + 1, 0, none⟩ (.slice none 0 0)).setCell ⟨w.heap.size + 1 + 1, 1, none⟩ (.int .i64 0)).setCell ⟨w.heap.size + 1 + 1, 2, none⟩ (.slice none 0 0)).setCell ⟨w.heap.size + 1 + 1, 3, none⟩ (.int .i64 0)) = XX at *
        refine bodyPost_ret (v := .tuple #[.agg #[.slice none 0 0, .int .i64 0, .slice none 0 0, .int .i64 0], .bool false]) (by simp [results, Try.results22, go_sem, ez0, ez1, ez2, ez3]) rfl ?_
        rw [HNO.out]
        exact ⟨rfl, HBz.out⟩
    obtain ⟨q, rfl⟩ : ∃ q : Nat, m = q := ⟨m.toNat, by have := hs0; omega⟩
    have hq : q ≤ L.length := by omega
    have q1 : decide ((q : Int) < s) = false := decide_eq_false (by omega)
    have q2 : decide ((L.length : Int) < (q : Int)) = false := decide_eq_false (by omega)
    have q3 : decide (L.length < q) = false := decide_eq_false (by omega)
    have HEQ2 : Hid (doV B F L s ⟨5, p, n, D, (q : Int)⟩ = some (B, F, L.take q, (q : Int))) := by
      show doV B F L s ⟨5, p, n, D, (q : Int)⟩ = _
      rw [HEQ.out]; unfold crashDo; rw [if_pos hc]; rfl
    obtain ⟨cc, hc1, hcr⟩ := HCR.out q hq
    have HC6 := hid (hcr W5 HK5.out.below)
    have hnq : (L.take q).length = q := by rw [List.length_take]; omega
    rw [hnq] at hc1 HC6
    clear hc HEQ hcr
    go_wp2_with fail
    refine HC6.out.mono ?_
    rintro e w6 ⟨b2, j2, rfl, ho6, b6⟩
    have hK6 := HK5.out.on b6
    have hX6 := (b6.block w4.heap.size hXDlt).trans HXD.out
    have hs6 := b6.size
    have hO6 : OV w3.heap.size W5.heap.size a1 c1 B b2 j2 (L.take q) w6 := ⟨by have := HOV.out.lm; have := HOV.out.mh; omega, hs6, rw_below HOV.out.base b6, fun g hg => by have := HBD.out g hg; omega, by rw [hnq]; exact ho6⟩
    clear d0 d1 d2 d3 g0 g1 g2 g3 x0 x1 x2 x3 o0 o1 o2 o3 o4
    have d0 : w6.cell? ⟨w4.heap.size, 0, none⟩ = some (.slice a1 B.length c1) := box_cell hX6 0
    have g0 : w6.frozen? ⟨w4.heap.size, 0, none⟩ = false := box_free hX6 0
    have d1 : w6.cell? ⟨w4.heap.size, 1, none⟩ = some (.int .i64 F) := box_cell hX6 1
    have g1 : w6.frozen? ⟨w4.heap.size, 1, none⟩ = false := box_free hX6 1
    have d2 : w6.cell? ⟨w4.heap.size, 2, none⟩ = some (.slice a2 L.length c2) := box_cell hX6 2
    have g2 : w6.frozen? ⟨w4.heap.size, 2, none⟩ = false := box_free hX6 2
    have d3 : w6.cell? ⟨w4.heap.size, 3, none⟩ = some (.int .i64 s) := box_cell hX6 3
    have g3 : w6.frozen? ⟨w4.heap.size, 3, none⟩ = false := box_free hX6 3
    have hlg : ∀ g, (Value.slice b2 (L.take q).length j2).ownBlock = some g → g ≠ w4.heap.size := fun g hg => by have := (hO6.log.lt g hg).1; omega
    have hO7 := (hO6.apart w4.heap.size 2 (.slice b2 q j2) (fun g hg => by have := HBD.out g hg; omega) hlg).apart w4.heap.size 3 (.int .i64 (q : Int)) (fun g hg => by have := HBD.out g hg; omega) hlg
    have hK7 := hK6.step (setB (setB (Below.refl (w.heap.size + 3) w6) w4.heap.size 2 hX3 (.slice b2 q j2)) w4.heap.size 3 hX3 (.int .i64 (q : Int)))
    have HDO : Hid (∀ e w', (∃ aB' kB' aL' kL', e = .returned (.tuple #[.agg #[.slice aB' B.length kB', .int .i64 F, .slice aL' q kL', .int .i64 (q : Int)], .bool true]) ∧ OwnV w.heap.size w'.heap.size aB' B aL' (L.take q) w' ∧ Below w.heap.size w w') → DOut (doV B F L s ⟨5, p, n, D, (q : Int)⟩) w e w') := fun e w' h => by
      rw [HEQ2.out]
      obtain ⟨x1, x2, x3, x4, h1, h2, h3⟩ := h
      exact ⟨x1, x2, x3, x4, by rw [h1, hnq], h2, h3⟩
    have hKr := hK7.fill (.slice a1 B.length c1) (.int .i64 F) (.slice b2 q j2) (.int .i64 (q : Int))
    have er0 : ((((((w6.setCell ⟨w4.heap.size, 2, none⟩ (.slice b2 q j2)).setCell ⟨w4.heap.size, 3, none⟩ (.int .i64 (q : Int))).setCell ⟨w.heap.size + 1 + 1, 0, none⟩ (.slice a1 B.length c1)).setCell ⟨w.heap.size + 1 + 1, 1, none⟩ (.int .i64 F)).setCell ⟨w.heap.size + 1 + 1, 2, none⟩ (.slice b2 q j2)).setCell ⟨w.heap.size + 1 + 1, 3, none⟩ (.int .i64 (q : Int))).cell? ⟨w.heap.size + 1 + 1, 0, none⟩ = some (.slice a1 B.length c1) := box_cell hKr.z 0
    have er1 : ((((((w6.setCell ⟨w4.heap.size, 2, none⟩ (.slice b2 q j2)).setCell ⟨w4.heap.size, 3, none⟩ (.int .i64 (q : Int))).setCell ⟨w.heap.size + 1 + 1, 0, none⟩ (.slice a1 B.length c1)).setCell ⟨w.heap.size + 1 + 1, 1, none⟩ (.int .i64 F)).setCell ⟨w.heap.size + 1 + 1, 2, none⟩ (.slice b2 q j2)).setCell ⟨w.heap.size + 1 + 1, 3, none⟩ (.int .i64 (q : Int))).cell? ⟨w.heap.size + 1 + 1, 1, none⟩ = some (.int .i64 F) := box_cell hKr.z 1
    have er2 : ((((((w6.setCell ⟨w4.heap.size, 2, none⟩ (.slice b2 q j2)).setCell ⟨w4.heap.size, 3, none⟩ (.int .i64 (q : Int))).setCell ⟨w.heap.size + 1 + 1, 0, none⟩ (.slice a1 B.length c1)).setCell ⟨w.heap.size + 1 + 1, 1, none⟩ (.int .i64 F)).setCell ⟨w.heap.size + 1 + 1, 2, none⟩ (.slice b2 q j2)).setCell ⟨w.heap.size + 1 + 1, 3, none⟩ (.int .i64 (q : Int))).cell? ⟨w.heap.size + 1 + 1, 2, none⟩ = some (.slice b2 q j2) := box_cell hKr.z 2
    have er3 : ((((((w6.setCell ⟨w4.heap.size, 2, none⟩ (.slice b2 q j2)).setCell ⟨w4.heap.size, 3, none⟩ (.int .i64 (q : Int))).setCell ⟨w.heap.size + 1 + 1, 0, none⟩ (.slice a1 B.length c1)).setCell ⟨w.heap.size + 1 + 1, 1, none⟩ (.int .i64 F)).setCell ⟨w.heap.size + 1 + 1, 2, none⟩ (.slice b2 q j2)).setCell ⟨w.heap.size + 1 + 1, 3, none⟩ (.int .i64 (q : Int))).cell? ⟨w.heap.size + 1 + 1, 3, none⟩ = some (.int .i64 (q : Int)) := box_cell hKr.z 3
    have HBr := hid hKr.below
    have hOr := (((hO7.set (w.heap.size + 1 + 1) 0 (.slice a1 B.length c1) (by omega)).set (w.heap.size + 1 + 1) 1 (.int .i64 F) (by omega)).set (w.heap.size + 1 + 1) 2 (.slice b2 q j2) (by omega)).set (w.heap.size + 1 + 1) 3 (.int .i64 (q : Int)) (by omega)
    have HOr := hid (hOr.lower (show w.heap.size ≤ w3.heap.size by omega)).own
    obtain ⟨⟨z0, z1, z2, z3⟩, f0, f1, f2, f3⟩ := hK6.cells
    have HNQ := hid hnq
    clear hKr hOr hK7 hO7 hO6 ho6 b6 hlg hnq
    go_wp2_with fail
    generalize ((((((w6.setCell ⟨w4.heap.size, 2, none⟩ (.slice b2 q j2)).setCell ⟨w4.heap.size, 3, none⟩ (.int .i64 (q : Int))).setCell ⟨w.heap.size + 1 + 1, 0, none⟩ (.slice a1 B.length c1)).setCell ⟨w.heap.size + 1 + 1, 1, none⟩ (.int .i64 F)).setCell ⟨w.heap.size + 1 + 1, 2, none⟩ (.slice b2 q j2)).setCell ⟨w.heap.size + 1 + 1, 3, none⟩ (.int .i64 (q : Int))) = XX at *
    refine bodyPost_ret (v := .tuple #[.agg #[.slice a1 B.length c1, .int .i64 F, .slice b2 q j2, .int .i64 (q : Int)], .bool true]) (by simp [results, Try.results22, go_sem, er0, er1, er2, er3]) rfl ?_
    exact HDO.out _ _ ⟨_, _, _, _, rfl, HOr.out, HBr.out⟩
  by_cases kk1 : k = 1
  · subst kk1
    have hXw := hXDlt
    have hXb := HXD.out
    have hOb := HOV.out
    clear d0 d1 d2 d3 g0 g1 g2 g3 x0 x1 x2 x3
    go_wp2_with fail
    refine (HRF.out _).mono ?_
    rintro e w6 ⟨rfl, b6⟩
    have hK6 := HK5.out.on b6
    have hX6 := (b6.block w4.heap.size hXw).trans hXb
    have hs6 := b6.size
    have hO6 := hOb.below b6
    clear b6
    cases hr : recOk ⟨1, p, n, D, m⟩
    · rw [recV_no hr]
      have HNO : Hid (doV B F L s ⟨1, p, n, D, m⟩ = none) := (doV_rec (o := ⟨1, p, n, D, m⟩) (show (1 : Int) ≤ 1 ∧ (1 : Int) ≤ 3 by omega)).trans (recDo_no hr)
      have HK7 := hid (hK6.on (boxB w6 (.cells #[.int .i64 0, .int .i64 0, .int .i64 0, .string ⟨#[]⟩] 58)))
      clear hr hK6 hX6 hO6
      have hKz := HK7.out.fill (.slice none 0 0) (.int .i64 0) (.slice none 0 0) (.int .i64 0)
      have ez0 : (((((w6.alloc (.cells #[.int .i64 0, .int .i64 0, .int .i64 0, .string ⟨#[]⟩] 58)).setCell ⟨w.heap.size + 1 + 1, 0, none⟩ (.slice none 0 0)).setCell ⟨w.heap.size + 1 + 1, 1, none⟩ (.int .i64 0)).setCell ⟨w.heap.size + 1 + 1, 2, none⟩ (.slice none 0 0)).setCell ⟨w.heap.size + 1 + 1, 3, none⟩ (.int .i64 0)).cell? ⟨w.heap.size + 1 + 1, 0, none⟩ = some (.slice none 0 0) := box_cell hKz.z 0
      have ez1 : (((((w6.alloc (.cells #[.int .i64 0, .int .i64 0, .int .i64 0, .string ⟨#[]⟩] 58)).setCell ⟨w.heap.size + 1 + 1, 0, none⟩ (.slice none 0 0)).setCell ⟨w.heap.size + 1 + 1, 1, none⟩ (.int .i64 0)).setCell ⟨w.heap.size + 1 + 1, 2, none⟩ (.slice none 0 0)).setCell ⟨w.heap.size + 1 + 1, 3, none⟩ (.int .i64 0)).cell? ⟨w.heap.size + 1 + 1, 1, none⟩ = some (.int .i64 0) := box_cell hKz.z 1
      have ez2 : (((((w6.alloc (.cells #[.int .i64 0, .int .i64 0, .int .i64 0, .string ⟨#[]⟩] 58)).setCell ⟨w.heap.size + 1 + 1, 0, none⟩ (.slice none 0 0)).setCell ⟨w.heap.size + 1 + 1, 1, none⟩ (.int .i64 0)).setCell ⟨w.heap.size + 1 + 1, 2, none⟩ (.slice none 0 0)).setCell ⟨w.heap.size + 1 + 1, 3, none⟩ (.int .i64 0)).cell? ⟨w.heap.size + 1 + 1, 2, none⟩ = some (.slice none 0 0) := box_cell hKz.z 2
      have ez3 : (((((w6.alloc (.cells #[.int .i64 0, .int .i64 0, .int .i64 0, .string ⟨#[]⟩] 58)).setCell ⟨w.heap.size + 1 + 1, 0, none⟩ (.slice none 0 0)).setCell ⟨w.heap.size + 1 + 1, 1, none⟩ (.int .i64 0)).setCell ⟨w.heap.size + 1 + 1, 2, none⟩ (.slice none 0 0)).setCell ⟨w.heap.size + 1 + 1, 3, none⟩ (.int .i64 0)).cell? ⟨w.heap.size + 1 + 1, 3, none⟩ = some (.int .i64 0) := box_cell hKz.z 3
      have HBz := hid hKz.below
      obtain ⟨⟨z0, z1, z2, z3⟩, f0, f1, f2, f3⟩ := HK7.out.cells
      clear hKz
      go_wp2_with fail
      generalize (((((w6.alloc (.cells #[.int .i64 0, .int .i64 0, .int .i64 0, .string ⟨#[]⟩] 58)).setCell ⟨w.heap.size + 1 + 1, 0, none⟩ (.slice none 0 0)).setCell ⟨w.heap.size + 1 + 1, 1, none⟩ (.int .i64 0)).setCell ⟨w.heap.size + 1 + 1, 2, none⟩ (.slice none 0 0)).setCell ⟨w.heap.size + 1 + 1, 3, none⟩ (.int .i64 0)) = XX at *
      refine bodyPost_ret (v := .tuple #[.agg #[.slice none 0 0, .int .i64 0, .slice none 0 0, .int .i64 0], .bool false]) (by simp [results, Try.results22, go_sem, ez0, ez1, ez2, ez3]) rfl ?_
      rw [HNO.out]
      exact ⟨rfl, HBz.out⟩
    rw [recV_yes hr]
    have b7 := boxB w6 (.cells #[.int .i64 1, .int .i64 p, .int .i64 n, .string D] 58)
    have hK7 := hK6.on b7
    have hX7 := (b7.block w4.heap.size (by omega)).trans hX6
    have hO7 := hO6.below b7
    have hR7 : (w6.alloc (.cells #[.int .i64 1, .int .i64 p, .int .i64 n, .string D] 58)).heap[w6.heap.size]? = some (.cells #[.int .i64 1, .int .i64 p, .int .i64 n, .string D] 58) := heap_last _ _
    have hz7 : (w6.alloc (.cells #[.int .i64 1, .int .i64 p, .int .i64 n, .string D] 58)).heap.size = w6.heap.size + 1 := heap_size _ _
    generalize hW7 : w6.alloc (.cells #[.int .i64 1, .int .i64 p, .int .i64 n, .string D] 58) = W7 at *
    clear b7 hK6 hX6 hO6
    by_cases h40 : L.length = 40
    · have HNO : Hid (doV B F L s ⟨1, p, n, D, m⟩ = none) := by
        show doV B F L s ⟨1, p, n, D, m⟩ = none
        rw [doV_rec (o := ⟨1, p, n, D, m⟩) (show (1 : Int) ≤ 1 ∧ (1 : Int) ≤ 3 by omega)]; unfold recDo; rw [if_neg (fun g => g.2.1 h40)]
      have q40 : ((L.length : Int) == 40) = true := by rw [h40]; rfl
      have q41 : decide ((L.length : Int) = 40) = true := decide_eq_true (by omega)
      have q42 : decide (L.length = 40) = true := decide_eq_true h40
      have q43 : (L.length == 40) = true := by rw [h40]; rfl
      obtain ⟨x0, x1, x2, x3⟩ := hK7.vol
      have HK7 := hid hK7
      clear hr h40 hK7 hX7 hO7 hR7
      have hKz := HK7.out.fill (.slice none 0 0) (.int .i64 0) (.slice none 0 0) (.int .i64 0)
      have ez0 : ((((W7.setCell ⟨w.heap.size + 1 + 1, 0, none⟩ (.slice none 0 0)).setCell ⟨w.heap.size + 1 + 1, 1, none⟩ (.int .i64 0)).setCell ⟨w.heap.size + 1 + 1, 2, none⟩ (.slice none 0 0)).setCell ⟨w.heap.size + 1 + 1, 3, none⟩ (.int .i64 0)).cell? ⟨w.heap.size + 1 + 1, 0, none⟩ = some (.slice none 0 0) := box_cell hKz.z 0
      have ez1 : ((((W7.setCell ⟨w.heap.size + 1 + 1, 0, none⟩ (.slice none 0 0)).setCell ⟨w.heap.size + 1 + 1, 1, none⟩ (.int .i64 0)).setCell ⟨w.heap.size + 1 + 1, 2, none⟩ (.slice none 0 0)).setCell ⟨w.heap.size + 1 + 1, 3, none⟩ (.int .i64 0)).cell? ⟨w.heap.size + 1 + 1, 1, none⟩ = some (.int .i64 0) := box_cell hKz.z 1
      have ez2 : ((((W7.setCell ⟨w.heap.size + 1 + 1, 0, none⟩ (.slice none 0 0)).setCell ⟨w.heap.size + 1 + 1, 1, none⟩ (.int .i64 0)).setCell ⟨w.heap.size + 1 + 1, 2, none⟩ (.slice none 0 0)).setCell ⟨w.heap.size + 1 + 1, 3, none⟩ (.int .i64 0)).cell? ⟨w.heap.size + 1 + 1, 2, none⟩ = some (.slice none 0 0) := box_cell hKz.z 2
      have ez3 : ((((W7.setCell ⟨w.heap.size + 1 + 1, 0, none⟩ (.slice none 0 0)).setCell ⟨w.heap.size + 1 + 1, 1, none⟩ (.int .i64 0)).setCell ⟨w.heap.size + 1 + 1, 2, none⟩ (.slice none 0 0)).setCell ⟨w.heap.size + 1 + 1, 3, none⟩ (.int .i64 0)).cell? ⟨w.heap.size + 1 + 1, 3, none⟩ = some (.int .i64 0) := box_cell hKz.z 3
      have HBz := hid hKz.below
      obtain ⟨⟨z0, z1, z2, z3⟩, f0, f1, f2, f3⟩ := HK7.out.cells
      clear hKz
      go_wp2_with fail
      generalize ((((W7.setCell ⟨w.heap.size + 1 + 1, 0, none⟩ (.slice none 0 0)).setCell ⟨w.heap.size + 1 + 1, 1, none⟩ (.int .i64 0)).setCell ⟨w.heap.size + 1 + 1, 2, none⟩ (.slice none 0 0)).setCell ⟨w.heap.size + 1 + 1, 3, none⟩ (.int .i64 0)) = XX at *
      refine bodyPost_ret (v := .tuple #[.agg #[.slice none 0 0, .int .i64 0, .slice none 0 0, .int .i64 0], .bool false]) (by simp [results, Try.results22, go_sem, ez0, ez1, ez2, ez3]) rfl ?_
      rw [HNO.out]
      exact ⟨rfl, HBz.out⟩
    have q40 : ((L.length : Int) == 40) = false := beq_eq_false_iff_ne.2 (by omega)
    have q41 : decide ((L.length : Int) = 40) = false := decide_eq_false (by omega)
    have q42 : decide (L.length = 40) = false := decide_eq_false h40
    have q43 : (L.length == 40) = false := beq_eq_false_iff_ne.2 h40
    have HEQ : Hid (doV B F L s ⟨1, p, n, D, m⟩ = some (B, F, L ++ [opR ⟨1, p, n, D, m⟩], s)) := by
      show doV B F L s ⟨1, p, n, D, m⟩ = _
      rw [doV_rec (o := ⟨1, p, n, D, m⟩) (show (1 : Int) ≤ 1 ∧ (1 : Int) ≤ 3 by omega)]; unfold recDo; rw [if_pos ⟨hr, h40, fun g => by cases g⟩]
    have hRs : Rs (W7.alloc (.cells #[.int .i64 1, .int .i64 p, .int .i64 n, .string D] 58)).heap.size (some ⟨W7.heap.size, 0, none⟩) [opR ⟨1, p, n, D, m⟩] (W7.alloc (.cells #[.int .i64 1, .int .i64 p, .int .i64 n, .string D] 58)) := by
      have := rrow_one W7 (opR ⟨1, p, n, D, m⟩)
      have hD : str (opR ⟨1, p, n, D, m⟩).data = D := str_back D
      rw [hD] at this
      exact this
    have b8 := boxB W7 (.cells #[.int .i64 1, .int .i64 p, .int .i64 n, .string D] 58)
    obtain ⟨v9, w9, r9, o9, g9, gb9⟩ := app_rec (W7.alloc (.cells #[.int .i64 1, .int .i64 p, .int .i64 n, .string D] 58)) mid (.slice a2 L.length c2) L.length (rvals L) (rw_below hO7.log b8) (some ⟨W7.heap.size, 0, none⟩) 1 [opR ⟨1, p, n, D, m⟩] hRs (by show L.length + 1 ≤ 10000; omega) (by have := hO7.mh; have := b8.size; omega)
    obtain ⟨a9, c9, rfl⟩ := rw_form o9
    have hmid : w.heap.size + 3 ≤ mid := by have := hO7.lm; omega
    have g9b := below_of_grown (lo := mid) g9 (by have := hO7.mh; have := b8.size; omega) (fun j hj => (hO7.log.lt j hj).1)
    have hK9 := (hK7.on b8).step (g9b.mono hmid)
    have hne9 : ∀ g, (Value.slice a2 L.length c2).ownBlock = some g → g ≠ w4.heap.size := fun g hg => by have := HLD.out g hg; omega
    have hX9 := (g9.block w4.heap.size (by have := b8.size; omega) (fun e9 => hne9 _ e9.symm rfl)).trans ((b8.block w4.heap.size (by omega)).trans hX7)
    have hl1 : (L ++ [opR ⟨1, p, n, D, m⟩]).length = L.length + 1 := by rw [List.length_append]; rfl
    have hO9 : OV w3.heap.size mid a1 c1 B a9 c9 (L ++ [opR ⟨1, p, n, D, m⟩]) w9 := by
      refine ⟨hO7.lm, by have := hO7.mh; have := b8.size; have := g9.size; omega, rw_keep (rw_below hO7.base b8) (fun g hg => g9.block g (by have := (rw_below hO7.base b8).lt g hg; exact this.2) (fun e9 => ?_)), hO7.low, ?_⟩
      · have h8 := hO7.low g hg
        have h9 := (hO7.log.lt g e9.symm).1
        omega
      · rw [hl1, rvals_snoc]; exact o9
    have hlg : ∀ g, (Value.slice a9 (L ++ [opR ⟨1, p, n, D, m⟩]).length c9).ownBlock = some g → g ≠ w4.heap.size := fun g hg => by
      rw [hl1] at hg
      rcases gb9 with h8 | h8
      · exact hne9 g (by rw [← h8]; exact hg)
      · have h7 : (Value.slice a9 (L.length + 1) c9).ownBlock = some g := hg
        have h6 := h8.symm.trans h7
        injection h6 with h6
        have h5 : (W7.alloc (.cells #[.int .i64 1, .int .i64 p, .int .i64 n, .string D] 58)).heap.size = W7.heap.size + 1 := heap_size _ _
        omega
    have hO10 := hO9.apart w4.heap.size 2 (.slice a9 (L.length + 1) c9) (fun g hg => by have := HBD.out g hg; omega) hlg
    have hK10 := hK9.step (setB (Below.refl (w.heap.size + 3) w9) w4.heap.size 2 hX3 (.slice a9 (L.length + 1) c9))
    have d0 : w9.cell? ⟨w4.heap.size, 0, none⟩ = some (.slice a1 B.length c1) := box_cell hX9 0
    have g0 : w9.frozen? ⟨w4.heap.size, 0, none⟩ = false := box_free hX9 0
    have d1 : w9.cell? ⟨w4.heap.size, 1, none⟩ = some (.int .i64 F) := box_cell hX9 1
    have g1 : w9.frozen? ⟨w4.heap.size, 1, none⟩ = false := box_free hX9 1
    have d2 : w9.cell? ⟨w4.heap.size, 2, none⟩ = some (.slice a2 L.length c2) := box_cell hX9 2
    have g2 : w9.frozen? ⟨w4.heap.size, 2, none⟩ = false := box_free hX9 2
    have d3 : w9.cell? ⟨w4.heap.size, 3, none⟩ = some (.int .i64 s) := box_cell hX9 3
    have g3 : w9.frozen? ⟨w4.heap.size, 3, none⟩ = false := box_free hX9 3
    have dd2 : W7.cell? ⟨w4.heap.size, 2, none⟩ = some (.slice a2 L.length c2) := box_cell hX7 2
    have rr0 : W7.cell? ⟨w6.heap.size, 0, none⟩ = some (.int .i64 1) := box_cell hR7 0
    have rr1 : W7.cell? ⟨w6.heap.size, 1, none⟩ = some (.int .i64 p) := box_cell hR7 1
    have rr2 : W7.cell? ⟨w6.heap.size, 2, none⟩ = some (.int .i64 n) := box_cell hR7 2
    have rr3 : W7.cell? ⟨w6.heap.size, 3, none⟩ = some (.string D) := box_cell hR7 3
    have hKr := hK10.fill (.slice a1 B.length c1) (.int .i64 F) (.slice a9 (L.length + 1) c9) (.int .i64 s)
    have er0 : (((((w9.setCell ⟨w4.heap.size, 2, none⟩ (.slice a9 (L.length + 1) c9)).setCell ⟨w.heap.size + 1 + 1, 0, none⟩ (.slice a1 B.length c1)).setCell ⟨w.heap.size + 1 + 1, 1, none⟩ (.int .i64 F)).setCell ⟨w.heap.size + 1 + 1, 2, none⟩ (.slice a9 (L.length + 1) c9)).setCell ⟨w.heap.size + 1 + 1, 3, none⟩ (.int .i64 s)).cell? ⟨w.heap.size + 1 + 1, 0, none⟩ = some (.slice a1 B.length c1) := box_cell hKr.z 0
    have er1 : (((((w9.setCell ⟨w4.heap.size, 2, none⟩ (.slice a9 (L.length + 1) c9)).setCell ⟨w.heap.size + 1 + 1, 0, none⟩ (.slice a1 B.length c1)).setCell ⟨w.heap.size + 1 + 1, 1, none⟩ (.int .i64 F)).setCell ⟨w.heap.size + 1 + 1, 2, none⟩ (.slice a9 (L.length + 1) c9)).setCell ⟨w.heap.size + 1 + 1, 3, none⟩ (.int .i64 s)).cell? ⟨w.heap.size + 1 + 1, 1, none⟩ = some (.int .i64 F) := box_cell hKr.z 1
    have er2 : (((((w9.setCell ⟨w4.heap.size, 2, none⟩ (.slice a9 (L.length + 1) c9)).setCell ⟨w.heap.size + 1 + 1, 0, none⟩ (.slice a1 B.length c1)).setCell ⟨w.heap.size + 1 + 1, 1, none⟩ (.int .i64 F)).setCell ⟨w.heap.size + 1 + 1, 2, none⟩ (.slice a9 (L.length + 1) c9)).setCell ⟨w.heap.size + 1 + 1, 3, none⟩ (.int .i64 s)).cell? ⟨w.heap.size + 1 + 1, 2, none⟩ = some (.slice a9 (L.length + 1) c9) := box_cell hKr.z 2
    have er3 : (((((w9.setCell ⟨w4.heap.size, 2, none⟩ (.slice a9 (L.length + 1) c9)).setCell ⟨w.heap.size + 1 + 1, 0, none⟩ (.slice a1 B.length c1)).setCell ⟨w.heap.size + 1 + 1, 1, none⟩ (.int .i64 F)).setCell ⟨w.heap.size + 1 + 1, 2, none⟩ (.slice a9 (L.length + 1) c9)).setCell ⟨w.heap.size + 1 + 1, 3, none⟩ (.int .i64 s)).cell? ⟨w.heap.size + 1 + 1, 3, none⟩ = some (.int .i64 s) := box_cell hKr.z 3
    have HBr := hid hKr.below
    have hOr := (((hO10.set (w.heap.size + 1 + 1) 0 (.slice a1 B.length c1) (by omega)).set (w.heap.size + 1 + 1) 1 (.int .i64 F) (by omega)).set (w.heap.size + 1 + 1) 2 (.slice a9 (L.length + 1) c9) (by omega)).set (w.heap.size + 1 + 1) 3 (.int .i64 s) (by omega)
    have HOr := hid (hOr.lower (show w.heap.size ≤ w3.heap.size by omega)).own
    have HDO : Hid (∀ e w', (∃ aB' kB' aL' kL', e = .returned (.tuple #[.agg #[.slice aB' B.length kB', .int .i64 F, .slice aL' (L.length + 1) kL', .int .i64 s], .bool true]) ∧ OwnV w.heap.size w'.heap.size aB' B aL' (L ++ [opR ⟨1, p, n, D, m⟩]) w' ∧ Below w.heap.size w w') → DOut (doV B F L s ⟨1, p, n, D, m⟩) w e w') := fun e w' h => by
      rw [HEQ.out]
      obtain ⟨x1, x2, x3, x4, h1, h2, h3⟩ := h
      exact ⟨x1, x2, x3, x4, by rw [h1, hl1], h2, h3⟩
    obtain ⟨⟨z0, z1, z2, z3⟩, f0, f1, f2, f3⟩ := hK9.cells
    obtain ⟨y0, y1, y2, y3⟩ := hK7.vol
    clear hKr hOr hK10 hO10 hO9 hlg o9 g9 gb9 g9b hK9 hX9 hne9 hRs b8 hO7 hK7 hX7 hR7 hz7 hl1 hr h40
    go_wp2_with (at_builtin; refine wpList_append_run rfl (.tmp 58) (.tmp 60) 25 rfl _ _ rfl rfl _ _ r9 ?_)
    generalize (((((w9.setCell ⟨w4.heap.size, 2, none⟩ (.slice a9 (L.length + 1) c9)).setCell ⟨w.heap.size + 1 + 1, 0, none⟩ (.slice a1 B.length c1)).setCell ⟨w.heap.size + 1 + 1, 1, none⟩ (.int .i64 F)).setCell ⟨w.heap.size + 1 + 1, 2, none⟩ (.slice a9 (L.length + 1) c9)).setCell ⟨w.heap.size + 1 + 1, 3, none⟩ (.int .i64 s)) = XX at *
    refine bodyPost_ret (v := .tuple #[.agg #[.slice a1 B.length c1, .int .i64 F, .slice a9 (L.length + 1) c9, .int .i64 s], .bool true]) (by simp [results, Try.results22, go_sem, er0, er1, er2, er3]) rfl ?_
    exact HDO.out _ _ ⟨_, _, _, _, rfl, HOr.out, HBr.out⟩
  by_cases kk2 : k = 2
  · subst kk2
    have hXw := hXDlt
    have hXb := HXD.out
    have hOb := HOV.out
    clear d0 d1 d2 d3 g0 g1 g2 g3 x0 x1 x2 x3
    go_wp2_with fail
    refine (HRF.out _).mono ?_
    rintro e w6 ⟨rfl, b6⟩
    have hK6 := HK5.out.on b6
    have hX6 := (b6.block w4.heap.size hXw).trans hXb
    have hs6 := b6.size
    have hO6 := hOb.below b6
    clear b6
    cases hr : recOk ⟨2, p, n, D, m⟩
    · rw [recV_no hr]
      have HNO : Hid (doV B F L s ⟨2, p, n, D, m⟩ = none) := (doV_rec (o := ⟨2, p, n, D, m⟩) (show (1 : Int) ≤ 2 ∧ (2 : Int) ≤ 3 by omega)).trans (recDo_no hr)
      have HK7 := hid (hK6.on (boxB w6 (.cells #[.int .i64 0, .int .i64 0, .int .i64 0, .string ⟨#[]⟩] 58)))
      clear hr hK6 hX6 hO6
      have hKz := HK7.out.fill (.slice none 0 0) (.int .i64 0) (.slice none 0 0) (.int .i64 0)
      have ez0 : (((((w6.alloc (.cells #[.int .i64 0, .int .i64 0, .int .i64 0, .string ⟨#[]⟩] 58)).setCell ⟨w.heap.size + 1 + 1, 0, none⟩ (.slice none 0 0)).setCell ⟨w.heap.size + 1 + 1, 1, none⟩ (.int .i64 0)).setCell ⟨w.heap.size + 1 + 1, 2, none⟩ (.slice none 0 0)).setCell ⟨w.heap.size + 1 + 1, 3, none⟩ (.int .i64 0)).cell? ⟨w.heap.size + 1 + 1, 0, none⟩ = some (.slice none 0 0) := box_cell hKz.z 0
      have ez1 : (((((w6.alloc (.cells #[.int .i64 0, .int .i64 0, .int .i64 0, .string ⟨#[]⟩] 58)).setCell ⟨w.heap.size + 1 + 1, 0, none⟩ (.slice none 0 0)).setCell ⟨w.heap.size + 1 + 1, 1, none⟩ (.int .i64 0)).setCell ⟨w.heap.size + 1 + 1, 2, none⟩ (.slice none 0 0)).setCell ⟨w.heap.size + 1 + 1, 3, none⟩ (.int .i64 0)).cell? ⟨w.heap.size + 1 + 1, 1, none⟩ = some (.int .i64 0) := box_cell hKz.z 1
      have ez2 : (((((w6.alloc (.cells #[.int .i64 0, .int .i64 0, .int .i64 0, .string ⟨#[]⟩] 58)).setCell ⟨w.heap.size + 1 + 1, 0, none⟩ (.slice none 0 0)).setCell ⟨w.heap.size + 1 + 1, 1, none⟩ (.int .i64 0)).setCell ⟨w.heap.size + 1 + 1, 2, none⟩ (.slice none 0 0)).setCell ⟨w.heap.size + 1 + 1, 3, none⟩ (.int .i64 0)).cell? ⟨w.heap.size + 1 + 1, 2, none⟩ = some (.slice none 0 0) := box_cell hKz.z 2
      have ez3 : (((((w6.alloc (.cells #[.int .i64 0, .int .i64 0, .int .i64 0, .string ⟨#[]⟩] 58)).setCell ⟨w.heap.size + 1 + 1, 0, none⟩ (.slice none 0 0)).setCell ⟨w.heap.size + 1 + 1, 1, none⟩ (.int .i64 0)).setCell ⟨w.heap.size + 1 + 1, 2, none⟩ (.slice none 0 0)).setCell ⟨w.heap.size + 1 + 1, 3, none⟩ (.int .i64 0)).cell? ⟨w.heap.size + 1 + 1, 3, none⟩ = some (.int .i64 0) := box_cell hKz.z 3
      have HBz := hid hKz.below
      obtain ⟨⟨z0, z1, z2, z3⟩, f0, f1, f2, f3⟩ := HK7.out.cells
      clear hKz
      go_wp2_with fail
      generalize (((((w6.alloc (.cells #[.int .i64 0, .int .i64 0, .int .i64 0, .string ⟨#[]⟩] 58)).setCell ⟨w.heap.size + 1 + 1, 0, none⟩ (.slice none 0 0)).setCell ⟨w.heap.size + 1 + 1, 1, none⟩ (.int .i64 0)).setCell ⟨w.heap.size + 1 + 1, 2, none⟩ (.slice none 0 0)).setCell ⟨w.heap.size + 1 + 1, 3, none⟩ (.int .i64 0)) = XX at *
      refine bodyPost_ret (v := .tuple #[.agg #[.slice none 0 0, .int .i64 0, .slice none 0 0, .int .i64 0], .bool false]) (by simp [results, Try.results22, go_sem, ez0, ez1, ez2, ez3]) rfl ?_
      rw [HNO.out]
      exact ⟨rfl, HBz.out⟩
    rw [recV_yes hr]
    have b7 := boxB w6 (.cells #[.int .i64 2, .int .i64 p, .int .i64 n, .string D] 58)
    have hK7 := hK6.on b7
    have hX7 := (b7.block w4.heap.size (by omega)).trans hX6
    have hO7 := hO6.below b7
    have hR7 : (w6.alloc (.cells #[.int .i64 2, .int .i64 p, .int .i64 n, .string D] 58)).heap[w6.heap.size]? = some (.cells #[.int .i64 2, .int .i64 p, .int .i64 n, .string D] 58) := heap_last _ _
    have hz7 : (w6.alloc (.cells #[.int .i64 2, .int .i64 p, .int .i64 n, .string D] 58)).heap.size = w6.heap.size + 1 := heap_size _ _
    generalize hW7 : w6.alloc (.cells #[.int .i64 2, .int .i64 p, .int .i64 n, .string D] 58) = W7 at *
    clear b7 hK6 hX6 hO6
    by_cases h40 : L.length = 40
    · have HNO : Hid (doV B F L s ⟨2, p, n, D, m⟩ = none) := by
        show doV B F L s ⟨2, p, n, D, m⟩ = none
        rw [doV_rec (o := ⟨2, p, n, D, m⟩) (show (1 : Int) ≤ 2 ∧ (2 : Int) ≤ 3 by omega)]; unfold recDo; rw [if_neg (fun g => g.2.1 h40)]
      have q40 : ((L.length : Int) == 40) = true := by rw [h40]; rfl
      have q41 : decide ((L.length : Int) = 40) = true := decide_eq_true (by omega)
      have q42 : decide (L.length = 40) = true := decide_eq_true h40
      have q43 : (L.length == 40) = true := by rw [h40]; rfl
      obtain ⟨x0, x1, x2, x3⟩ := hK7.vol
      have HK7 := hid hK7
      clear hr h40 hK7 hX7 hO7 hR7
      have hKz := HK7.out.fill (.slice none 0 0) (.int .i64 0) (.slice none 0 0) (.int .i64 0)
      have ez0 : ((((W7.setCell ⟨w.heap.size + 1 + 1, 0, none⟩ (.slice none 0 0)).setCell ⟨w.heap.size + 1 + 1, 1, none⟩ (.int .i64 0)).setCell ⟨w.heap.size + 1 + 1, 2, none⟩ (.slice none 0 0)).setCell ⟨w.heap.size + 1 + 1, 3, none⟩ (.int .i64 0)).cell? ⟨w.heap.size + 1 + 1, 0, none⟩ = some (.slice none 0 0) := box_cell hKz.z 0
      have ez1 : ((((W7.setCell ⟨w.heap.size + 1 + 1, 0, none⟩ (.slice none 0 0)).setCell ⟨w.heap.size + 1 + 1, 1, none⟩ (.int .i64 0)).setCell ⟨w.heap.size + 1 + 1, 2, none⟩ (.slice none 0 0)).setCell ⟨w.heap.size + 1 + 1, 3, none⟩ (.int .i64 0)).cell? ⟨w.heap.size + 1 + 1, 1, none⟩ = some (.int .i64 0) := box_cell hKz.z 1
      have ez2 : ((((W7.setCell ⟨w.heap.size + 1 + 1, 0, none⟩ (.slice none 0 0)).setCell ⟨w.heap.size + 1 + 1, 1, none⟩ (.int .i64 0)).setCell ⟨w.heap.size + 1 + 1, 2, none⟩ (.slice none 0 0)).setCell ⟨w.heap.size + 1 + 1, 3, none⟩ (.int .i64 0)).cell? ⟨w.heap.size + 1 + 1, 2, none⟩ = some (.slice none 0 0) := box_cell hKz.z 2
      have ez3 : ((((W7.setCell ⟨w.heap.size + 1 + 1, 0, none⟩ (.slice none 0 0)).setCell ⟨w.heap.size + 1 + 1, 1, none⟩ (.int .i64 0)).setCell ⟨w.heap.size + 1 + 1, 2, none⟩ (.slice none 0 0)).setCell ⟨w.heap.size + 1 + 1, 3, none⟩ (.int .i64 0)).cell? ⟨w.heap.size + 1 + 1, 3, none⟩ = some (.int .i64 0) := box_cell hKz.z 3
      have HBz := hid hKz.below
      obtain ⟨⟨z0, z1, z2, z3⟩, f0, f1, f2, f3⟩ := HK7.out.cells
      clear hKz
      go_wp2_with fail
      generalize ((((W7.setCell ⟨w.heap.size + 1 + 1, 0, none⟩ (.slice none 0 0)).setCell ⟨w.heap.size + 1 + 1, 1, none⟩ (.int .i64 0)).setCell ⟨w.heap.size + 1 + 1, 2, none⟩ (.slice none 0 0)).setCell ⟨w.heap.size + 1 + 1, 3, none⟩ (.int .i64 0)) = XX at *
      refine bodyPost_ret (v := .tuple #[.agg #[.slice none 0 0, .int .i64 0, .slice none 0 0, .int .i64 0], .bool false]) (by simp [results, Try.results22, go_sem, ez0, ez1, ez2, ez3]) rfl ?_
      rw [HNO.out]
      exact ⟨rfl, HBz.out⟩
    have q40 : ((L.length : Int) == 40) = false := beq_eq_false_iff_ne.2 (by omega)
    have q41 : decide ((L.length : Int) = 40) = false := decide_eq_false (by omega)
    have q42 : decide (L.length = 40) = false := decide_eq_false h40
    have q43 : (L.length == 40) = false := beq_eq_false_iff_ne.2 h40
    have HEQ : Hid (doV B F L s ⟨2, p, n, D, m⟩ = some (B, F, L ++ [opR ⟨2, p, n, D, m⟩], s)) := by
      show doV B F L s ⟨2, p, n, D, m⟩ = _
      rw [doV_rec (o := ⟨2, p, n, D, m⟩) (show (1 : Int) ≤ 2 ∧ (2 : Int) ≤ 3 by omega)]; unfold recDo; rw [if_pos ⟨hr, h40, fun g => by cases g⟩]
    have hRs : Rs (W7.alloc (.cells #[.int .i64 2, .int .i64 p, .int .i64 n, .string D] 58)).heap.size (some ⟨W7.heap.size, 0, none⟩) [opR ⟨2, p, n, D, m⟩] (W7.alloc (.cells #[.int .i64 2, .int .i64 p, .int .i64 n, .string D] 58)) := by
      have := rrow_one W7 (opR ⟨2, p, n, D, m⟩)
      have hD : str (opR ⟨2, p, n, D, m⟩).data = D := str_back D
      rw [hD] at this
      exact this
    have b8 := boxB W7 (.cells #[.int .i64 2, .int .i64 p, .int .i64 n, .string D] 58)
    obtain ⟨v9, w9, r9, o9, g9, gb9⟩ := app_rec (W7.alloc (.cells #[.int .i64 2, .int .i64 p, .int .i64 n, .string D] 58)) mid (.slice a2 L.length c2) L.length (rvals L) (rw_below hO7.log b8) (some ⟨W7.heap.size, 0, none⟩) 1 [opR ⟨2, p, n, D, m⟩] hRs (by show L.length + 1 ≤ 10000; omega) (by have := hO7.mh; have := b8.size; omega)
    obtain ⟨a9, c9, rfl⟩ := rw_form o9
    have hmid : w.heap.size + 3 ≤ mid := by have := hO7.lm; omega
    have g9b := below_of_grown (lo := mid) g9 (by have := hO7.mh; have := b8.size; omega) (fun j hj => (hO7.log.lt j hj).1)
    have hK9 := (hK7.on b8).step (g9b.mono hmid)
    have hne9 : ∀ g, (Value.slice a2 L.length c2).ownBlock = some g → g ≠ w4.heap.size := fun g hg => by have := HLD.out g hg; omega
    have hX9 := (g9.block w4.heap.size (by have := b8.size; omega) (fun e9 => hne9 _ e9.symm rfl)).trans ((b8.block w4.heap.size (by omega)).trans hX7)
    have hl1 : (L ++ [opR ⟨2, p, n, D, m⟩]).length = L.length + 1 := by rw [List.length_append]; rfl
    have hO9 : OV w3.heap.size mid a1 c1 B a9 c9 (L ++ [opR ⟨2, p, n, D, m⟩]) w9 := by
      refine ⟨hO7.lm, by have := hO7.mh; have := b8.size; have := g9.size; omega, rw_keep (rw_below hO7.base b8) (fun g hg => g9.block g (by have := (rw_below hO7.base b8).lt g hg; exact this.2) (fun e9 => ?_)), hO7.low, ?_⟩
      · have h8 := hO7.low g hg
        have h9 := (hO7.log.lt g e9.symm).1
        omega
      · rw [hl1, rvals_snoc]; exact o9
    have hlg : ∀ g, (Value.slice a9 (L ++ [opR ⟨2, p, n, D, m⟩]).length c9).ownBlock = some g → g ≠ w4.heap.size := fun g hg => by
      rw [hl1] at hg
      rcases gb9 with h8 | h8
      · exact hne9 g (by rw [← h8]; exact hg)
      · have h7 : (Value.slice a9 (L.length + 1) c9).ownBlock = some g := hg
        have h6 := h8.symm.trans h7
        injection h6 with h6
        have h5 : (W7.alloc (.cells #[.int .i64 2, .int .i64 p, .int .i64 n, .string D] 58)).heap.size = W7.heap.size + 1 := heap_size _ _
        omega
    have hO10 := hO9.apart w4.heap.size 2 (.slice a9 (L.length + 1) c9) (fun g hg => by have := HBD.out g hg; omega) hlg
    have hK10 := hK9.step (setB (Below.refl (w.heap.size + 3) w9) w4.heap.size 2 hX3 (.slice a9 (L.length + 1) c9))
    have d0 : w9.cell? ⟨w4.heap.size, 0, none⟩ = some (.slice a1 B.length c1) := box_cell hX9 0
    have g0 : w9.frozen? ⟨w4.heap.size, 0, none⟩ = false := box_free hX9 0
    have d1 : w9.cell? ⟨w4.heap.size, 1, none⟩ = some (.int .i64 F) := box_cell hX9 1
    have g1 : w9.frozen? ⟨w4.heap.size, 1, none⟩ = false := box_free hX9 1
    have d2 : w9.cell? ⟨w4.heap.size, 2, none⟩ = some (.slice a2 L.length c2) := box_cell hX9 2
    have g2 : w9.frozen? ⟨w4.heap.size, 2, none⟩ = false := box_free hX9 2
    have d3 : w9.cell? ⟨w4.heap.size, 3, none⟩ = some (.int .i64 s) := box_cell hX9 3
    have g3 : w9.frozen? ⟨w4.heap.size, 3, none⟩ = false := box_free hX9 3
    have dd2 : W7.cell? ⟨w4.heap.size, 2, none⟩ = some (.slice a2 L.length c2) := box_cell hX7 2
    have rr0 : W7.cell? ⟨w6.heap.size, 0, none⟩ = some (.int .i64 2) := box_cell hR7 0
    have rr1 : W7.cell? ⟨w6.heap.size, 1, none⟩ = some (.int .i64 p) := box_cell hR7 1
    have rr2 : W7.cell? ⟨w6.heap.size, 2, none⟩ = some (.int .i64 n) := box_cell hR7 2
    have rr3 : W7.cell? ⟨w6.heap.size, 3, none⟩ = some (.string D) := box_cell hR7 3
    have hKr := hK10.fill (.slice a1 B.length c1) (.int .i64 F) (.slice a9 (L.length + 1) c9) (.int .i64 s)
    have er0 : (((((w9.setCell ⟨w4.heap.size, 2, none⟩ (.slice a9 (L.length + 1) c9)).setCell ⟨w.heap.size + 1 + 1, 0, none⟩ (.slice a1 B.length c1)).setCell ⟨w.heap.size + 1 + 1, 1, none⟩ (.int .i64 F)).setCell ⟨w.heap.size + 1 + 1, 2, none⟩ (.slice a9 (L.length + 1) c9)).setCell ⟨w.heap.size + 1 + 1, 3, none⟩ (.int .i64 s)).cell? ⟨w.heap.size + 1 + 1, 0, none⟩ = some (.slice a1 B.length c1) := box_cell hKr.z 0
    have er1 : (((((w9.setCell ⟨w4.heap.size, 2, none⟩ (.slice a9 (L.length + 1) c9)).setCell ⟨w.heap.size + 1 + 1, 0, none⟩ (.slice a1 B.length c1)).setCell ⟨w.heap.size + 1 + 1, 1, none⟩ (.int .i64 F)).setCell ⟨w.heap.size + 1 + 1, 2, none⟩ (.slice a9 (L.length + 1) c9)).setCell ⟨w.heap.size + 1 + 1, 3, none⟩ (.int .i64 s)).cell? ⟨w.heap.size + 1 + 1, 1, none⟩ = some (.int .i64 F) := box_cell hKr.z 1
    have er2 : (((((w9.setCell ⟨w4.heap.size, 2, none⟩ (.slice a9 (L.length + 1) c9)).setCell ⟨w.heap.size + 1 + 1, 0, none⟩ (.slice a1 B.length c1)).setCell ⟨w.heap.size + 1 + 1, 1, none⟩ (.int .i64 F)).setCell ⟨w.heap.size + 1 + 1, 2, none⟩ (.slice a9 (L.length + 1) c9)).setCell ⟨w.heap.size + 1 + 1, 3, none⟩ (.int .i64 s)).cell? ⟨w.heap.size + 1 + 1, 2, none⟩ = some (.slice a9 (L.length + 1) c9) := box_cell hKr.z 2
    have er3 : (((((w9.setCell ⟨w4.heap.size, 2, none⟩ (.slice a9 (L.length + 1) c9)).setCell ⟨w.heap.size + 1 + 1, 0, none⟩ (.slice a1 B.length c1)).setCell ⟨w.heap.size + 1 + 1, 1, none⟩ (.int .i64 F)).setCell ⟨w.heap.size + 1 + 1, 2, none⟩ (.slice a9 (L.length + 1) c9)).setCell ⟨w.heap.size + 1 + 1, 3, none⟩ (.int .i64 s)).cell? ⟨w.heap.size + 1 + 1, 3, none⟩ = some (.int .i64 s) := box_cell hKr.z 3
    have HBr := hid hKr.below
    have hOr := (((hO10.set (w.heap.size + 1 + 1) 0 (.slice a1 B.length c1) (by omega)).set (w.heap.size + 1 + 1) 1 (.int .i64 F) (by omega)).set (w.heap.size + 1 + 1) 2 (.slice a9 (L.length + 1) c9) (by omega)).set (w.heap.size + 1 + 1) 3 (.int .i64 s) (by omega)
    have HOr := hid (hOr.lower (show w.heap.size ≤ w3.heap.size by omega)).own
    have HDO : Hid (∀ e w', (∃ aB' kB' aL' kL', e = .returned (.tuple #[.agg #[.slice aB' B.length kB', .int .i64 F, .slice aL' (L.length + 1) kL', .int .i64 s], .bool true]) ∧ OwnV w.heap.size w'.heap.size aB' B aL' (L ++ [opR ⟨2, p, n, D, m⟩]) w' ∧ Below w.heap.size w w') → DOut (doV B F L s ⟨2, p, n, D, m⟩) w e w') := fun e w' h => by
      rw [HEQ.out]
      obtain ⟨x1, x2, x3, x4, h1, h2, h3⟩ := h
      exact ⟨x1, x2, x3, x4, by rw [h1, hl1], h2, h3⟩
    obtain ⟨⟨z0, z1, z2, z3⟩, f0, f1, f2, f3⟩ := hK9.cells
    obtain ⟨y0, y1, y2, y3⟩ := hK7.vol
    clear hKr hOr hK10 hO10 hO9 hlg o9 g9 gb9 g9b hK9 hX9 hne9 hRs b8 hO7 hK7 hX7 hR7 hz7 hl1 hr h40
    go_wp2_with (at_builtin; refine wpList_append_run rfl (.tmp 58) (.tmp 60) 25 rfl _ _ rfl rfl _ _ r9 ?_)
    generalize (((((w9.setCell ⟨w4.heap.size, 2, none⟩ (.slice a9 (L.length + 1) c9)).setCell ⟨w.heap.size + 1 + 1, 0, none⟩ (.slice a1 B.length c1)).setCell ⟨w.heap.size + 1 + 1, 1, none⟩ (.int .i64 F)).setCell ⟨w.heap.size + 1 + 1, 2, none⟩ (.slice a9 (L.length + 1) c9)).setCell ⟨w.heap.size + 1 + 1, 3, none⟩ (.int .i64 s)) = XX at *
    refine bodyPost_ret (v := .tuple #[.agg #[.slice a1 B.length c1, .int .i64 F, .slice a9 (L.length + 1) c9, .int .i64 s], .bool true]) (by simp [results, Try.results22, go_sem, er0, er1, er2, er3]) rfl ?_
    exact HDO.out _ _ ⟨_, _, _, _, rfl, HOr.out, HBr.out⟩
  obtain rfl : k = 3 := by omega
  have HKd := hid (HK5.out.on (Below.refl _ _).drew)
  have t0 : W5.drew.cell? ⟨w.heap.size + 1, 1, none⟩ = some (.int .i64 p) := o1
  have t1 : W5.drew.cell? ⟨w.heap.size, 1, none⟩ = some (.int .i64 F) := x1
  have t2 : W5.drew.cell? ⟨w.heap.size, 2, none⟩ = some (.slice aL L.length kL) := x2
  have HMd := hid (HMB.out W5.drew HKd.out.below)
  obtain ⟨mk, hmk⟩ : ∃ mk, markF F L = mk := ⟨_, rfl⟩
  rw [hmk] at HMd HM
  have HMK := hid hmk
  obtain ⟨m0, m1⟩ := HM.out
  have hwr : IntKind.i64.wrap (mk + 1) = mk + 1 := by rw [IntKind.wrap_i64]; omega
  have hOb := HOV.out
  have hXb := HXD.out
  clear hmk HMB HCR HFS HRS HM d0 d1 d2 d3 g0 g1 g2 g3
  by_cases hp : p = mk + 1
  · have e1 : (p == mk + 1) = true := by rw [hp]; exact beq_self_eq_true _
    have e2 : decide (p = mk + 1) = true := decide_eq_true hp
    have HP := hid hp
    clear hp
    go_wp2_with fail
    go_region_held (fun v => v.cell? ⟨w.heap.size + 1, 1, none⟩ = some (.int .i64 p) ∧ v.cell? ⟨w.heap.size, 1, none⟩ = some (.int .i64 F) ∧ v.cell? ⟨w.heap.size, 2, none⟩ = some (.slice aL L.length kL)) (first | exact ⟨by with_reducible assumption, by with_reducible assumption, by with_reducible assumption⟩) (first | (go_at_call 40; refine HMd.out.mono ?_; rintro e wm ⟨rfl, bm⟩; have hKm := HKd.out.on bm; have u0 : wm.cell? ⟨w.heap.size + 1, 1, none⟩ = some (.int .i64 p) := box_cell hKm.o 1; have u1 : wm.cell? ⟨w.heap.size, 1, none⟩ = some (.int .i64 F) := box_cell hKm.x 1; have u2 : wm.cell? ⟨w.heap.size, 2, none⟩ = some (.slice aL L.length kL) := box_cell hKm.x 2))
    all_goals
      have bm5 : Below W5.heap.size W5 wm := ⟨bm.os, bm.tape, bm.output, bm.size, bm.block⟩
      have hXw : w4.heap.size < wm.heap.size := Nat.lt_of_lt_of_le hXDlt bm5.size
      replace hXb := (bm5.block w4.heap.size hXDlt).trans hXb
      replace hOb := hOb.below bm5
      have HKm := hid hKm
      clear bm bm5 hKm u0 u1 u2 t0 t1 t2 x0 x1 x2 x3 o0 o1 o2 o3 o4 hW5
      obtain ⟨o0, o1, o2, o3, o4⟩ := HKm.out.op
      go_wp2_with fail
      refine (HRF.out _).mono ?_
      rintro e w6 ⟨rfl, b6⟩
      have hK6 := HKm.out.on b6
      have hX6 := (b6.block w4.heap.size hXw).trans hXb
      have hs6 := b6.size
      have hO6 := hOb.below b6
      clear b6
      cases hr : recOk ⟨3, p, n, D, m⟩
      · rw [recV_no hr]
        have HNO : Hid (doV B F L s ⟨3, p, n, D, m⟩ = none) := (doV_rec (o := ⟨3, p, n, D, m⟩) (show (1 : Int) ≤ 3 ∧ (3 : Int) ≤ 3 by omega)).trans (recDo_no hr)
        have HK7 := hid (hK6.on (boxB w6 (.cells #[.int .i64 0, .int .i64 0, .int .i64 0, .string ⟨#[]⟩] 58)))
        clear hr hK6 hX6 hO6
        have hKz := HK7.out.fill (.slice none 0 0) (.int .i64 0) (.slice none 0 0) (.int .i64 0)
        have ez0 : (((((w6.alloc (.cells #[.int .i64 0, .int .i64 0, .int .i64 0, .string ⟨#[]⟩] 58)).setCell ⟨w.heap.size + 1 + 1, 0, none⟩ (.slice none 0 0)).setCell ⟨w.heap.size + 1 + 1, 1, none⟩ (.int .i64 0)).setCell ⟨w.heap.size + 1 + 1, 2, none⟩ (.slice none 0 0)).setCell ⟨w.heap.size + 1 + 1, 3, none⟩ (.int .i64 0)).cell? ⟨w.heap.size + 1 + 1, 0, none⟩ = some (.slice none 0 0) := box_cell hKz.z 0
        have ez1 : (((((w6.alloc (.cells #[.int .i64 0, .int .i64 0, .int .i64 0, .string ⟨#[]⟩] 58)).setCell ⟨w.heap.size + 1 + 1, 0, none⟩ (.slice none 0 0)).setCell ⟨w.heap.size + 1 + 1, 1, none⟩ (.int .i64 0)).setCell ⟨w.heap.size + 1 + 1, 2, none⟩ (.slice none 0 0)).setCell ⟨w.heap.size + 1 + 1, 3, none⟩ (.int .i64 0)).cell? ⟨w.heap.size + 1 + 1, 1, none⟩ = some (.int .i64 0) := box_cell hKz.z 1
        have ez2 : (((((w6.alloc (.cells #[.int .i64 0, .int .i64 0, .int .i64 0, .string ⟨#[]⟩] 58)).setCell ⟨w.heap.size + 1 + 1, 0, none⟩ (.slice none 0 0)).setCell ⟨w.heap.size + 1 + 1, 1, none⟩ (.int .i64 0)).setCell ⟨w.heap.size + 1 + 1, 2, none⟩ (.slice none 0 0)).setCell ⟨w.heap.size + 1 + 1, 3, none⟩ (.int .i64 0)).cell? ⟨w.heap.size + 1 + 1, 2, none⟩ = some (.slice none 0 0) := box_cell hKz.z 2
        have ez3 : (((((w6.alloc (.cells #[.int .i64 0, .int .i64 0, .int .i64 0, .string ⟨#[]⟩] 58)).setCell ⟨w.heap.size + 1 + 1, 0, none⟩ (.slice none 0 0)).setCell ⟨w.heap.size + 1 + 1, 1, none⟩ (.int .i64 0)).setCell ⟨w.heap.size + 1 + 1, 2, none⟩ (.slice none 0 0)).setCell ⟨w.heap.size + 1 + 1, 3, none⟩ (.int .i64 0)).cell? ⟨w.heap.size + 1 + 1, 3, none⟩ = some (.int .i64 0) := box_cell hKz.z 3
        have HBz := hid hKz.below
        obtain ⟨⟨z0, z1, z2, z3⟩, f0, f1, f2, f3⟩ := HK7.out.cells
        clear hKz
        go_wp2_with fail
        generalize (((((w6.alloc (.cells #[.int .i64 0, .int .i64 0, .int .i64 0, .string ⟨#[]⟩] 58)).setCell ⟨w.heap.size + 1 + 1, 0, none⟩ (.slice none 0 0)).setCell ⟨w.heap.size + 1 + 1, 1, none⟩ (.int .i64 0)).setCell ⟨w.heap.size + 1 + 1, 2, none⟩ (.slice none 0 0)).setCell ⟨w.heap.size + 1 + 1, 3, none⟩ (.int .i64 0)) = XX at *
        refine bodyPost_ret (v := .tuple #[.agg #[.slice none 0 0, .int .i64 0, .slice none 0 0, .int .i64 0], .bool false]) (by simp [results, Try.results22, go_sem, ez0, ez1, ez2, ez3]) rfl ?_
        rw [HNO.out]
        exact ⟨rfl, HBz.out⟩
      rw [recV_yes hr]
      have b7 := boxB w6 (.cells #[.int .i64 3, .int .i64 p, .int .i64 n, .string D] 58)
      have hK7 := hK6.on b7
      have hX7 := (b7.block w4.heap.size (by omega)).trans hX6
      have hO7 := hO6.below b7
      have hR7 : (w6.alloc (.cells #[.int .i64 3, .int .i64 p, .int .i64 n, .string D] 58)).heap[w6.heap.size]? = some (.cells #[.int .i64 3, .int .i64 p, .int .i64 n, .string D] 58) := heap_last _ _
      have hz7 : (w6.alloc (.cells #[.int .i64 3, .int .i64 p, .int .i64 n, .string D] 58)).heap.size = w6.heap.size + 1 := heap_size _ _
      generalize hW7 : w6.alloc (.cells #[.int .i64 3, .int .i64 p, .int .i64 n, .string D] 58) = W7 at *
      clear b7 hK6 hX6 hO6
      by_cases h40 : L.length = 40
      · have HNO : Hid (doV B F L s ⟨3, p, n, D, m⟩ = none) := by
          show doV B F L s ⟨3, p, n, D, m⟩ = none
          rw [doV_rec (o := ⟨3, p, n, D, m⟩) (show (1 : Int) ≤ 3 ∧ (3 : Int) ≤ 3 by omega)]; unfold recDo; rw [if_neg (fun g => g.2.1 h40)]
        have q40 : ((L.length : Int) == 40) = true := by rw [h40]; rfl
        have q41 : decide ((L.length : Int) = 40) = true := decide_eq_true (by omega)
        have q42 : decide (L.length = 40) = true := decide_eq_true h40
        have q43 : (L.length == 40) = true := by rw [h40]; rfl
        obtain ⟨x0, x1, x2, x3⟩ := hK7.vol
        have HK7 := hid hK7
        clear hr h40 hK7 hX7 hO7 hR7
        have hKz := HK7.out.fill (.slice none 0 0) (.int .i64 0) (.slice none 0 0) (.int .i64 0)
        have ez0 : ((((W7.setCell ⟨w.heap.size + 1 + 1, 0, none⟩ (.slice none 0 0)).setCell ⟨w.heap.size + 1 + 1, 1, none⟩ (.int .i64 0)).setCell ⟨w.heap.size + 1 + 1, 2, none⟩ (.slice none 0 0)).setCell ⟨w.heap.size + 1 + 1, 3, none⟩ (.int .i64 0)).cell? ⟨w.heap.size + 1 + 1, 0, none⟩ = some (.slice none 0 0) := box_cell hKz.z 0
        have ez1 : ((((W7.setCell ⟨w.heap.size + 1 + 1, 0, none⟩ (.slice none 0 0)).setCell ⟨w.heap.size + 1 + 1, 1, none⟩ (.int .i64 0)).setCell ⟨w.heap.size + 1 + 1, 2, none⟩ (.slice none 0 0)).setCell ⟨w.heap.size + 1 + 1, 3, none⟩ (.int .i64 0)).cell? ⟨w.heap.size + 1 + 1, 1, none⟩ = some (.int .i64 0) := box_cell hKz.z 1
        have ez2 : ((((W7.setCell ⟨w.heap.size + 1 + 1, 0, none⟩ (.slice none 0 0)).setCell ⟨w.heap.size + 1 + 1, 1, none⟩ (.int .i64 0)).setCell ⟨w.heap.size + 1 + 1, 2, none⟩ (.slice none 0 0)).setCell ⟨w.heap.size + 1 + 1, 3, none⟩ (.int .i64 0)).cell? ⟨w.heap.size + 1 + 1, 2, none⟩ = some (.slice none 0 0) := box_cell hKz.z 2
        have ez3 : ((((W7.setCell ⟨w.heap.size + 1 + 1, 0, none⟩ (.slice none 0 0)).setCell ⟨w.heap.size + 1 + 1, 1, none⟩ (.int .i64 0)).setCell ⟨w.heap.size + 1 + 1, 2, none⟩ (.slice none 0 0)).setCell ⟨w.heap.size + 1 + 1, 3, none⟩ (.int .i64 0)).cell? ⟨w.heap.size + 1 + 1, 3, none⟩ = some (.int .i64 0) := box_cell hKz.z 3
        have HBz := hid hKz.below
        obtain ⟨⟨z0, z1, z2, z3⟩, f0, f1, f2, f3⟩ := HK7.out.cells
        clear hKz
        go_wp2_with fail
        generalize ((((W7.setCell ⟨w.heap.size + 1 + 1, 0, none⟩ (.slice none 0 0)).setCell ⟨w.heap.size + 1 + 1, 1, none⟩ (.int .i64 0)).setCell ⟨w.heap.size + 1 + 1, 2, none⟩ (.slice none 0 0)).setCell ⟨w.heap.size + 1 + 1, 3, none⟩ (.int .i64 0)) = XX at *
        refine bodyPost_ret (v := .tuple #[.agg #[.slice none 0 0, .int .i64 0, .slice none 0 0, .int .i64 0], .bool false]) (by simp [results, Try.results22, go_sem, ez0, ez1, ez2, ez3]) rfl ?_
        rw [HNO.out]
        exact ⟨rfl, HBz.out⟩
      have q40 : ((L.length : Int) == 40) = false := beq_eq_false_iff_ne.2 (by omega)
      have q41 : decide ((L.length : Int) = 40) = false := decide_eq_false (by omega)
      have q42 : decide (L.length = 40) = false := decide_eq_false h40
      have q43 : (L.length == 40) = false := beq_eq_false_iff_ne.2 h40
      have HEQ : Hid (doV B F L s ⟨3, p, n, D, m⟩ = some (B, F, L ++ [opR ⟨3, p, n, D, m⟩], s)) := by
        show doV B F L s ⟨3, p, n, D, m⟩ = _
        rw [doV_rec (o := ⟨3, p, n, D, m⟩) (show (1 : Int) ≤ 3 ∧ (3 : Int) ≤ 3 by omega)]; unfold recDo; rw [if_pos ⟨hr, h40, fun _ => by rw [HMK.out]; exact HP.out⟩]
      have hRs : Rs (W7.alloc (.cells #[.int .i64 3, .int .i64 p, .int .i64 n, .string D] 58)).heap.size (some ⟨W7.heap.size, 0, none⟩) [opR ⟨3, p, n, D, m⟩] (W7.alloc (.cells #[.int .i64 3, .int .i64 p, .int .i64 n, .string D] 58)) := by
        have := rrow_one W7 (opR ⟨3, p, n, D, m⟩)
        have hD : str (opR ⟨3, p, n, D, m⟩).data = D := str_back D
        rw [hD] at this
        exact this
      have b8 := boxB W7 (.cells #[.int .i64 3, .int .i64 p, .int .i64 n, .string D] 58)
      obtain ⟨v9, w9, r9, o9, g9, gb9⟩ := app_rec (W7.alloc (.cells #[.int .i64 3, .int .i64 p, .int .i64 n, .string D] 58)) mid (.slice a2 L.length c2) L.length (rvals L) (rw_below hO7.log b8) (some ⟨W7.heap.size, 0, none⟩) 1 [opR ⟨3, p, n, D, m⟩] hRs (by show L.length + 1 ≤ 10000; omega) (by have := hO7.mh; have := b8.size; omega)
      obtain ⟨a9, c9, rfl⟩ := rw_form o9
      have hmid : w.heap.size + 3 ≤ mid := by have := hO7.lm; omega
      have g9b := below_of_grown (lo := mid) g9 (by have := hO7.mh; have := b8.size; omega) (fun j hj => (hO7.log.lt j hj).1)
      have hK9 := (hK7.on b8).step (g9b.mono hmid)
      have hne9 : ∀ g, (Value.slice a2 L.length c2).ownBlock = some g → g ≠ w4.heap.size := fun g hg => by have := HLD.out g hg; omega
      have hX9 := (g9.block w4.heap.size (by have := b8.size; omega) (fun e9 => hne9 _ e9.symm rfl)).trans ((b8.block w4.heap.size (by omega)).trans hX7)
      have hl1 : (L ++ [opR ⟨3, p, n, D, m⟩]).length = L.length + 1 := by rw [List.length_append]; rfl
      have hO9 : OV w3.heap.size mid a1 c1 B a9 c9 (L ++ [opR ⟨3, p, n, D, m⟩]) w9 := by
        refine ⟨hO7.lm, by have := hO7.mh; have := b8.size; have := g9.size; omega, rw_keep (rw_below hO7.base b8) (fun g hg => g9.block g (by have := (rw_below hO7.base b8).lt g hg; exact this.2) (fun e9 => ?_)), hO7.low, ?_⟩
        · have h8 := hO7.low g hg
          have h9 := (hO7.log.lt g e9.symm).1
          omega
        · rw [hl1, rvals_snoc]; exact o9
      have hlg : ∀ g, (Value.slice a9 (L ++ [opR ⟨3, p, n, D, m⟩]).length c9).ownBlock = some g → g ≠ w4.heap.size := fun g hg => by
        rw [hl1] at hg
        rcases gb9 with h8 | h8
        · exact hne9 g (by rw [← h8]; exact hg)
        · have h7 : (Value.slice a9 (L.length + 1) c9).ownBlock = some g := hg
          have h6 := h8.symm.trans h7
          injection h6 with h6
          have h5 : (W7.alloc (.cells #[.int .i64 3, .int .i64 p, .int .i64 n, .string D] 58)).heap.size = W7.heap.size + 1 := heap_size _ _
          omega
      have hO10 := hO9.apart w4.heap.size 2 (.slice a9 (L.length + 1) c9) (fun g hg => by have := HBD.out g hg; omega) hlg
      have hK10 := hK9.step (setB (Below.refl (w.heap.size + 3) w9) w4.heap.size 2 hX3 (.slice a9 (L.length + 1) c9))
      have d0 : w9.cell? ⟨w4.heap.size, 0, none⟩ = some (.slice a1 B.length c1) := box_cell hX9 0
      have g0 : w9.frozen? ⟨w4.heap.size, 0, none⟩ = false := box_free hX9 0
      have d1 : w9.cell? ⟨w4.heap.size, 1, none⟩ = some (.int .i64 F) := box_cell hX9 1
      have g1 : w9.frozen? ⟨w4.heap.size, 1, none⟩ = false := box_free hX9 1
      have d2 : w9.cell? ⟨w4.heap.size, 2, none⟩ = some (.slice a2 L.length c2) := box_cell hX9 2
      have g2 : w9.frozen? ⟨w4.heap.size, 2, none⟩ = false := box_free hX9 2
      have d3 : w9.cell? ⟨w4.heap.size, 3, none⟩ = some (.int .i64 s) := box_cell hX9 3
      have g3 : w9.frozen? ⟨w4.heap.size, 3, none⟩ = false := box_free hX9 3
      have dd2 : W7.cell? ⟨w4.heap.size, 2, none⟩ = some (.slice a2 L.length c2) := box_cell hX7 2
      have rr0 : W7.cell? ⟨w6.heap.size, 0, none⟩ = some (.int .i64 3) := box_cell hR7 0
      have rr1 : W7.cell? ⟨w6.heap.size, 1, none⟩ = some (.int .i64 p) := box_cell hR7 1
      have rr2 : W7.cell? ⟨w6.heap.size, 2, none⟩ = some (.int .i64 n) := box_cell hR7 2
      have rr3 : W7.cell? ⟨w6.heap.size, 3, none⟩ = some (.string D) := box_cell hR7 3
      have hKr := hK10.fill (.slice a1 B.length c1) (.int .i64 F) (.slice a9 (L.length + 1) c9) (.int .i64 s)
      have er0 : (((((w9.setCell ⟨w4.heap.size, 2, none⟩ (.slice a9 (L.length + 1) c9)).setCell ⟨w.heap.size + 1 + 1, 0, none⟩ (.slice a1 B.length c1)).setCell ⟨w.heap.size + 1 + 1, 1, none⟩ (.int .i64 F)).setCell ⟨w.heap.size + 1 + 1, 2, none⟩ (.slice a9 (L.length + 1) c9)).setCell ⟨w.heap.size + 1 + 1, 3, none⟩ (.int .i64 s)).cell? ⟨w.heap.size + 1 + 1, 0, none⟩ = some (.slice a1 B.length c1) := box_cell hKr.z 0
      have er1 : (((((w9.setCell ⟨w4.heap.size, 2, none⟩ (.slice a9 (L.length + 1) c9)).setCell ⟨w.heap.size + 1 + 1, 0, none⟩ (.slice a1 B.length c1)).setCell ⟨w.heap.size + 1 + 1, 1, none⟩ (.int .i64 F)).setCell ⟨w.heap.size + 1 + 1, 2, none⟩ (.slice a9 (L.length + 1) c9)).setCell ⟨w.heap.size + 1 + 1, 3, none⟩ (.int .i64 s)).cell? ⟨w.heap.size + 1 + 1, 1, none⟩ = some (.int .i64 F) := box_cell hKr.z 1
      have er2 : (((((w9.setCell ⟨w4.heap.size, 2, none⟩ (.slice a9 (L.length + 1) c9)).setCell ⟨w.heap.size + 1 + 1, 0, none⟩ (.slice a1 B.length c1)).setCell ⟨w.heap.size + 1 + 1, 1, none⟩ (.int .i64 F)).setCell ⟨w.heap.size + 1 + 1, 2, none⟩ (.slice a9 (L.length + 1) c9)).setCell ⟨w.heap.size + 1 + 1, 3, none⟩ (.int .i64 s)).cell? ⟨w.heap.size + 1 + 1, 2, none⟩ = some (.slice a9 (L.length + 1) c9) := box_cell hKr.z 2
      have er3 : (((((w9.setCell ⟨w4.heap.size, 2, none⟩ (.slice a9 (L.length + 1) c9)).setCell ⟨w.heap.size + 1 + 1, 0, none⟩ (.slice a1 B.length c1)).setCell ⟨w.heap.size + 1 + 1, 1, none⟩ (.int .i64 F)).setCell ⟨w.heap.size + 1 + 1, 2, none⟩ (.slice a9 (L.length + 1) c9)).setCell ⟨w.heap.size + 1 + 1, 3, none⟩ (.int .i64 s)).cell? ⟨w.heap.size + 1 + 1, 3, none⟩ = some (.int .i64 s) := box_cell hKr.z 3
      have HBr := hid hKr.below
      have hOr := (((hO10.set (w.heap.size + 1 + 1) 0 (.slice a1 B.length c1) (by omega)).set (w.heap.size + 1 + 1) 1 (.int .i64 F) (by omega)).set (w.heap.size + 1 + 1) 2 (.slice a9 (L.length + 1) c9) (by omega)).set (w.heap.size + 1 + 1) 3 (.int .i64 s) (by omega)
      have HOr := hid (hOr.lower (show w.heap.size ≤ w3.heap.size by omega)).own
      have HDO : Hid (∀ e w', (∃ aB' kB' aL' kL', e = .returned (.tuple #[.agg #[.slice aB' B.length kB', .int .i64 F, .slice aL' (L.length + 1) kL', .int .i64 s], .bool true]) ∧ OwnV w.heap.size w'.heap.size aB' B aL' (L ++ [opR ⟨3, p, n, D, m⟩]) w' ∧ Below w.heap.size w w') → DOut (doV B F L s ⟨3, p, n, D, m⟩) w e w') := fun e w' h => by
        rw [HEQ.out]
        obtain ⟨x1, x2, x3, x4, h1, h2, h3⟩ := h
        exact ⟨x1, x2, x3, x4, by rw [h1, hl1], h2, h3⟩
      obtain ⟨⟨z0, z1, z2, z3⟩, f0, f1, f2, f3⟩ := hK9.cells
      obtain ⟨y0, y1, y2, y3⟩ := hK7.vol
      clear hKr hOr hK10 hO10 hO9 hlg o9 g9 gb9 g9b hK9 hX9 hne9 hRs b8 hO7 hK7 hX7 hR7 hz7 hl1 hr h40
      go_wp2_with (at_builtin; refine wpList_append_run rfl (.tmp 58) (.tmp 60) 25 rfl _ _ rfl rfl _ _ r9 ?_)
      generalize (((((w9.setCell ⟨w4.heap.size, 2, none⟩ (.slice a9 (L.length + 1) c9)).setCell ⟨w.heap.size + 1 + 1, 0, none⟩ (.slice a1 B.length c1)).setCell ⟨w.heap.size + 1 + 1, 1, none⟩ (.int .i64 F)).setCell ⟨w.heap.size + 1 + 1, 2, none⟩ (.slice a9 (L.length + 1) c9)).setCell ⟨w.heap.size + 1 + 1, 3, none⟩ (.int .i64 s)) = XX at *
      refine bodyPost_ret (v := .tuple #[.agg #[.slice a1 B.length c1, .int .i64 F, .slice a9 (L.length + 1) c9, .int .i64 s], .bool true]) (by simp [results, Try.results22, go_sem, er0, er1, er2, er3]) rfl ?_
      exact HDO.out _ _ ⟨_, _, _, _, rfl, HOr.out, HBr.out⟩
  · have e1 : (p == mk + 1) = false := beq_eq_false_iff_ne.2 hp
    have e2 : decide (p = mk + 1) = false := decide_eq_false hp
    go_wp2_with fail
    go_region_held (fun v => v.cell? ⟨w.heap.size + 1, 1, none⟩ = some (.int .i64 p) ∧ v.cell? ⟨w.heap.size, 1, none⟩ = some (.int .i64 F) ∧ v.cell? ⟨w.heap.size, 2, none⟩ = some (.slice aL L.length kL)) (first | exact ⟨by with_reducible assumption, by with_reducible assumption, by with_reducible assumption⟩) (first | (go_at_call 40; refine HMd.out.mono ?_; rintro e wm ⟨rfl, bm⟩; have hKm := HKd.out.on bm; have u0 : wm.cell? ⟨w.heap.size + 1, 1, none⟩ = some (.int .i64 p) := box_cell hKm.o 1; have u1 : wm.cell? ⟨w.heap.size, 1, none⟩ = some (.int .i64 F) := box_cell hKm.x 1; have u2 : wm.cell? ⟨w.heap.size, 2, none⟩ = some (.slice aL L.length kL) := box_cell hKm.x 2))
    all_goals
      have bm5 : Below W5.heap.size W5 wm := ⟨bm.os, bm.tape, bm.output, bm.size, bm.block⟩
      have hXw : w4.heap.size < wm.heap.size := Nat.lt_of_lt_of_le hXDlt bm5.size
      replace hXb := (bm5.block w4.heap.size hXDlt).trans hXb
      replace hOb := hOb.below bm5
      have HKm := hid hKm
      clear bm bm5 hKm u0 u1 u2 t0 t1 t2 x0 x1 x2 x3 o0 o1 o2 o3 o4 hW5
      have HNO : Hid (doV B F L s ⟨3, p, n, D, m⟩ = none) := by
        show doV B F L s ⟨3, p, n, D, m⟩ = none
        rw [doV_rec (o := ⟨3, p, n, D, m⟩) (show (1 : Int) ≤ 3 ∧ (3 : Int) ≤ 3 by omega)]; unfold recDo; rw [if_neg (fun g => hp (by rw [← HMK.out]; exact g.2.2 rfl))]
      clear hp
      have hKz := HKm.out.fill (.slice none 0 0) (.int .i64 0) (.slice none 0 0) (.int .i64 0)
      have ez0 : ((((wm.setCell ⟨w.heap.size + 1 + 1, 0, none⟩ (.slice none 0 0)).setCell ⟨w.heap.size + 1 + 1, 1, none⟩ (.int .i64 0)).setCell ⟨w.heap.size + 1 + 1, 2, none⟩ (.slice none 0 0)).setCell ⟨w.heap.size + 1 + 1, 3, none⟩ (.int .i64 0)).cell? ⟨w.heap.size + 1 + 1, 0, none⟩ = some (.slice none 0 0) := box_cell hKz.z 0
      have ez1 : ((((wm.setCell ⟨w.heap.size + 1 + 1, 0, none⟩ (.slice none 0 0)).setCell ⟨w.heap.size + 1 + 1, 1, none⟩ (.int .i64 0)).setCell ⟨w.heap.size + 1 + 1, 2, none⟩ (.slice none 0 0)).setCell ⟨w.heap.size + 1 + 1, 3, none⟩ (.int .i64 0)).cell? ⟨w.heap.size + 1 + 1, 1, none⟩ = some (.int .i64 0) := box_cell hKz.z 1
      have ez2 : ((((wm.setCell ⟨w.heap.size + 1 + 1, 0, none⟩ (.slice none 0 0)).setCell ⟨w.heap.size + 1 + 1, 1, none⟩ (.int .i64 0)).setCell ⟨w.heap.size + 1 + 1, 2, none⟩ (.slice none 0 0)).setCell ⟨w.heap.size + 1 + 1, 3, none⟩ (.int .i64 0)).cell? ⟨w.heap.size + 1 + 1, 2, none⟩ = some (.slice none 0 0) := box_cell hKz.z 2
      have ez3 : ((((wm.setCell ⟨w.heap.size + 1 + 1, 0, none⟩ (.slice none 0 0)).setCell ⟨w.heap.size + 1 + 1, 1, none⟩ (.int .i64 0)).setCell ⟨w.heap.size + 1 + 1, 2, none⟩ (.slice none 0 0)).setCell ⟨w.heap.size + 1 + 1, 3, none⟩ (.int .i64 0)).cell? ⟨w.heap.size + 1 + 1, 3, none⟩ = some (.int .i64 0) := box_cell hKz.z 3
      have HBz := hid hKz.below
      obtain ⟨⟨z0, z1, z2, z3⟩, f0, f1, f2, f3⟩ := HKm.out.cells
      clear hKz
      go_wp2_with fail
      generalize ((((wm.setCell ⟨w.heap.size + 1 + 1, 0, none⟩ (.slice none 0 0)).setCell ⟨w.heap.size + 1 + 1, 1, none⟩ (.int .i64 0)).setCell ⟨w.heap.size + 1 + 1, 2, none⟩ (.slice none 0 0)).setCell ⟨w.heap.size + 1 + 1, 3, none⟩ (.int .i64 0)) = XX at *
      refine bodyPost_ret (v := .tuple #[.agg #[.slice none 0 0, .int .i64 0, .slice none 0 0, .int .i64 0], .bool false]) (by simp [results, Try.results22, go_sem, ez0, ez1, ez2, ez3]) rfl ?_
      rw [HNO.out]
      exact ⟨rfl, HBz.out⟩
end Go.Proofs.Ytlaafcmfddidnaa
namespace Go.Proofs.Ytlaafcmfddidnaa
set_option maxRecDepth 100000
open Go.ChangeShapes Go.WideShapes Go.ChangeAt Go.RowKit G00541
def DOutK (o : Option Vol) (w : World) (e : Ending) (w' : World) : Prop := match o with
  | some v => ∃ aB kB aL kL, v.2.2.1.length ≤ kL ∧ e = .returned (.tuple #[.agg #[.slice aB v.1.length kB, .int .i64 v.2.1, .slice aL v.2.2.1.length kL, .int .i64 v.2.2.2], .bool true]) ∧ OwnV w.heap.size w'.heap.size aB v.1 aL v.2.2.1 w' ∧ Below w.heap.size w w'
  | none => e = .returned (.tuple #[.agg #[.slice none 0 0, .int .i64 0, .slice none 0 0, .int .i64 0], .bool false]) ∧ Below w.heap.size w w'
set_option maxHeartbeats 8000000 in
theorem idoV_k (aB aL : Option Addr) (kB kL : Nat) (B : List ByteArray) (F : Int) (L : List Rc) (s : Int) (k p n m : Int) (D : ByteArray) (w : World) (hf : B.length ≤ 1048576 ∧ L.length ≤ 1048576) (hk : L.length ≤ kL) (hB : Ss w.heap.size aB B w) (hL : Rs w.heap.size aL L w) (hg : GoodV B F L s) :
    Calls Try.prog 22 #[.agg #[.slice aB B.length kB, .int .i64 F, .slice aL L.length kL, .int .i64 s], .agg #[.int .i64 k, .int .i64 p, .int .i64 n, .string D, .int .i64 m]] w fun e w' => DOutK (doV B F L s ⟨k, p, n, D, m⟩) w e w' := by
  have HK := hid (DK.start w #[.slice aB B.length kB, .int .i64 F, .slice aL L.length kL, .int .i64 s] #[.int .i64 k, .int .i64 p, .int .i64 n, .string D, .int .i64 m] #[.slice none 0 0, .int .i64 0, .slice none 0 0, .int .i64 0])
  have HG : Hid (∀ v, Below w.heap.size w v → Calls Try.prog 37 #[.agg #[.slice aB B.length kB, .int .i64 F, .slice aL L.length kL, .int .i64 s]] v fun e w' => e = .returned (.bool true) ∧ Below v.heap.size v w') := fun v g => by
    have := igoodV_any aB aL kB kL B F L s v hf ((hB.below g).mono g.size) ((hL.below g).mono g.size)
    rw [goodV_iff.2 hg] at this
    exact this
  have HND : Hid (∀ v, Calls Try.prog 38 #[.agg #[.int .i64 k, .int .i64 p, .int .i64 n, .string D, .int .i64 m]] v fun e w' => e = .returned (.bool (needOk ⟨k, p, n, D, m⟩)) ∧ Below v.heap.size v w') := fun v => need_any k p n m D v
  have HCP : Hid (∀ v, Below w.heap.size w v → Calls Try.prog 39 #[.agg #[.slice aB B.length kB, .int .i64 F, .slice aL L.length kL, .int .i64 s]] v fun e w' => CpOut B F L s v e w') := fun v g => copyVolume_any aB aL kB kL B F L s v hg ((hB.below g).mono g.size) ((hL.below g).mono g.size)
  have HMB : Hid (∀ v, Below w.heap.size w v → Calls Try.prog 40 #[.int .i64 F, .slice aL L.length kL] v fun e w' => e = .returned (.int .i64 (markF F L)) ∧ Below v.heap.size v w') := fun v g => markBehind_any aL kL F L v hf.2 ((hL.below g).mono g.size)
  have HRF : Hid (∀ v, Calls Try.prog 41 #[.agg #[.int .i64 k, .int .i64 p, .int .i64 n, .string D, .int .i64 m]] v fun e w' => ForOut ⟨k, p, n, D, m⟩ v e w') := fun v => irec_any k p n m D v
  have HFS : Hid (∀ v, Below w.heap.size w v → Calls Try.prog 43 #[.agg #[.slice aB B.length kB, .int .i64 F, .slice aL L.length kL, .int .i64 s]] v fun e w' => FdOutK B F L s.toNat v e w') := fun v g => foldSure_k aB aL kB kL B F L s s.toNat v (by have := hg.s0; omega) hg hk ((hB.below g).mono g.size) ((hL.below g).mono g.size)
  have HCR : Hid (∀ q : Nat, q ≤ L.length → ∃ c, (∀ v, Sem.run Try.prog (Instr.slice 25 (.slice aL L.length kL) none (some (.int .i64 (q : Int))) none) v = .ok (.slice aL (L.take q).length c) v) ∧ ∀ v, Below w.heap.size w v → Calls Try.prog 42 #[.slice aL (L.take q).length c] v fun e w' => ∃ b c, e = .returned (.slice b (L.take q).length c) ∧ w'.ownsRow v.heap.size 58 4 (.slice b (L.take q).length c) (L.take q).length (rvals (L.take q)) ∧ Below v.heap.size v w') := fun q hq => by
    obtain ⟨c, hc⟩ := cut_low aL kL L q q rfl hq hk
    exact ⟨c, hc, fun v g => copyRecords_any aL c (L.take q) v (by rw [List.length_take]; have := hg.len; omega) (fun j h => by have := good_small (good_at (goodL_take hg.recs q) j h); omega) (((hL.take q).below g).mono g.size)⟩
  have HL40 : Hid (L.length ≤ 40) := hg.len
  have HM : Hid (0 ≤ markF F L ∧ markF F L ≤ 200) := by
    have := markF_in F L hg.f0 hg.f1 L.length (Nat.le_refl _) (fun j hj _ => good_at hg.recs j hj)
    rw [markF_all] at this
    exact this
  have hlen := hg.len
  have hs0 := hg.s0
  clear hB hL hg hf hk
  generalize hW : (((w.alloc (.cells #[.slice aB B.length kB, .int .i64 F, .slice aL L.length kL, .int .i64 s] 27)).alloc (.cells #[.int .i64 k, .int .i64 p, .int .i64 n, .string D, .int .i64 m] 44)).alloc (.cells #[.slice none 0 0, .int .i64 0, .slice none 0 0, .int .i64 0] 27)) = W at *
  obtain ⟨x0, x1, x2, x3⟩ := HK.out.vol
  go_enter Try.func22, Try.ntmps22
  go_wp2_with fail
  clear hW
  refine (HG.out _ HK.out.below).mono ?_
  rintro e w2 ⟨rfl, b2⟩
  have HK2 := hid (HK.out.on b2)
  clear b2 HK HG x0 x1 x2 x3
  obtain ⟨x0, x1, x2, x3⟩ := HK2.out.vol
  obtain ⟨o0, o1, o2, o3, o4⟩ := HK2.out.op
  go_wp2_with fail
  refine (HND.out _).mono ?_
  rintro e w3 ⟨rfl, b3⟩
  have HK3 := hid (HK2.out.on b3)
  clear b3 HK2 HND x0 x1 x2 x3 o0 o1 o2 o3 o4
  cases hnd : needOk ⟨k, p, n, D, m⟩
  · have HNO := hid (doV_need (B := B) (F := F) (L := L) (s := s) hnd)
    clear hnd
    have hKz := HK3.out.fill (.slice none 0 0) (.int .i64 0) (.slice none 0 0) (.int .i64 0)
    have ez0 : ((((w3.setCell ⟨w.heap.size + 1 + 1, 0, none⟩ (.slice none 0 0)).setCell ⟨w.heap.size + 1 + 1, 1, none⟩ (.int .i64 0)).setCell ⟨w.heap.size + 1 + 1, 2, none⟩ (.slice none 0 0)).setCell ⟨w.heap.size + 1 + 1, 3, none⟩ (.int .i64 0)).cell? ⟨w.heap.size + 1 + 1, 0, none⟩ = some (.slice none 0 0) := box_cell hKz.z 0
    have ez1 : ((((w3.setCell ⟨w.heap.size + 1 + 1, 0, none⟩ (.slice none 0 0)).setCell ⟨w.heap.size + 1 + 1, 1, none⟩ (.int .i64 0)).setCell ⟨w.heap.size + 1 + 1, 2, none⟩ (.slice none 0 0)).setCell ⟨w.heap.size + 1 + 1, 3, none⟩ (.int .i64 0)).cell? ⟨w.heap.size + 1 + 1, 1, none⟩ = some (.int .i64 0) := box_cell hKz.z 1
    have ez2 : ((((w3.setCell ⟨w.heap.size + 1 + 1, 0, none⟩ (.slice none 0 0)).setCell ⟨w.heap.size + 1 + 1, 1, none⟩ (.int .i64 0)).setCell ⟨w.heap.size + 1 + 1, 2, none⟩ (.slice none 0 0)).setCell ⟨w.heap.size + 1 + 1, 3, none⟩ (.int .i64 0)).cell? ⟨w.heap.size + 1 + 1, 2, none⟩ = some (.slice none 0 0) := box_cell hKz.z 2
    have ez3 : ((((w3.setCell ⟨w.heap.size + 1 + 1, 0, none⟩ (.slice none 0 0)).setCell ⟨w.heap.size + 1 + 1, 1, none⟩ (.int .i64 0)).setCell ⟨w.heap.size + 1 + 1, 2, none⟩ (.slice none 0 0)).setCell ⟨w.heap.size + 1 + 1, 3, none⟩ (.int .i64 0)).cell? ⟨w.heap.size + 1 + 1, 3, none⟩ = some (.int .i64 0) := box_cell hKz.z 3
    have HBz := hid hKz.below
    obtain ⟨⟨z0, z1, z2, z3⟩, f0, f1, f2, f3⟩ := HK3.out.cells
    clear hKz
    go_wp2_with fail
    generalize ((((w3.setCell ⟨w.heap.size + 1 + 1, 0, none⟩ (.slice none 0 0)).setCell ⟨w.heap.size + 1 + 1, 1, none⟩ (.int .i64 0)).setCell ⟨w.heap.size + 1 + 1, 2, none⟩ (.slice none 0 0)).setCell ⟨w.heap.size + 1 + 1, 3, none⟩ (.int .i64 0)) = XX at *
    refine bodyPost_ret (v := .tuple #[.agg #[.slice none 0 0, .int .i64 0, .slice none 0 0, .int .i64 0], .bool false]) (by simp [results, Try.results22, go_sem, ez0, ez1, ez2, ez3]) rfl ?_
    rw [HNO.out]
    exact ⟨rfl, HBz.out⟩
  obtain ⟨x0, x1, x2, x3⟩ := HK3.out.vol
  obtain ⟨o0, o1, o2, o3, o4⟩ := HK3.out.op
  have HND := hid hnd
  clear hnd
  go_wp2_with fail
  refine (HCP.out _ HK3.out.below).mono ?_
  rintro e w4 ⟨mid, a1, c1, a2, c2, rfl, hov, b4⟩
  have hK4 := HK3.out.on b4
  have b5 := boxB w4 (.cells #[.slice a1 B.length c1, .int .i64 F, .slice a2 L.length c2, .int .i64 s] 27)
  have hXD : (w4.alloc (.cells #[.slice a1 B.length c1, .int .i64 F, .slice a2 L.length c2, .int .i64 s] 27)).heap[w4.heap.size]? = some (.cells #[.slice a1 B.length c1, .int .i64 F, .slice a2 L.length c2, .int .i64 s] 27) := heap_last _ _
  have hlo := HK3.out.size
  have b4s := b4.size
  have hbd : ∀ g, (Value.slice a1 B.length c1).ownBlock = some g → g < w4.heap.size := fun g hg => (hov.base.lt g hg).2
  have hld : ∀ g, (Value.slice a2 L.length c2).ownBlock = some g → g < w4.heap.size := fun g hg => (hov.log.lt g hg).2
  have HOV := hid (hov.below b5)
  have HK5 := hid (hK4.on b5)
  have HXD := hid hXD
  have hsz5 : (w4.alloc (.cells #[.slice a1 B.length c1, .int .i64 F, .slice a2 L.length c2, .int .i64 s] 27)).heap.size = w4.heap.size + 1 := heap_size _ _
  have HBD := hid hbd
  have HLD := hid hld
  clear hov b4 hK4 b5 hXD HK3 HCP x0 x1 x2 x3 o0 o1 o2 o3 o4 hbd hld
  generalize hW5 : w4.alloc (.cells #[.slice a1 B.length c1, .int .i64 F, .slice a2 L.length c2, .int .i64 s] 27) = W5 at *
  have hXDlt : w4.heap.size < W5.heap.size := by omega
  have hX3 : w.heap.size + 3 ≤ w4.heap.size := by have := b4s; omega
  clear hsz5 b4s
  obtain ⟨x0, x1, x2, x3⟩ := HK5.out.vol
  obtain ⟨o0, o1, o2, o3, o4⟩ := HK5.out.op
  have d0 : W5.cell? ⟨w4.heap.size, 0, none⟩ = some (.slice a1 B.length c1) := box_cell HXD.out 0
  have g0 : W5.frozen? ⟨w4.heap.size, 0, none⟩ = false := box_free HXD.out 0
  have d1 : W5.cell? ⟨w4.heap.size, 1, none⟩ = some (.int .i64 F) := box_cell HXD.out 1
  have g1 : W5.frozen? ⟨w4.heap.size, 1, none⟩ = false := box_free HXD.out 1
  have d2 : W5.cell? ⟨w4.heap.size, 2, none⟩ = some (.slice a2 L.length c2) := box_cell HXD.out 2
  have g2 : W5.frozen? ⟨w4.heap.size, 2, none⟩ = false := box_free HXD.out 2
  have d3 : W5.cell? ⟨w4.heap.size, 3, none⟩ = some (.int .i64 s) := box_cell HXD.out 3
  have g3 : W5.frozen? ⟨w4.heap.size, 3, none⟩ = false := box_free HXD.out 3
  by_cases k6 : 1 ≤ k ∧ k ≤ 6
  case neg =>
    have HNO := hid (doV_other (B := B) (F := F) (L := L) (s := s) (o := ⟨k, p, n, D, m⟩) k6)
    have e1 : (k == 1) = false := beq_eq_false_iff_ne.2 (by omega)
    have e2 : (k == 2) = false := beq_eq_false_iff_ne.2 (by omega)
    have e3 : (k == 3) = false := beq_eq_false_iff_ne.2 (by omega)
    have e4 : (k == 4) = false := beq_eq_false_iff_ne.2 (by omega)
    have e5 : (k == 5) = false := beq_eq_false_iff_ne.2 (by omega)
    have e6 : (k == 6) = false := beq_eq_false_iff_ne.2 (by omega)
    have dd1 : decide (k = 1) = false := decide_eq_false (by omega)
    have dd2 : decide (k = 2) = false := decide_eq_false (by omega)
    have dd3 : decide (k = 3) = false := decide_eq_false (by omega)
    have dd4 : decide (k = 4) = false := decide_eq_false (by omega)
    have dd5 : decide (k = 5) = false := decide_eq_false (by omega)
    have dd6 : decide (k = 6) = false := decide_eq_false (by omega)
    clear k6
    have hKz := HK5.out.fill (.slice none 0 0) (.int .i64 0) (.slice none 0 0) (.int .i64 0)
    have ez0 : ((((W5.setCell ⟨w.heap.size + 1 + 1, 0, none⟩ (.slice none 0 0)).setCell ⟨w.heap.size + 1 + 1, 1, none⟩ (.int .i64 0)).setCell ⟨w.heap.size + 1 + 1, 2, none⟩ (.slice none 0 0)).setCell ⟨w.heap.size + 1 + 1, 3, none⟩ (.int .i64 0)).cell? ⟨w.heap.size + 1 + 1, 0, none⟩ = some (.slice none 0 0) := box_cell hKz.z 0
    have ez1 : ((((W5.setCell ⟨w.heap.size + 1 + 1, 0, none⟩ (.slice none 0 0)).setCell ⟨w.heap.size + 1 + 1, 1, none⟩ (.int .i64 0)).setCell ⟨w.heap.size + 1 + 1, 2, none⟩ (.slice none 0 0)).setCell ⟨w.heap.size + 1 + 1, 3, none⟩ (.int .i64 0)).cell? ⟨w.heap.size + 1 + 1, 1, none⟩ = some (.int .i64 0) := box_cell hKz.z 1
    have ez2 : ((((W5.setCell ⟨w.heap.size + 1 + 1, 0, none⟩ (.slice none 0 0)).setCell ⟨w.heap.size + 1 + 1, 1, none⟩ (.int .i64 0)).setCell ⟨w.heap.size + 1 + 1, 2, none⟩ (.slice none 0 0)).setCell ⟨w.heap.size + 1 + 1, 3, none⟩ (.int .i64 0)).cell? ⟨w.heap.size + 1 + 1, 2, none⟩ = some (.slice none 0 0) := box_cell hKz.z 2
    have ez3 : ((((W5.setCell ⟨w.heap.size + 1 + 1, 0, none⟩ (.slice none 0 0)).setCell ⟨w.heap.size + 1 + 1, 1, none⟩ (.int .i64 0)).setCell ⟨w.heap.size + 1 + 1, 2, none⟩ (.slice none 0 0)).setCell ⟨w.heap.size + 1 + 1, 3, none⟩ (.int .i64 0)).cell? ⟨w.heap.size + 1 + 1, 3, none⟩ = some (.int .i64 0) := box_cell hKz.z 3
    have HBz := hid hKz.below
    obtain ⟨⟨z0, z1, z2, z3⟩, f0, f1, f2, f3⟩ := HK5.out.cells
    clear hKz
    go_wp2_with fail
    generalize ((((W5.setCell ⟨w.heap.size + 1 + 1, 0, none⟩ (.slice none 0 0)).setCell ⟨w.heap.size + 1 + 1, 1, none⟩ (.int .i64 0)).setCell ⟨w.heap.size + 1 + 1, 2, none⟩ (.slice none 0 0)).setCell ⟨w.heap.size + 1 + 1, 3, none⟩ (.int .i64 0)) = XX at *
    refine bodyPost_ret (v := .tuple #[.agg #[.slice none 0 0, .int .i64 0, .slice none 0 0, .int .i64 0], .bool false]) (by simp [results, Try.results22, go_sem, ez0, ez1, ez2, ez3]) rfl ?_
    rw [HNO.out]
    exact ⟨rfl, HBz.out⟩
  have HRS : Hid (¬ (1 ≤ k ∧ k ≤ 3) → restOk ⟨k, p, n, D, m⟩) := fun h => of_decide_eq_true ((need_rest (o := ⟨k, p, n, D, m⟩) h).symm.trans HND.out)
  by_cases k4 : k = 4
  · subst k4
    have HEQ := hid (doV_four (B := B) (F := F) (L := L) (s := s) (o := ⟨4, p, n, D, m⟩) rfl (HRS.out (by omega)))
    have hK6 := HK5.out.step (setB (Below.refl (w.heap.size + 3) W5) w4.heap.size 3 hX3 (.int .i64 (L.length : Int)))
    have hO6 := HOV.out.apart w4.heap.size 3 (.int .i64 (L.length : Int)) (fun g hg => by have := HBD.out g hg; omega) (fun g hg => by have := HLD.out g hg; omega)
    have hKr := hK6.fill (.slice a1 B.length c1) (.int .i64 F) (.slice a2 L.length c2) (.int .i64 (L.length : Int))
    have er0 : (((((W5.setCell ⟨w4.heap.size, 3, none⟩ (.int .i64 (L.length : Int))).setCell ⟨w.heap.size + 1 + 1, 0, none⟩ (.slice a1 B.length c1)).setCell ⟨w.heap.size + 1 + 1, 1, none⟩ (.int .i64 F)).setCell ⟨w.heap.size + 1 + 1, 2, none⟩ (.slice a2 L.length c2)).setCell ⟨w.heap.size + 1 + 1, 3, none⟩ (.int .i64 (L.length : Int))).cell? ⟨w.heap.size + 1 + 1, 0, none⟩ = some (.slice a1 B.length c1) := box_cell hKr.z 0
    have er1 : (((((W5.setCell ⟨w4.heap.size, 3, none⟩ (.int .i64 (L.length : Int))).setCell ⟨w.heap.size + 1 + 1, 0, none⟩ (.slice a1 B.length c1)).setCell ⟨w.heap.size + 1 + 1, 1, none⟩ (.int .i64 F)).setCell ⟨w.heap.size + 1 + 1, 2, none⟩ (.slice a2 L.length c2)).setCell ⟨w.heap.size + 1 + 1, 3, none⟩ (.int .i64 (L.length : Int))).cell? ⟨w.heap.size + 1 + 1, 1, none⟩ = some (.int .i64 F) := box_cell hKr.z 1
    have er2 : (((((W5.setCell ⟨w4.heap.size, 3, none⟩ (.int .i64 (L.length : Int))).setCell ⟨w.heap.size + 1 + 1, 0, none⟩ (.slice a1 B.length c1)).setCell ⟨w.heap.size + 1 + 1, 1, none⟩ (.int .i64 F)).setCell ⟨w.heap.size + 1 + 1, 2, none⟩ (.slice a2 L.length c2)).setCell ⟨w.heap.size + 1 + 1, 3, none⟩ (.int .i64 (L.length : Int))).cell? ⟨w.heap.size + 1 + 1, 2, none⟩ = some (.slice a2 L.length c2) := box_cell hKr.z 2
    have er3 : (((((W5.setCell ⟨w4.heap.size, 3, none⟩ (.int .i64 (L.length : Int))).setCell ⟨w.heap.size + 1 + 1, 0, none⟩ (.slice a1 B.length c1)).setCell ⟨w.heap.size + 1 + 1, 1, none⟩ (.int .i64 F)).setCell ⟨w.heap.size + 1 + 1, 2, none⟩ (.slice a2 L.length c2)).setCell ⟨w.heap.size + 1 + 1, 3, none⟩ (.int .i64 (L.length : Int))).cell? ⟨w.heap.size + 1 + 1, 3, none⟩ = some (.int .i64 (L.length : Int)) := box_cell hKr.z 3
    have HBr := hid hKr.below
    have hOr := (((hO6.set (w.heap.size + 1 + 1) 0 (.slice a1 B.length c1) (by omega)).set (w.heap.size + 1 + 1) 1 (.int .i64 F) (by omega)).set (w.heap.size + 1 + 1) 2 (.slice a2 L.length c2) (by omega)).set (w.heap.size + 1 + 1) 3 (.int .i64 (L.length : Int)) (by omega)
    have HCr := hid (rw_capV hOr.log)
    try rw [hnq] at HCr
    try rw [hl1] at HCr
    have HOr := hid (hOr.lower (show w.heap.size ≤ w3.heap.size by omega)).own
    obtain ⟨⟨z0, z1, z2, z3⟩, f0, f1, f2, f3⟩ := hK6.cells
    clear hKr hOr
    go_wp2_with fail
    generalize (((((W5.setCell ⟨w4.heap.size, 3, none⟩ (.int .i64 (L.length : Int))).setCell ⟨w.heap.size + 1 + 1, 0, none⟩ (.slice a1 B.length c1)).setCell ⟨w.heap.size + 1 + 1, 1, none⟩ (.int .i64 F)).setCell ⟨w.heap.size + 1 + 1, 2, none⟩ (.slice a2 L.length c2)).setCell ⟨w.heap.size + 1 + 1, 3, none⟩ (.int .i64 (L.length : Int))) = XX at *
    refine bodyPost_ret (v := .tuple #[.agg #[.slice a1 B.length c1, .int .i64 F, .slice a2 L.length c2, .int .i64 (L.length : Int)], .bool true]) (by simp [results, Try.results22, go_sem, er0, er1, er2, er3]) rfl ?_
    rw [HEQ.out]
    exact ⟨_, _, _, _, HCr.out, rfl, HOr.out, HBr.out⟩
  by_cases k6f : k = 6
  · subst k6f
    have HEQ := hid (doV_six (B := B) (F := F) (L := L) (s := s) (o := ⟨6, p, n, D, m⟩) rfl (HRS.out (by omega)))
    have HC6 := hid (HFS.out W5 HK5.out.below)
    unfold FdOutK at HC6
    generalize hB9 : doL B (L.take s.toNat) = B9 at *
    generalize hm9 : markF F (L.take s.toNat) = mk at *
    generalize hL9 : L.drop s.toNat = L9 at *
    have HEQ2 : Hid (doV B F L s ⟨6, p, n, D, m⟩ = some (B9, mk, L9, 0)) := by
      show doV B F L s ⟨6, p, n, D, m⟩ = _
      rw [HEQ.out]; unfold foldDo; rw [hB9, hm9, hL9]
    have HDO : Hid (∀ e w', (∃ aB' kB' aL' kL', L9.length ≤ kL' ∧ e = .returned (.tuple #[.agg #[.slice aB' B9.length kB', .int .i64 mk, .slice aL' L9.length kL', .int .i64 0], .bool true]) ∧ OwnV w.heap.size w'.heap.size aB' B9 aL' L9 w' ∧ Below w.heap.size w w') → DOutK (doV B F L s ⟨6, p, n, D, m⟩) w e w') := fun e w' h => by rw [HEQ2.out]; exact h
    clear hB9 hm9 hL9 HEQ
    generalize B9.length = n1 at *
    generalize L9.length = n2 at *
    go_wp2_with fail
    refine HC6.out.mono ?_
    rintro e w6 ⟨b1, j1, b2, j2, hc6, rfl, ho6, b6⟩
    have HCr := hid hc6
    clear hc6
    have hK6 := HK5.out.on b6
    have hX6 := (b6.block w4.heap.size hXDlt).trans HXD.out
    have hs6 := b6.size
    clear d0 d1 d2 d3 g0 g1 g2 g3 x0 x1 x2 x3 o0 o1 o2 o3 o4
    have d0 : w6.cell? ⟨w4.heap.size, 0, none⟩ = some (.slice a1 B.length c1) := box_cell hX6 0
    have g0 : w6.frozen? ⟨w4.heap.size, 0, none⟩ = false := box_free hX6 0
    have d1 : w6.cell? ⟨w4.heap.size, 1, none⟩ = some (.int .i64 F) := box_cell hX6 1
    have g1 : w6.frozen? ⟨w4.heap.size, 1, none⟩ = false := box_free hX6 1
    have d2 : w6.cell? ⟨w4.heap.size, 2, none⟩ = some (.slice a2 L.length c2) := box_cell hX6 2
    have g2 : w6.frozen? ⟨w4.heap.size, 2, none⟩ = false := box_free hX6 2
    have d3 : w6.cell? ⟨w4.heap.size, 3, none⟩ = some (.int .i64 s) := box_cell hX6 3
    have g3 : w6.frozen? ⟨w4.heap.size, 3, none⟩ = false := box_free hX6 3
    have hK7 := hK6.step (setB (setB (setB (setB (Below.refl (w.heap.size + 3) w6) w4.heap.size 0 hX3 (.slice b1 n1 j1)) w4.heap.size 1 hX3 (.int .i64 mk)) w4.heap.size 2 hX3 (.slice b2 n2 j2)) w4.heap.size 3 hX3 (.int .i64 0))
    have hKr := hK7.fill (.slice b1 n1 j1) (.int .i64 mk) (.slice b2 n2 j2) (.int .i64 0)
    have er0 : ((((((((w6.setCell ⟨w4.heap.size, 0, none⟩ (.slice b1 n1 j1)).setCell ⟨w4.heap.size, 1, none⟩ (.int .i64 mk)).setCell ⟨w4.heap.size, 2, none⟩ (.slice b2 n2 j2)).setCell ⟨w4.heap.size, 3, none⟩ (.int .i64 0)).setCell ⟨w.heap.size + 1 + 1, 0, none⟩ (.slice b1 n1 j1)).setCell ⟨w.heap.size + 1 + 1, 1, none⟩ (.int .i64 mk)).setCell ⟨w.heap.size + 1 + 1, 2, none⟩ (.slice b2 n2 j2)).setCell ⟨w.heap.size + 1 + 1, 3, none⟩ (.int .i64 0)).cell? ⟨w.heap.size + 1 + 1, 0, none⟩ = some (.slice b1 n1 j1) := box_cell hKr.z 0
    have er1 : ((((((((w6.setCell ⟨w4.heap.size, 0, none⟩ (.slice b1 n1 j1)).setCell ⟨w4.heap.size, 1, none⟩ (.int .i64 mk)).setCell ⟨w4.heap.size, 2, none⟩ (.slice b2 n2 j2)).setCell ⟨w4.heap.size, 3, none⟩ (.int .i64 0)).setCell ⟨w.heap.size + 1 + 1, 0, none⟩ (.slice b1 n1 j1)).setCell ⟨w.heap.size + 1 + 1, 1, none⟩ (.int .i64 mk)).setCell ⟨w.heap.size + 1 + 1, 2, none⟩ (.slice b2 n2 j2)).setCell ⟨w.heap.size + 1 + 1, 3, none⟩ (.int .i64 0)).cell? ⟨w.heap.size + 1 + 1, 1, none⟩ = some (.int .i64 mk) := box_cell hKr.z 1
    have er2 : ((((((((w6.setCell ⟨w4.heap.size, 0, none⟩ (.slice b1 n1 j1)).setCell ⟨w4.heap.size, 1, none⟩ (.int .i64 mk)).setCell ⟨w4.heap.size, 2, none⟩ (.slice b2 n2 j2)).setCell ⟨w4.heap.size, 3, none⟩ (.int .i64 0)).setCell ⟨w.heap.size + 1 + 1, 0, none⟩ (.slice b1 n1 j1)).setCell ⟨w.heap.size + 1 + 1, 1, none⟩ (.int .i64 mk)).setCell ⟨w.heap.size + 1 + 1, 2, none⟩ (.slice b2 n2 j2)).setCell ⟨w.heap.size + 1 + 1, 3, none⟩ (.int .i64 0)).cell? ⟨w.heap.size + 1 + 1, 2, none⟩ = some (.slice b2 n2 j2) := box_cell hKr.z 2
    have er3 : ((((((((w6.setCell ⟨w4.heap.size, 0, none⟩ (.slice b1 n1 j1)).setCell ⟨w4.heap.size, 1, none⟩ (.int .i64 mk)).setCell ⟨w4.heap.size, 2, none⟩ (.slice b2 n2 j2)).setCell ⟨w4.heap.size, 3, none⟩ (.int .i64 0)).setCell ⟨w.heap.size + 1 + 1, 0, none⟩ (.slice b1 n1 j1)).setCell ⟨w.heap.size + 1 + 1, 1, none⟩ (.int .i64 mk)).setCell ⟨w.heap.size + 1 + 1, 2, none⟩ (.slice b2 n2 j2)).setCell ⟨w.heap.size + 1 + 1, 3, none⟩ (.int .i64 0)).cell? ⟨w.heap.size + 1 + 1, 3, none⟩ = some (.int .i64 0) := box_cell hKr.z 3
    have HBr := hid hKr.below
    have hP0 := ownV_set ho6 w4.heap.size 0 (.slice b1 n1 j1) hXDlt
    have hP1 := ownV_set hP0 w4.heap.size 1 (.int .i64 mk) hXDlt
    have hP2 := ownV_set hP1 w4.heap.size 2 (.slice b2 n2 j2) hXDlt
    have hP3 := ownV_set hP2 w4.heap.size 3 (.int .i64 0) hXDlt
    have hP4 := ownV_set hP3 (w.heap.size + 1 + 1) 0 (.slice b1 n1 j1) (by omega)
    have hP5 := ownV_set hP4 (w.heap.size + 1 + 1) 1 (.int .i64 mk) (by omega)
    have hP6 := ownV_set hP5 (w.heap.size + 1 + 1) 2 (.slice b2 n2 j2) (by omega)
    have hP7 := ownV_set hP6 (w.heap.size + 1 + 1) 3 (.int .i64 0) (by omega)
    have hz8 : ((((((((w6.setCell ⟨w4.heap.size, 0, none⟩ (.slice b1 n1 j1)).setCell ⟨w4.heap.size, 1, none⟩ (.int .i64 mk)).setCell ⟨w4.heap.size, 2, none⟩ (.slice b2 n2 j2)).setCell ⟨w4.heap.size, 3, none⟩ (.int .i64 0)).setCell ⟨w.heap.size + 1 + 1, 0, none⟩ (.slice b1 n1 j1)).setCell ⟨w.heap.size + 1 + 1, 1, none⟩ (.int .i64 mk)).setCell ⟨w.heap.size + 1 + 1, 2, none⟩ (.slice b2 n2 j2)).setCell ⟨w.heap.size + 1 + 1, 3, none⟩ (.int .i64 0)).heap.size = w6.heap.size := by simp [World.setCell]
    have HOr : Hid (OwnV w.heap.size ((((((((w6.setCell ⟨w4.heap.size, 0, none⟩ (.slice b1 n1 j1)).setCell ⟨w4.heap.size, 1, none⟩ (.int .i64 mk)).setCell ⟨w4.heap.size, 2, none⟩ (.slice b2 n2 j2)).setCell ⟨w4.heap.size, 3, none⟩ (.int .i64 0)).setCell ⟨w.heap.size + 1 + 1, 0, none⟩ (.slice b1 n1 j1)).setCell ⟨w.heap.size + 1 + 1, 1, none⟩ (.int .i64 mk)).setCell ⟨w.heap.size + 1 + 1, 2, none⟩ (.slice b2 n2 j2)).setCell ⟨w.heap.size + 1 + 1, 3, none⟩ (.int .i64 0)).heap.size b1 B9 b2 L9 ((((((((w6.setCell ⟨w4.heap.size, 0, none⟩ (.slice b1 n1 j1)).setCell ⟨w4.heap.size, 1, none⟩ (.int .i64 mk)).setCell ⟨w4.heap.size, 2, none⟩ (.slice b2 n2 j2)).setCell ⟨w4.heap.size, 3, none⟩ (.int .i64 0)).setCell ⟨w.heap.size + 1 + 1, 0, none⟩ (.slice b1 n1 j1)).setCell ⟨w.heap.size + 1 + 1, 1, none⟩ (.int .i64 mk)).setCell ⟨w.heap.size + 1 + 1, 2, none⟩ (.slice b2 n2 j2)).setCell ⟨w.heap.size + 1 + 1, 3, none⟩ (.int .i64 0))) := by
      show OwnV w.heap.size ((((((((w6.setCell ⟨w4.heap.size, 0, none⟩ (.slice b1 n1 j1)).setCell ⟨w4.heap.size, 1, none⟩ (.int .i64 mk)).setCell ⟨w4.heap.size, 2, none⟩ (.slice b2 n2 j2)).setCell ⟨w4.heap.size, 3, none⟩ (.int .i64 0)).setCell ⟨w.heap.size + 1 + 1, 0, none⟩ (.slice b1 n1 j1)).setCell ⟨w.heap.size + 1 + 1, 1, none⟩ (.int .i64 mk)).setCell ⟨w.heap.size + 1 + 1, 2, none⟩ (.slice b2 n2 j2)).setCell ⟨w.heap.size + 1 + 1, 3, none⟩ (.int .i64 0)).heap.size b1 B9 b2 L9 ((((((((w6.setCell ⟨w4.heap.size, 0, none⟩ (.slice b1 n1 j1)).setCell ⟨w4.heap.size, 1, none⟩ (.int .i64 mk)).setCell ⟨w4.heap.size, 2, none⟩ (.slice b2 n2 j2)).setCell ⟨w4.heap.size, 3, none⟩ (.int .i64 0)).setCell ⟨w.heap.size + 1 + 1, 0, none⟩ (.slice b1 n1 j1)).setCell ⟨w.heap.size + 1 + 1, 1, none⟩ (.int .i64 mk)).setCell ⟨w.heap.size + 1 + 1, 2, none⟩ (.slice b2 n2 j2)).setCell ⟨w.heap.size + 1 + 1, 3, none⟩ (.int .i64 0))
      rw [hz8]
      exact ownV_lower hP7 (by omega)
    obtain ⟨⟨z0, z1, z2, z3⟩, f0, f1, f2, f3⟩ := hK6.cells
    clear hKr hP0 hP1 hP2 hP3 hP4 hP5 hP6 hP7 hK7 ho6 b6 hz8
    go_wp2_with fail
    generalize ((((((((w6.setCell ⟨w4.heap.size, 0, none⟩ (.slice b1 n1 j1)).setCell ⟨w4.heap.size, 1, none⟩ (.int .i64 mk)).setCell ⟨w4.heap.size, 2, none⟩ (.slice b2 n2 j2)).setCell ⟨w4.heap.size, 3, none⟩ (.int .i64 0)).setCell ⟨w.heap.size + 1 + 1, 0, none⟩ (.slice b1 n1 j1)).setCell ⟨w.heap.size + 1 + 1, 1, none⟩ (.int .i64 mk)).setCell ⟨w.heap.size + 1 + 1, 2, none⟩ (.slice b2 n2 j2)).setCell ⟨w.heap.size + 1 + 1, 3, none⟩ (.int .i64 0)) = XX at *
    refine bodyPost_ret (v := .tuple #[.agg #[.slice b1 n1 j1, .int .i64 mk, .slice b2 n2 j2, .int .i64 0], .bool true]) (by simp [results, Try.results22, go_sem, er0, er1, er2, er3]) rfl ?_
    exact HDO.out _ _ ⟨_, _, _, _, HCr.out, rfl, HOr.out, HBr.out⟩
  by_cases k5 : k = 5
  · subst k5
    have HEQ := hid (doV_five (B := B) (F := F) (L := L) (s := s) (o := ⟨5, p, n, D, m⟩) rfl (HRS.out (by omega)))
    by_cases hc : s ≤ m ∧ m ≤ L.length
    case neg =>
      have HNO : Hid (doV B F L s ⟨5, p, n, D, m⟩ = none) := by
        show doV B F L s ⟨5, p, n, D, m⟩ = none
        rw [HEQ.out]; unfold crashDo; rw [if_neg hc]
      by_cases h1 : s ≤ m
      · have q1 : decide (m < s) = false := decide_eq_false (by omega)
        have q2 : decide ((L.length : Int) < m) = true := decide_eq_true (by omega)
        clear hc HEQ h1
        have hKz := HK5.out.fill (.slice none 0 0) (.int .i64 0) (.slice none 0 0) (.int .i64 0)
        have ez0 : ((((W5.setCell ⟨w.heap.size + 1 + 1, 0, none⟩ (.slice none 0 0)).setCell ⟨w.heap.size + 1 + 1, 1, none⟩ (.int .i64 0)).setCell ⟨w.heap.size + 1 + 1, 2, none⟩ (.slice none 0 0)).setCell ⟨w.heap.size + 1 + 1, 3, none⟩ (.int .i64 0)).cell? ⟨w.heap.size + 1 + 1, 0, none⟩ = some (.slice none 0 0) := box_cell hKz.z 0
        have ez1 : ((((W5.setCell ⟨w.heap.size + 1 + 1, 0, none⟩ (.slice none 0 0)).setCell ⟨w.heap.size + 1 + 1, 1, none⟩ (.int .i64 0)).setCell ⟨w.heap.size + 1 + 1, 2, none⟩ (.slice none 0 0)).setCell ⟨w.heap.size + 1 + 1, 3, none⟩ (.int .i64 0)).cell? ⟨w.heap.size + 1 + 1, 1, none⟩ = some (.int .i64 0) := box_cell hKz.z 1
        have ez2 : ((((W5.setCell ⟨w.heap.size + 1 + 1, 0, none⟩ (.slice none 0 0)).setCell ⟨w.heap.size + 1 + 1, 1, none⟩ (.int .i64 0)).setCell ⟨w.heap.size + 1 + 1, 2, none⟩ (.slice none 0 0)).setCell ⟨w.heap.size + 1 + 1, 3, none⟩ (.int .i64 0)).cell? ⟨w.heap.size + 1 + 1, 2, none⟩ = some (.slice none 0 0) := box_cell hKz.z 2
        have ez3 : ((((W5.setCell ⟨w.heap.size + 1 + 1, 0, none⟩ (.slice none 0 0)).setCell ⟨w.heap.size + 1 + 1, 1, none⟩ (.int .i64 0)).setCell ⟨w.heap.size + 1 + 1, 2, none⟩ (.slice none 0 0)).setCell ⟨w.heap.size + 1 + 1, 3, none⟩ (.int .i64 0)).cell? ⟨w.heap.size + 1 + 1, 3, none⟩ = some (.int .i64 0) := box_cell hKz.z 3
        have HBz := hid hKz.below
        obtain ⟨⟨z0, z1, z2, z3⟩, f0, f1, f2, f3⟩ := HK5.out.cells
        clear hKz
        go_wp2_with fail
        generalize ((((W5.setCell ⟨w.heap.size + 1 + 1, 0, none⟩ (.slice none 0 0)).setCell ⟨w.heap.size + 1 + 1, 1, none⟩ (.int .i64 0)).setCell ⟨w.heap.size + 1 + 1, 2, none⟩ (.slice none 0 0)).setCell ⟨w.heap.size + 1 + 1, 3, none⟩ (.int .i64 0)) = XX at *
        refine bodyPost_ret (v := .tuple #[.agg #[.slice none 0 0, .int .i64 0, .slice none 0 0, .int .i64 0], .bool false]) (by simp [results, Try.results22, go_sem, ez0, ez1, ez2, ez3]) rfl ?_
        rw [HNO.out]
        exact ⟨rfl, HBz.out⟩
      · have q1 : decide (m < s) = true := decide_eq_true (by omega)
        clear hc HEQ h1
        have hKz := HK5.out.fill (.slice none 0 0) (.int .i64 0) (.slice none 0 0) (.int .i64 0)
        have ez0 : ((((W5.setCell ⟨w.heap.size + 1 + 1, 0, none⟩ (.slice none 0 0)).setCell ⟨w.heap.size + 1 + 1, 1, none⟩ (.int .i64 0)).setCell ⟨w.heap.size + 1 + 1, 2, none⟩ (.slice none 0 0)).setCell ⟨w.heap.size + 1 + 1, 3, none⟩ (.int .i64 0)).cell? ⟨w.heap.size + 1 + 1, 0, none⟩ = some (.slice none 0 0) := box_cell hKz.z 0
        have ez1 : ((((W5.setCell ⟨w.heap.size + 1 + 1, 0, none⟩ (.slice none 0 0)).setCell ⟨w.heap.size + 1 + 1, 1, none⟩ (.int .i64 0)).setCell ⟨w.heap.size + 1 + 1, 2, none⟩ (.slice none 0 0)).setCell ⟨w.heap.size + 1 + 1, 3, none⟩ (.int .i64 0)).cell? ⟨w.heap.size + 1 + 1, 1, none⟩ = some (.int .i64 0) := box_cell hKz.z 1
        have ez2 : ((((W5.setCell ⟨w.heap.size + 1 + 1, 0, none⟩ (.slice none 0 0)).setCell ⟨w.heap.size + 1 + 1, 1, none⟩ (.int .i64 0)).setCell ⟨w.heap.size + 1 + 1, 2, none⟩ (.slice none 0 0)).setCell ⟨w.heap.size + 1 + 1, 3, none⟩ (.int .i64 0)).cell? ⟨w.heap.size + 1 + 1, 2, none⟩ = some (.slice none 0 0) := box_cell hKz.z 2
        have ez3 : ((((W5.setCell ⟨w.heap.size + 1 + 1, 0, none⟩ (.slice none 0 0)).setCell ⟨w.heap.size + 1 + 1, 1, none⟩ (.int .i64 0)).setCell ⟨w.heap.size + 1 + 1, 2, none⟩ (.slice none 0 0)).setCell ⟨w.heap.size + 1 + 1, 3, none⟩ (.int .i64 0)).cell? ⟨w.heap.size + 1 + 1, 3, none⟩ = some (.int .i64 0) := box_cell hKz.z 3
        have HBz := hid hKz.below
        obtain ⟨⟨z0, z1, z2, z3⟩, f0, f1, f2, f3⟩ := HK5.out.cells
        clear hKz
        go_wp2_with fail
        generalize ((((W5.setCell ⟨w.heap.size + 1 + 1, 0, none⟩ (.slice none 0 0)).setCell ⟨w.heap.size + 1 + 1, 1, none⟩ (.int .i64 0)).setCell ⟨w.heap.size + 1 + 1, 2, none⟩ (.slice none 0 0)).setCell ⟨w.heap.size + 1 + 1, 3, none⟩ (.int .i64 0)) = XX at *
        refine bodyPost_ret (v := .tuple #[.agg #[.slice none 0 0, .int .i64 0, .slice none 0 0, .int .i64 0], .bool false]) (by simp [results, Try.results22, go_sem, ez0, ez1, ez2, ez3]) rfl ?_
        rw [HNO.out]
        exact ⟨rfl, HBz.out⟩
    obtain ⟨q, rfl⟩ : ∃ q : Nat, m = q := ⟨m.toNat, by have := hs0; omega⟩
    have hq : q ≤ L.length := by omega
    have q1 : decide ((q : Int) < s) = false := decide_eq_false (by omega)
    have q2 : decide ((L.length : Int) < (q : Int)) = false := decide_eq_false (by omega)
    have q3 : decide (L.length < q) = false := decide_eq_false (by omega)
    have HEQ2 : Hid (doV B F L s ⟨5, p, n, D, (q : Int)⟩ = some (B, F, L.take q, (q : Int))) := by
      show doV B F L s ⟨5, p, n, D, (q : Int)⟩ = _
      rw [HEQ.out]; unfold crashDo; rw [if_pos hc]; rfl
    obtain ⟨cc, hc1, hcr⟩ := HCR.out q hq
    have HC6 := hid (hcr W5 HK5.out.below)
    have hnq : (L.take q).length = q := by rw [List.length_take]; omega
    rw [hnq] at hc1 HC6
    clear hc HEQ hcr
    go_wp2_with fail
    refine HC6.out.mono ?_
    rintro e w6 ⟨b2, j2, rfl, ho6, b6⟩
    have hK6 := HK5.out.on b6
    have hX6 := (b6.block w4.heap.size hXDlt).trans HXD.out
    have hs6 := b6.size
    have hO6 : OV w3.heap.size W5.heap.size a1 c1 B b2 j2 (L.take q) w6 := ⟨by have := HOV.out.lm; have := HOV.out.mh; omega, hs6, rw_below HOV.out.base b6, fun g hg => by have := HBD.out g hg; omega, by rw [hnq]; exact ho6⟩
    clear d0 d1 d2 d3 g0 g1 g2 g3 x0 x1 x2 x3 o0 o1 o2 o3 o4
    have d0 : w6.cell? ⟨w4.heap.size, 0, none⟩ = some (.slice a1 B.length c1) := box_cell hX6 0
    have g0 : w6.frozen? ⟨w4.heap.size, 0, none⟩ = false := box_free hX6 0
    have d1 : w6.cell? ⟨w4.heap.size, 1, none⟩ = some (.int .i64 F) := box_cell hX6 1
    have g1 : w6.frozen? ⟨w4.heap.size, 1, none⟩ = false := box_free hX6 1
    have d2 : w6.cell? ⟨w4.heap.size, 2, none⟩ = some (.slice a2 L.length c2) := box_cell hX6 2
    have g2 : w6.frozen? ⟨w4.heap.size, 2, none⟩ = false := box_free hX6 2
    have d3 : w6.cell? ⟨w4.heap.size, 3, none⟩ = some (.int .i64 s) := box_cell hX6 3
    have g3 : w6.frozen? ⟨w4.heap.size, 3, none⟩ = false := box_free hX6 3
    have hlg : ∀ g, (Value.slice b2 (L.take q).length j2).ownBlock = some g → g ≠ w4.heap.size := fun g hg => by have := (hO6.log.lt g hg).1; omega
    have hO7 := (hO6.apart w4.heap.size 2 (.slice b2 q j2) (fun g hg => by have := HBD.out g hg; omega) hlg).apart w4.heap.size 3 (.int .i64 (q : Int)) (fun g hg => by have := HBD.out g hg; omega) hlg
    have hK7 := hK6.step (setB (setB (Below.refl (w.heap.size + 3) w6) w4.heap.size 2 hX3 (.slice b2 q j2)) w4.heap.size 3 hX3 (.int .i64 (q : Int)))
    have HDO : Hid (∀ e w', (∃ aB' kB' aL' kL', q ≤ kL' ∧ e = .returned (.tuple #[.agg #[.slice aB' B.length kB', .int .i64 F, .slice aL' q kL', .int .i64 (q : Int)], .bool true]) ∧ OwnV w.heap.size w'.heap.size aB' B aL' (L.take q) w' ∧ Below w.heap.size w w') → DOutK (doV B F L s ⟨5, p, n, D, (q : Int)⟩) w e w') := fun e w' h => by
      rw [HEQ2.out]
      obtain ⟨x1, x2, x3, x4, h0, h1, h2, h3⟩ := h
      exact ⟨x1, x2, x3, x4, Nat.le_trans (Nat.le_of_eq hnq) h0, by rw [h1, hnq], h2, h3⟩
    have hKr := hK7.fill (.slice a1 B.length c1) (.int .i64 F) (.slice b2 q j2) (.int .i64 (q : Int))
    have er0 : ((((((w6.setCell ⟨w4.heap.size, 2, none⟩ (.slice b2 q j2)).setCell ⟨w4.heap.size, 3, none⟩ (.int .i64 (q : Int))).setCell ⟨w.heap.size + 1 + 1, 0, none⟩ (.slice a1 B.length c1)).setCell ⟨w.heap.size + 1 + 1, 1, none⟩ (.int .i64 F)).setCell ⟨w.heap.size + 1 + 1, 2, none⟩ (.slice b2 q j2)).setCell ⟨w.heap.size + 1 + 1, 3, none⟩ (.int .i64 (q : Int))).cell? ⟨w.heap.size + 1 + 1, 0, none⟩ = some (.slice a1 B.length c1) := box_cell hKr.z 0
    have er1 : ((((((w6.setCell ⟨w4.heap.size, 2, none⟩ (.slice b2 q j2)).setCell ⟨w4.heap.size, 3, none⟩ (.int .i64 (q : Int))).setCell ⟨w.heap.size + 1 + 1, 0, none⟩ (.slice a1 B.length c1)).setCell ⟨w.heap.size + 1 + 1, 1, none⟩ (.int .i64 F)).setCell ⟨w.heap.size + 1 + 1, 2, none⟩ (.slice b2 q j2)).setCell ⟨w.heap.size + 1 + 1, 3, none⟩ (.int .i64 (q : Int))).cell? ⟨w.heap.size + 1 + 1, 1, none⟩ = some (.int .i64 F) := box_cell hKr.z 1
    have er2 : ((((((w6.setCell ⟨w4.heap.size, 2, none⟩ (.slice b2 q j2)).setCell ⟨w4.heap.size, 3, none⟩ (.int .i64 (q : Int))).setCell ⟨w.heap.size + 1 + 1, 0, none⟩ (.slice a1 B.length c1)).setCell ⟨w.heap.size + 1 + 1, 1, none⟩ (.int .i64 F)).setCell ⟨w.heap.size + 1 + 1, 2, none⟩ (.slice b2 q j2)).setCell ⟨w.heap.size + 1 + 1, 3, none⟩ (.int .i64 (q : Int))).cell? ⟨w.heap.size + 1 + 1, 2, none⟩ = some (.slice b2 q j2) := box_cell hKr.z 2
    have er3 : ((((((w6.setCell ⟨w4.heap.size, 2, none⟩ (.slice b2 q j2)).setCell ⟨w4.heap.size, 3, none⟩ (.int .i64 (q : Int))).setCell ⟨w.heap.size + 1 + 1, 0, none⟩ (.slice a1 B.length c1)).setCell ⟨w.heap.size + 1 + 1, 1, none⟩ (.int .i64 F)).setCell ⟨w.heap.size + 1 + 1, 2, none⟩ (.slice b2 q j2)).setCell ⟨w.heap.size + 1 + 1, 3, none⟩ (.int .i64 (q : Int))).cell? ⟨w.heap.size + 1 + 1, 3, none⟩ = some (.int .i64 (q : Int)) := box_cell hKr.z 3
    have HBr := hid hKr.below
    have hOr := (((hO7.set (w.heap.size + 1 + 1) 0 (.slice a1 B.length c1) (by omega)).set (w.heap.size + 1 + 1) 1 (.int .i64 F) (by omega)).set (w.heap.size + 1 + 1) 2 (.slice b2 q j2) (by omega)).set (w.heap.size + 1 + 1) 3 (.int .i64 (q : Int)) (by omega)
    have HCr := hid (rw_capV hOr.log)
    try rw [hnq] at HCr
    try rw [hl1] at HCr
    have HOr := hid (hOr.lower (show w.heap.size ≤ w3.heap.size by omega)).own
    obtain ⟨⟨z0, z1, z2, z3⟩, f0, f1, f2, f3⟩ := hK6.cells
    have HNQ := hid hnq
    clear hKr hOr hK7 hO7 hO6 ho6 b6 hlg hnq
    go_wp2_with fail
    generalize ((((((w6.setCell ⟨w4.heap.size, 2, none⟩ (.slice b2 q j2)).setCell ⟨w4.heap.size, 3, none⟩ (.int .i64 (q : Int))).setCell ⟨w.heap.size + 1 + 1, 0, none⟩ (.slice a1 B.length c1)).setCell ⟨w.heap.size + 1 + 1, 1, none⟩ (.int .i64 F)).setCell ⟨w.heap.size + 1 + 1, 2, none⟩ (.slice b2 q j2)).setCell ⟨w.heap.size + 1 + 1, 3, none⟩ (.int .i64 (q : Int))) = XX at *
    refine bodyPost_ret (v := .tuple #[.agg #[.slice a1 B.length c1, .int .i64 F, .slice b2 q j2, .int .i64 (q : Int)], .bool true]) (by simp [results, Try.results22, go_sem, er0, er1, er2, er3]) rfl ?_
    exact HDO.out _ _ ⟨_, _, _, _, HCr.out, rfl, HOr.out, HBr.out⟩
  by_cases kk1 : k = 1
  · subst kk1
    have hXw := hXDlt
    have hXb := HXD.out
    have hOb := HOV.out
    clear d0 d1 d2 d3 g0 g1 g2 g3 x0 x1 x2 x3
    go_wp2_with fail
    refine (HRF.out _).mono ?_
    rintro e w6 ⟨rfl, b6⟩
    have hK6 := HK5.out.on b6
    have hX6 := (b6.block w4.heap.size hXw).trans hXb
    have hs6 := b6.size
    have hO6 := hOb.below b6
    clear b6
    cases hr : recOk ⟨1, p, n, D, m⟩
    · rw [recV_no hr]
      have HNO : Hid (doV B F L s ⟨1, p, n, D, m⟩ = none) := (doV_rec (o := ⟨1, p, n, D, m⟩) (show (1 : Int) ≤ 1 ∧ (1 : Int) ≤ 3 by omega)).trans (recDo_no hr)
      have HK7 := hid (hK6.on (boxB w6 (.cells #[.int .i64 0, .int .i64 0, .int .i64 0, .string ⟨#[]⟩] 58)))
      clear hr hK6 hX6 hO6
      have hKz := HK7.out.fill (.slice none 0 0) (.int .i64 0) (.slice none 0 0) (.int .i64 0)
      have ez0 : (((((w6.alloc (.cells #[.int .i64 0, .int .i64 0, .int .i64 0, .string ⟨#[]⟩] 58)).setCell ⟨w.heap.size + 1 + 1, 0, none⟩ (.slice none 0 0)).setCell ⟨w.heap.size + 1 + 1, 1, none⟩ (.int .i64 0)).setCell ⟨w.heap.size + 1 + 1, 2, none⟩ (.slice none 0 0)).setCell ⟨w.heap.size + 1 + 1, 3, none⟩ (.int .i64 0)).cell? ⟨w.heap.size + 1 + 1, 0, none⟩ = some (.slice none 0 0) := box_cell hKz.z 0
      have ez1 : (((((w6.alloc (.cells #[.int .i64 0, .int .i64 0, .int .i64 0, .string ⟨#[]⟩] 58)).setCell ⟨w.heap.size + 1 + 1, 0, none⟩ (.slice none 0 0)).setCell ⟨w.heap.size + 1 + 1, 1, none⟩ (.int .i64 0)).setCell ⟨w.heap.size + 1 + 1, 2, none⟩ (.slice none 0 0)).setCell ⟨w.heap.size + 1 + 1, 3, none⟩ (.int .i64 0)).cell? ⟨w.heap.size + 1 + 1, 1, none⟩ = some (.int .i64 0) := box_cell hKz.z 1
      have ez2 : (((((w6.alloc (.cells #[.int .i64 0, .int .i64 0, .int .i64 0, .string ⟨#[]⟩] 58)).setCell ⟨w.heap.size + 1 + 1, 0, none⟩ (.slice none 0 0)).setCell ⟨w.heap.size + 1 + 1, 1, none⟩ (.int .i64 0)).setCell ⟨w.heap.size + 1 + 1, 2, none⟩ (.slice none 0 0)).setCell ⟨w.heap.size + 1 + 1, 3, none⟩ (.int .i64 0)).cell? ⟨w.heap.size + 1 + 1, 2, none⟩ = some (.slice none 0 0) := box_cell hKz.z 2
      have ez3 : (((((w6.alloc (.cells #[.int .i64 0, .int .i64 0, .int .i64 0, .string ⟨#[]⟩] 58)).setCell ⟨w.heap.size + 1 + 1, 0, none⟩ (.slice none 0 0)).setCell ⟨w.heap.size + 1 + 1, 1, none⟩ (.int .i64 0)).setCell ⟨w.heap.size + 1 + 1, 2, none⟩ (.slice none 0 0)).setCell ⟨w.heap.size + 1 + 1, 3, none⟩ (.int .i64 0)).cell? ⟨w.heap.size + 1 + 1, 3, none⟩ = some (.int .i64 0) := box_cell hKz.z 3
      have HBz := hid hKz.below
      obtain ⟨⟨z0, z1, z2, z3⟩, f0, f1, f2, f3⟩ := HK7.out.cells
      clear hKz
      go_wp2_with fail
      generalize (((((w6.alloc (.cells #[.int .i64 0, .int .i64 0, .int .i64 0, .string ⟨#[]⟩] 58)).setCell ⟨w.heap.size + 1 + 1, 0, none⟩ (.slice none 0 0)).setCell ⟨w.heap.size + 1 + 1, 1, none⟩ (.int .i64 0)).setCell ⟨w.heap.size + 1 + 1, 2, none⟩ (.slice none 0 0)).setCell ⟨w.heap.size + 1 + 1, 3, none⟩ (.int .i64 0)) = XX at *
      refine bodyPost_ret (v := .tuple #[.agg #[.slice none 0 0, .int .i64 0, .slice none 0 0, .int .i64 0], .bool false]) (by simp [results, Try.results22, go_sem, ez0, ez1, ez2, ez3]) rfl ?_
      rw [HNO.out]
      exact ⟨rfl, HBz.out⟩
    rw [recV_yes hr]
    have b7 := boxB w6 (.cells #[.int .i64 1, .int .i64 p, .int .i64 n, .string D] 58)
    have hK7 := hK6.on b7
    have hX7 := (b7.block w4.heap.size (by omega)).trans hX6
    have hO7 := hO6.below b7
    have hR7 : (w6.alloc (.cells #[.int .i64 1, .int .i64 p, .int .i64 n, .string D] 58)).heap[w6.heap.size]? = some (.cells #[.int .i64 1, .int .i64 p, .int .i64 n, .string D] 58) := heap_last _ _
    have hz7 : (w6.alloc (.cells #[.int .i64 1, .int .i64 p, .int .i64 n, .string D] 58)).heap.size = w6.heap.size + 1 := heap_size _ _
    generalize hW7 : w6.alloc (.cells #[.int .i64 1, .int .i64 p, .int .i64 n, .string D] 58) = W7 at *
    clear b7 hK6 hX6 hO6
    by_cases h40 : L.length = 40
    · have HNO : Hid (doV B F L s ⟨1, p, n, D, m⟩ = none) := by
        show doV B F L s ⟨1, p, n, D, m⟩ = none
        rw [doV_rec (o := ⟨1, p, n, D, m⟩) (show (1 : Int) ≤ 1 ∧ (1 : Int) ≤ 3 by omega)]; unfold recDo; rw [if_neg (fun g => g.2.1 h40)]
      have q40 : ((L.length : Int) == 40) = true := by rw [h40]; rfl
      have q41 : decide ((L.length : Int) = 40) = true := decide_eq_true (by omega)
      have q42 : decide (L.length = 40) = true := decide_eq_true h40
      have q43 : (L.length == 40) = true := by rw [h40]; rfl
      obtain ⟨x0, x1, x2, x3⟩ := hK7.vol
      have HK7 := hid hK7
      clear hr h40 hK7 hX7 hO7 hR7
      have hKz := HK7.out.fill (.slice none 0 0) (.int .i64 0) (.slice none 0 0) (.int .i64 0)
      have ez0 : ((((W7.setCell ⟨w.heap.size + 1 + 1, 0, none⟩ (.slice none 0 0)).setCell ⟨w.heap.size + 1 + 1, 1, none⟩ (.int .i64 0)).setCell ⟨w.heap.size + 1 + 1, 2, none⟩ (.slice none 0 0)).setCell ⟨w.heap.size + 1 + 1, 3, none⟩ (.int .i64 0)).cell? ⟨w.heap.size + 1 + 1, 0, none⟩ = some (.slice none 0 0) := box_cell hKz.z 0
      have ez1 : ((((W7.setCell ⟨w.heap.size + 1 + 1, 0, none⟩ (.slice none 0 0)).setCell ⟨w.heap.size + 1 + 1, 1, none⟩ (.int .i64 0)).setCell ⟨w.heap.size + 1 + 1, 2, none⟩ (.slice none 0 0)).setCell ⟨w.heap.size + 1 + 1, 3, none⟩ (.int .i64 0)).cell? ⟨w.heap.size + 1 + 1, 1, none⟩ = some (.int .i64 0) := box_cell hKz.z 1
      have ez2 : ((((W7.setCell ⟨w.heap.size + 1 + 1, 0, none⟩ (.slice none 0 0)).setCell ⟨w.heap.size + 1 + 1, 1, none⟩ (.int .i64 0)).setCell ⟨w.heap.size + 1 + 1, 2, none⟩ (.slice none 0 0)).setCell ⟨w.heap.size + 1 + 1, 3, none⟩ (.int .i64 0)).cell? ⟨w.heap.size + 1 + 1, 2, none⟩ = some (.slice none 0 0) := box_cell hKz.z 2
      have ez3 : ((((W7.setCell ⟨w.heap.size + 1 + 1, 0, none⟩ (.slice none 0 0)).setCell ⟨w.heap.size + 1 + 1, 1, none⟩ (.int .i64 0)).setCell ⟨w.heap.size + 1 + 1, 2, none⟩ (.slice none 0 0)).setCell ⟨w.heap.size + 1 + 1, 3, none⟩ (.int .i64 0)).cell? ⟨w.heap.size + 1 + 1, 3, none⟩ = some (.int .i64 0) := box_cell hKz.z 3
      have HBz := hid hKz.below
      obtain ⟨⟨z0, z1, z2, z3⟩, f0, f1, f2, f3⟩ := HK7.out.cells
      clear hKz
      go_wp2_with fail
      generalize ((((W7.setCell ⟨w.heap.size + 1 + 1, 0, none⟩ (.slice none 0 0)).setCell ⟨w.heap.size + 1 + 1, 1, none⟩ (.int .i64 0)).setCell ⟨w.heap.size + 1 + 1, 2, none⟩ (.slice none 0 0)).setCell ⟨w.heap.size + 1 + 1, 3, none⟩ (.int .i64 0)) = XX at *
      refine bodyPost_ret (v := .tuple #[.agg #[.slice none 0 0, .int .i64 0, .slice none 0 0, .int .i64 0], .bool false]) (by simp [results, Try.results22, go_sem, ez0, ez1, ez2, ez3]) rfl ?_
      rw [HNO.out]
      exact ⟨rfl, HBz.out⟩
    have q40 : ((L.length : Int) == 40) = false := beq_eq_false_iff_ne.2 (by omega)
    have q41 : decide ((L.length : Int) = 40) = false := decide_eq_false (by omega)
    have q42 : decide (L.length = 40) = false := decide_eq_false h40
    have q43 : (L.length == 40) = false := beq_eq_false_iff_ne.2 h40
    have HEQ : Hid (doV B F L s ⟨1, p, n, D, m⟩ = some (B, F, L ++ [opR ⟨1, p, n, D, m⟩], s)) := by
      show doV B F L s ⟨1, p, n, D, m⟩ = _
      rw [doV_rec (o := ⟨1, p, n, D, m⟩) (show (1 : Int) ≤ 1 ∧ (1 : Int) ≤ 3 by omega)]; unfold recDo; rw [if_pos ⟨hr, h40, fun g => by cases g⟩]
    have hRs : Rs (W7.alloc (.cells #[.int .i64 1, .int .i64 p, .int .i64 n, .string D] 58)).heap.size (some ⟨W7.heap.size, 0, none⟩) [opR ⟨1, p, n, D, m⟩] (W7.alloc (.cells #[.int .i64 1, .int .i64 p, .int .i64 n, .string D] 58)) := by
      have := rrow_one W7 (opR ⟨1, p, n, D, m⟩)
      have hD : str (opR ⟨1, p, n, D, m⟩).data = D := str_back D
      rw [hD] at this
      exact this
    have b8 := boxB W7 (.cells #[.int .i64 1, .int .i64 p, .int .i64 n, .string D] 58)
    obtain ⟨v9, w9, r9, o9, g9, gb9⟩ := app_rec (W7.alloc (.cells #[.int .i64 1, .int .i64 p, .int .i64 n, .string D] 58)) mid (.slice a2 L.length c2) L.length (rvals L) (rw_below hO7.log b8) (some ⟨W7.heap.size, 0, none⟩) 1 [opR ⟨1, p, n, D, m⟩] hRs (by show L.length + 1 ≤ 10000; omega) (by have := hO7.mh; have := b8.size; omega)
    obtain ⟨a9, c9, rfl⟩ := rw_form o9
    have hmid : w.heap.size + 3 ≤ mid := by have := hO7.lm; omega
    have g9b := below_of_grown (lo := mid) g9 (by have := hO7.mh; have := b8.size; omega) (fun j hj => (hO7.log.lt j hj).1)
    have hK9 := (hK7.on b8).step (g9b.mono hmid)
    have hne9 : ∀ g, (Value.slice a2 L.length c2).ownBlock = some g → g ≠ w4.heap.size := fun g hg => by have := HLD.out g hg; omega
    have hX9 := (g9.block w4.heap.size (by have := b8.size; omega) (fun e9 => hne9 _ e9.symm rfl)).trans ((b8.block w4.heap.size (by omega)).trans hX7)
    have hl1 : (L ++ [opR ⟨1, p, n, D, m⟩]).length = L.length + 1 := by rw [List.length_append]; rfl
    have hO9 : OV w3.heap.size mid a1 c1 B a9 c9 (L ++ [opR ⟨1, p, n, D, m⟩]) w9 := by
      refine ⟨hO7.lm, by have := hO7.mh; have := b8.size; have := g9.size; omega, rw_keep (rw_below hO7.base b8) (fun g hg => g9.block g (by have := (rw_below hO7.base b8).lt g hg; exact this.2) (fun e9 => ?_)), hO7.low, ?_⟩
      · have h8 := hO7.low g hg
        have h9 := (hO7.log.lt g e9.symm).1
        omega
      · rw [hl1, rvals_snoc]; exact o9
    have hlg : ∀ g, (Value.slice a9 (L ++ [opR ⟨1, p, n, D, m⟩]).length c9).ownBlock = some g → g ≠ w4.heap.size := fun g hg => by
      rw [hl1] at hg
      rcases gb9 with h8 | h8
      · exact hne9 g (by rw [← h8]; exact hg)
      · have h7 : (Value.slice a9 (L.length + 1) c9).ownBlock = some g := hg
        have h6 := h8.symm.trans h7
        injection h6 with h6
        have h5 : (W7.alloc (.cells #[.int .i64 1, .int .i64 p, .int .i64 n, .string D] 58)).heap.size = W7.heap.size + 1 := heap_size _ _
        omega
    have hO10 := hO9.apart w4.heap.size 2 (.slice a9 (L.length + 1) c9) (fun g hg => by have := HBD.out g hg; omega) hlg
    have hK10 := hK9.step (setB (Below.refl (w.heap.size + 3) w9) w4.heap.size 2 hX3 (.slice a9 (L.length + 1) c9))
    have d0 : w9.cell? ⟨w4.heap.size, 0, none⟩ = some (.slice a1 B.length c1) := box_cell hX9 0
    have g0 : w9.frozen? ⟨w4.heap.size, 0, none⟩ = false := box_free hX9 0
    have d1 : w9.cell? ⟨w4.heap.size, 1, none⟩ = some (.int .i64 F) := box_cell hX9 1
    have g1 : w9.frozen? ⟨w4.heap.size, 1, none⟩ = false := box_free hX9 1
    have d2 : w9.cell? ⟨w4.heap.size, 2, none⟩ = some (.slice a2 L.length c2) := box_cell hX9 2
    have g2 : w9.frozen? ⟨w4.heap.size, 2, none⟩ = false := box_free hX9 2
    have d3 : w9.cell? ⟨w4.heap.size, 3, none⟩ = some (.int .i64 s) := box_cell hX9 3
    have g3 : w9.frozen? ⟨w4.heap.size, 3, none⟩ = false := box_free hX9 3
    have dd2 : W7.cell? ⟨w4.heap.size, 2, none⟩ = some (.slice a2 L.length c2) := box_cell hX7 2
    have rr0 : W7.cell? ⟨w6.heap.size, 0, none⟩ = some (.int .i64 1) := box_cell hR7 0
    have rr1 : W7.cell? ⟨w6.heap.size, 1, none⟩ = some (.int .i64 p) := box_cell hR7 1
    have rr2 : W7.cell? ⟨w6.heap.size, 2, none⟩ = some (.int .i64 n) := box_cell hR7 2
    have rr3 : W7.cell? ⟨w6.heap.size, 3, none⟩ = some (.string D) := box_cell hR7 3
    have hKr := hK10.fill (.slice a1 B.length c1) (.int .i64 F) (.slice a9 (L.length + 1) c9) (.int .i64 s)
    have er0 : (((((w9.setCell ⟨w4.heap.size, 2, none⟩ (.slice a9 (L.length + 1) c9)).setCell ⟨w.heap.size + 1 + 1, 0, none⟩ (.slice a1 B.length c1)).setCell ⟨w.heap.size + 1 + 1, 1, none⟩ (.int .i64 F)).setCell ⟨w.heap.size + 1 + 1, 2, none⟩ (.slice a9 (L.length + 1) c9)).setCell ⟨w.heap.size + 1 + 1, 3, none⟩ (.int .i64 s)).cell? ⟨w.heap.size + 1 + 1, 0, none⟩ = some (.slice a1 B.length c1) := box_cell hKr.z 0
    have er1 : (((((w9.setCell ⟨w4.heap.size, 2, none⟩ (.slice a9 (L.length + 1) c9)).setCell ⟨w.heap.size + 1 + 1, 0, none⟩ (.slice a1 B.length c1)).setCell ⟨w.heap.size + 1 + 1, 1, none⟩ (.int .i64 F)).setCell ⟨w.heap.size + 1 + 1, 2, none⟩ (.slice a9 (L.length + 1) c9)).setCell ⟨w.heap.size + 1 + 1, 3, none⟩ (.int .i64 s)).cell? ⟨w.heap.size + 1 + 1, 1, none⟩ = some (.int .i64 F) := box_cell hKr.z 1
    have er2 : (((((w9.setCell ⟨w4.heap.size, 2, none⟩ (.slice a9 (L.length + 1) c9)).setCell ⟨w.heap.size + 1 + 1, 0, none⟩ (.slice a1 B.length c1)).setCell ⟨w.heap.size + 1 + 1, 1, none⟩ (.int .i64 F)).setCell ⟨w.heap.size + 1 + 1, 2, none⟩ (.slice a9 (L.length + 1) c9)).setCell ⟨w.heap.size + 1 + 1, 3, none⟩ (.int .i64 s)).cell? ⟨w.heap.size + 1 + 1, 2, none⟩ = some (.slice a9 (L.length + 1) c9) := box_cell hKr.z 2
    have er3 : (((((w9.setCell ⟨w4.heap.size, 2, none⟩ (.slice a9 (L.length + 1) c9)).setCell ⟨w.heap.size + 1 + 1, 0, none⟩ (.slice a1 B.length c1)).setCell ⟨w.heap.size + 1 + 1, 1, none⟩ (.int .i64 F)).setCell ⟨w.heap.size + 1 + 1, 2, none⟩ (.slice a9 (L.length + 1) c9)).setCell ⟨w.heap.size + 1 + 1, 3, none⟩ (.int .i64 s)).cell? ⟨w.heap.size + 1 + 1, 3, none⟩ = some (.int .i64 s) := box_cell hKr.z 3
    have HBr := hid hKr.below
    have hOr := (((hO10.set (w.heap.size + 1 + 1) 0 (.slice a1 B.length c1) (by omega)).set (w.heap.size + 1 + 1) 1 (.int .i64 F) (by omega)).set (w.heap.size + 1 + 1) 2 (.slice a9 (L.length + 1) c9) (by omega)).set (w.heap.size + 1 + 1) 3 (.int .i64 s) (by omega)
    have HCr := hid (rw_capV hOr.log)
    try rw [hnq] at HCr
    try rw [hl1] at HCr
    have HOr := hid (hOr.lower (show w.heap.size ≤ w3.heap.size by omega)).own
    have HDO : Hid (∀ e w', (∃ aB' kB' aL' kL', (L.length + 1) ≤ kL' ∧ e = .returned (.tuple #[.agg #[.slice aB' B.length kB', .int .i64 F, .slice aL' (L.length + 1) kL', .int .i64 s], .bool true]) ∧ OwnV w.heap.size w'.heap.size aB' B aL' (L ++ [opR ⟨1, p, n, D, m⟩]) w' ∧ Below w.heap.size w w') → DOutK (doV B F L s ⟨1, p, n, D, m⟩) w e w') := fun e w' h => by
      rw [HEQ.out]
      obtain ⟨x1, x2, x3, x4, h0, h1, h2, h3⟩ := h
      exact ⟨x1, x2, x3, x4, Nat.le_trans (Nat.le_of_eq hl1) h0, by rw [h1, hl1], h2, h3⟩
    obtain ⟨⟨z0, z1, z2, z3⟩, f0, f1, f2, f3⟩ := hK9.cells
    obtain ⟨y0, y1, y2, y3⟩ := hK7.vol
    clear hKr hOr hK10 hO10 hO9 hlg o9 g9 gb9 g9b hK9 hX9 hne9 hRs b8 hO7 hK7 hX7 hR7 hz7 hl1 hr h40
    go_wp2_with (at_builtin; refine wpList_append_run rfl (.tmp 58) (.tmp 60) 25 rfl _ _ rfl rfl _ _ r9 ?_)
    generalize (((((w9.setCell ⟨w4.heap.size, 2, none⟩ (.slice a9 (L.length + 1) c9)).setCell ⟨w.heap.size + 1 + 1, 0, none⟩ (.slice a1 B.length c1)).setCell ⟨w.heap.size + 1 + 1, 1, none⟩ (.int .i64 F)).setCell ⟨w.heap.size + 1 + 1, 2, none⟩ (.slice a9 (L.length + 1) c9)).setCell ⟨w.heap.size + 1 + 1, 3, none⟩ (.int .i64 s)) = XX at *
    refine bodyPost_ret (v := .tuple #[.agg #[.slice a1 B.length c1, .int .i64 F, .slice a9 (L.length + 1) c9, .int .i64 s], .bool true]) (by simp [results, Try.results22, go_sem, er0, er1, er2, er3]) rfl ?_
    exact HDO.out _ _ ⟨_, _, _, _, HCr.out, rfl, HOr.out, HBr.out⟩
  by_cases kk2 : k = 2
  · subst kk2
    have hXw := hXDlt
    have hXb := HXD.out
    have hOb := HOV.out
    clear d0 d1 d2 d3 g0 g1 g2 g3 x0 x1 x2 x3
    go_wp2_with fail
    refine (HRF.out _).mono ?_
    rintro e w6 ⟨rfl, b6⟩
    have hK6 := HK5.out.on b6
    have hX6 := (b6.block w4.heap.size hXw).trans hXb
    have hs6 := b6.size
    have hO6 := hOb.below b6
    clear b6
    cases hr : recOk ⟨2, p, n, D, m⟩
    · rw [recV_no hr]
      have HNO : Hid (doV B F L s ⟨2, p, n, D, m⟩ = none) := (doV_rec (o := ⟨2, p, n, D, m⟩) (show (1 : Int) ≤ 2 ∧ (2 : Int) ≤ 3 by omega)).trans (recDo_no hr)
      have HK7 := hid (hK6.on (boxB w6 (.cells #[.int .i64 0, .int .i64 0, .int .i64 0, .string ⟨#[]⟩] 58)))
      clear hr hK6 hX6 hO6
      have hKz := HK7.out.fill (.slice none 0 0) (.int .i64 0) (.slice none 0 0) (.int .i64 0)
      have ez0 : (((((w6.alloc (.cells #[.int .i64 0, .int .i64 0, .int .i64 0, .string ⟨#[]⟩] 58)).setCell ⟨w.heap.size + 1 + 1, 0, none⟩ (.slice none 0 0)).setCell ⟨w.heap.size + 1 + 1, 1, none⟩ (.int .i64 0)).setCell ⟨w.heap.size + 1 + 1, 2, none⟩ (.slice none 0 0)).setCell ⟨w.heap.size + 1 + 1, 3, none⟩ (.int .i64 0)).cell? ⟨w.heap.size + 1 + 1, 0, none⟩ = some (.slice none 0 0) := box_cell hKz.z 0
      have ez1 : (((((w6.alloc (.cells #[.int .i64 0, .int .i64 0, .int .i64 0, .string ⟨#[]⟩] 58)).setCell ⟨w.heap.size + 1 + 1, 0, none⟩ (.slice none 0 0)).setCell ⟨w.heap.size + 1 + 1, 1, none⟩ (.int .i64 0)).setCell ⟨w.heap.size + 1 + 1, 2, none⟩ (.slice none 0 0)).setCell ⟨w.heap.size + 1 + 1, 3, none⟩ (.int .i64 0)).cell? ⟨w.heap.size + 1 + 1, 1, none⟩ = some (.int .i64 0) := box_cell hKz.z 1
      have ez2 : (((((w6.alloc (.cells #[.int .i64 0, .int .i64 0, .int .i64 0, .string ⟨#[]⟩] 58)).setCell ⟨w.heap.size + 1 + 1, 0, none⟩ (.slice none 0 0)).setCell ⟨w.heap.size + 1 + 1, 1, none⟩ (.int .i64 0)).setCell ⟨w.heap.size + 1 + 1, 2, none⟩ (.slice none 0 0)).setCell ⟨w.heap.size + 1 + 1, 3, none⟩ (.int .i64 0)).cell? ⟨w.heap.size + 1 + 1, 2, none⟩ = some (.slice none 0 0) := box_cell hKz.z 2
      have ez3 : (((((w6.alloc (.cells #[.int .i64 0, .int .i64 0, .int .i64 0, .string ⟨#[]⟩] 58)).setCell ⟨w.heap.size + 1 + 1, 0, none⟩ (.slice none 0 0)).setCell ⟨w.heap.size + 1 + 1, 1, none⟩ (.int .i64 0)).setCell ⟨w.heap.size + 1 + 1, 2, none⟩ (.slice none 0 0)).setCell ⟨w.heap.size + 1 + 1, 3, none⟩ (.int .i64 0)).cell? ⟨w.heap.size + 1 + 1, 3, none⟩ = some (.int .i64 0) := box_cell hKz.z 3
      have HBz := hid hKz.below
      obtain ⟨⟨z0, z1, z2, z3⟩, f0, f1, f2, f3⟩ := HK7.out.cells
      clear hKz
      go_wp2_with fail
      generalize (((((w6.alloc (.cells #[.int .i64 0, .int .i64 0, .int .i64 0, .string ⟨#[]⟩] 58)).setCell ⟨w.heap.size + 1 + 1, 0, none⟩ (.slice none 0 0)).setCell ⟨w.heap.size + 1 + 1, 1, none⟩ (.int .i64 0)).setCell ⟨w.heap.size + 1 + 1, 2, none⟩ (.slice none 0 0)).setCell ⟨w.heap.size + 1 + 1, 3, none⟩ (.int .i64 0)) = XX at *
      refine bodyPost_ret (v := .tuple #[.agg #[.slice none 0 0, .int .i64 0, .slice none 0 0, .int .i64 0], .bool false]) (by simp [results, Try.results22, go_sem, ez0, ez1, ez2, ez3]) rfl ?_
      rw [HNO.out]
      exact ⟨rfl, HBz.out⟩
    rw [recV_yes hr]
    have b7 := boxB w6 (.cells #[.int .i64 2, .int .i64 p, .int .i64 n, .string D] 58)
    have hK7 := hK6.on b7
    have hX7 := (b7.block w4.heap.size (by omega)).trans hX6
    have hO7 := hO6.below b7
    have hR7 : (w6.alloc (.cells #[.int .i64 2, .int .i64 p, .int .i64 n, .string D] 58)).heap[w6.heap.size]? = some (.cells #[.int .i64 2, .int .i64 p, .int .i64 n, .string D] 58) := heap_last _ _
    have hz7 : (w6.alloc (.cells #[.int .i64 2, .int .i64 p, .int .i64 n, .string D] 58)).heap.size = w6.heap.size + 1 := heap_size _ _
    generalize hW7 : w6.alloc (.cells #[.int .i64 2, .int .i64 p, .int .i64 n, .string D] 58) = W7 at *
    clear b7 hK6 hX6 hO6
    by_cases h40 : L.length = 40
    · have HNO : Hid (doV B F L s ⟨2, p, n, D, m⟩ = none) := by
        show doV B F L s ⟨2, p, n, D, m⟩ = none
        rw [doV_rec (o := ⟨2, p, n, D, m⟩) (show (1 : Int) ≤ 2 ∧ (2 : Int) ≤ 3 by omega)]; unfold recDo; rw [if_neg (fun g => g.2.1 h40)]
      have q40 : ((L.length : Int) == 40) = true := by rw [h40]; rfl
      have q41 : decide ((L.length : Int) = 40) = true := decide_eq_true (by omega)
      have q42 : decide (L.length = 40) = true := decide_eq_true h40
      have q43 : (L.length == 40) = true := by rw [h40]; rfl
      obtain ⟨x0, x1, x2, x3⟩ := hK7.vol
      have HK7 := hid hK7
      clear hr h40 hK7 hX7 hO7 hR7
      have hKz := HK7.out.fill (.slice none 0 0) (.int .i64 0) (.slice none 0 0) (.int .i64 0)
      have ez0 : ((((W7.setCell ⟨w.heap.size + 1 + 1, 0, none⟩ (.slice none 0 0)).setCell ⟨w.heap.size + 1 + 1, 1, none⟩ (.int .i64 0)).setCell ⟨w.heap.size + 1 + 1, 2, none⟩ (.slice none 0 0)).setCell ⟨w.heap.size + 1 + 1, 3, none⟩ (.int .i64 0)).cell? ⟨w.heap.size + 1 + 1, 0, none⟩ = some (.slice none 0 0) := box_cell hKz.z 0
      have ez1 : ((((W7.setCell ⟨w.heap.size + 1 + 1, 0, none⟩ (.slice none 0 0)).setCell ⟨w.heap.size + 1 + 1, 1, none⟩ (.int .i64 0)).setCell ⟨w.heap.size + 1 + 1, 2, none⟩ (.slice none 0 0)).setCell ⟨w.heap.size + 1 + 1, 3, none⟩ (.int .i64 0)).cell? ⟨w.heap.size + 1 + 1, 1, none⟩ = some (.int .i64 0) := box_cell hKz.z 1
      have ez2 : ((((W7.setCell ⟨w.heap.size + 1 + 1, 0, none⟩ (.slice none 0 0)).setCell ⟨w.heap.size + 1 + 1, 1, none⟩ (.int .i64 0)).setCell ⟨w.heap.size + 1 + 1, 2, none⟩ (.slice none 0 0)).setCell ⟨w.heap.size + 1 + 1, 3, none⟩ (.int .i64 0)).cell? ⟨w.heap.size + 1 + 1, 2, none⟩ = some (.slice none 0 0) := box_cell hKz.z 2
      have ez3 : ((((W7.setCell ⟨w.heap.size + 1 + 1, 0, none⟩ (.slice none 0 0)).setCell ⟨w.heap.size + 1 + 1, 1, none⟩ (.int .i64 0)).setCell ⟨w.heap.size + 1 + 1, 2, none⟩ (.slice none 0 0)).setCell ⟨w.heap.size + 1 + 1, 3, none⟩ (.int .i64 0)).cell? ⟨w.heap.size + 1 + 1, 3, none⟩ = some (.int .i64 0) := box_cell hKz.z 3
      have HBz := hid hKz.below
      obtain ⟨⟨z0, z1, z2, z3⟩, f0, f1, f2, f3⟩ := HK7.out.cells
      clear hKz
      go_wp2_with fail
      generalize ((((W7.setCell ⟨w.heap.size + 1 + 1, 0, none⟩ (.slice none 0 0)).setCell ⟨w.heap.size + 1 + 1, 1, none⟩ (.int .i64 0)).setCell ⟨w.heap.size + 1 + 1, 2, none⟩ (.slice none 0 0)).setCell ⟨w.heap.size + 1 + 1, 3, none⟩ (.int .i64 0)) = XX at *
      refine bodyPost_ret (v := .tuple #[.agg #[.slice none 0 0, .int .i64 0, .slice none 0 0, .int .i64 0], .bool false]) (by simp [results, Try.results22, go_sem, ez0, ez1, ez2, ez3]) rfl ?_
      rw [HNO.out]
      exact ⟨rfl, HBz.out⟩
    have q40 : ((L.length : Int) == 40) = false := beq_eq_false_iff_ne.2 (by omega)
    have q41 : decide ((L.length : Int) = 40) = false := decide_eq_false (by omega)
    have q42 : decide (L.length = 40) = false := decide_eq_false h40
    have q43 : (L.length == 40) = false := beq_eq_false_iff_ne.2 h40
    have HEQ : Hid (doV B F L s ⟨2, p, n, D, m⟩ = some (B, F, L ++ [opR ⟨2, p, n, D, m⟩], s)) := by
      show doV B F L s ⟨2, p, n, D, m⟩ = _
      rw [doV_rec (o := ⟨2, p, n, D, m⟩) (show (1 : Int) ≤ 2 ∧ (2 : Int) ≤ 3 by omega)]; unfold recDo; rw [if_pos ⟨hr, h40, fun g => by cases g⟩]
    have hRs : Rs (W7.alloc (.cells #[.int .i64 2, .int .i64 p, .int .i64 n, .string D] 58)).heap.size (some ⟨W7.heap.size, 0, none⟩) [opR ⟨2, p, n, D, m⟩] (W7.alloc (.cells #[.int .i64 2, .int .i64 p, .int .i64 n, .string D] 58)) := by
      have := rrow_one W7 (opR ⟨2, p, n, D, m⟩)
      have hD : str (opR ⟨2, p, n, D, m⟩).data = D := str_back D
      rw [hD] at this
      exact this
    have b8 := boxB W7 (.cells #[.int .i64 2, .int .i64 p, .int .i64 n, .string D] 58)
    obtain ⟨v9, w9, r9, o9, g9, gb9⟩ := app_rec (W7.alloc (.cells #[.int .i64 2, .int .i64 p, .int .i64 n, .string D] 58)) mid (.slice a2 L.length c2) L.length (rvals L) (rw_below hO7.log b8) (some ⟨W7.heap.size, 0, none⟩) 1 [opR ⟨2, p, n, D, m⟩] hRs (by show L.length + 1 ≤ 10000; omega) (by have := hO7.mh; have := b8.size; omega)
    obtain ⟨a9, c9, rfl⟩ := rw_form o9
    have hmid : w.heap.size + 3 ≤ mid := by have := hO7.lm; omega
    have g9b := below_of_grown (lo := mid) g9 (by have := hO7.mh; have := b8.size; omega) (fun j hj => (hO7.log.lt j hj).1)
    have hK9 := (hK7.on b8).step (g9b.mono hmid)
    have hne9 : ∀ g, (Value.slice a2 L.length c2).ownBlock = some g → g ≠ w4.heap.size := fun g hg => by have := HLD.out g hg; omega
    have hX9 := (g9.block w4.heap.size (by have := b8.size; omega) (fun e9 => hne9 _ e9.symm rfl)).trans ((b8.block w4.heap.size (by omega)).trans hX7)
    have hl1 : (L ++ [opR ⟨2, p, n, D, m⟩]).length = L.length + 1 := by rw [List.length_append]; rfl
    have hO9 : OV w3.heap.size mid a1 c1 B a9 c9 (L ++ [opR ⟨2, p, n, D, m⟩]) w9 := by
      refine ⟨hO7.lm, by have := hO7.mh; have := b8.size; have := g9.size; omega, rw_keep (rw_below hO7.base b8) (fun g hg => g9.block g (by have := (rw_below hO7.base b8).lt g hg; exact this.2) (fun e9 => ?_)), hO7.low, ?_⟩
      · have h8 := hO7.low g hg
        have h9 := (hO7.log.lt g e9.symm).1
        omega
      · rw [hl1, rvals_snoc]; exact o9
    have hlg : ∀ g, (Value.slice a9 (L ++ [opR ⟨2, p, n, D, m⟩]).length c9).ownBlock = some g → g ≠ w4.heap.size := fun g hg => by
      rw [hl1] at hg
      rcases gb9 with h8 | h8
      · exact hne9 g (by rw [← h8]; exact hg)
      · have h7 : (Value.slice a9 (L.length + 1) c9).ownBlock = some g := hg
        have h6 := h8.symm.trans h7
        injection h6 with h6
        have h5 : (W7.alloc (.cells #[.int .i64 2, .int .i64 p, .int .i64 n, .string D] 58)).heap.size = W7.heap.size + 1 := heap_size _ _
        omega
    have hO10 := hO9.apart w4.heap.size 2 (.slice a9 (L.length + 1) c9) (fun g hg => by have := HBD.out g hg; omega) hlg
    have hK10 := hK9.step (setB (Below.refl (w.heap.size + 3) w9) w4.heap.size 2 hX3 (.slice a9 (L.length + 1) c9))
    have d0 : w9.cell? ⟨w4.heap.size, 0, none⟩ = some (.slice a1 B.length c1) := box_cell hX9 0
    have g0 : w9.frozen? ⟨w4.heap.size, 0, none⟩ = false := box_free hX9 0
    have d1 : w9.cell? ⟨w4.heap.size, 1, none⟩ = some (.int .i64 F) := box_cell hX9 1
    have g1 : w9.frozen? ⟨w4.heap.size, 1, none⟩ = false := box_free hX9 1
    have d2 : w9.cell? ⟨w4.heap.size, 2, none⟩ = some (.slice a2 L.length c2) := box_cell hX9 2
    have g2 : w9.frozen? ⟨w4.heap.size, 2, none⟩ = false := box_free hX9 2
    have d3 : w9.cell? ⟨w4.heap.size, 3, none⟩ = some (.int .i64 s) := box_cell hX9 3
    have g3 : w9.frozen? ⟨w4.heap.size, 3, none⟩ = false := box_free hX9 3
    have dd2 : W7.cell? ⟨w4.heap.size, 2, none⟩ = some (.slice a2 L.length c2) := box_cell hX7 2
    have rr0 : W7.cell? ⟨w6.heap.size, 0, none⟩ = some (.int .i64 2) := box_cell hR7 0
    have rr1 : W7.cell? ⟨w6.heap.size, 1, none⟩ = some (.int .i64 p) := box_cell hR7 1
    have rr2 : W7.cell? ⟨w6.heap.size, 2, none⟩ = some (.int .i64 n) := box_cell hR7 2
    have rr3 : W7.cell? ⟨w6.heap.size, 3, none⟩ = some (.string D) := box_cell hR7 3
    have hKr := hK10.fill (.slice a1 B.length c1) (.int .i64 F) (.slice a9 (L.length + 1) c9) (.int .i64 s)
    have er0 : (((((w9.setCell ⟨w4.heap.size, 2, none⟩ (.slice a9 (L.length + 1) c9)).setCell ⟨w.heap.size + 1 + 1, 0, none⟩ (.slice a1 B.length c1)).setCell ⟨w.heap.size + 1 + 1, 1, none⟩ (.int .i64 F)).setCell ⟨w.heap.size + 1 + 1, 2, none⟩ (.slice a9 (L.length + 1) c9)).setCell ⟨w.heap.size + 1 + 1, 3, none⟩ (.int .i64 s)).cell? ⟨w.heap.size + 1 + 1, 0, none⟩ = some (.slice a1 B.length c1) := box_cell hKr.z 0
    have er1 : (((((w9.setCell ⟨w4.heap.size, 2, none⟩ (.slice a9 (L.length + 1) c9)).setCell ⟨w.heap.size + 1 + 1, 0, none⟩ (.slice a1 B.length c1)).setCell ⟨w.heap.size + 1 + 1, 1, none⟩ (.int .i64 F)).setCell ⟨w.heap.size + 1 + 1, 2, none⟩ (.slice a9 (L.length + 1) c9)).setCell ⟨w.heap.size + 1 + 1, 3, none⟩ (.int .i64 s)).cell? ⟨w.heap.size + 1 + 1, 1, none⟩ = some (.int .i64 F) := box_cell hKr.z 1
    have er2 : (((((w9.setCell ⟨w4.heap.size, 2, none⟩ (.slice a9 (L.length + 1) c9)).setCell ⟨w.heap.size + 1 + 1, 0, none⟩ (.slice a1 B.length c1)).setCell ⟨w.heap.size + 1 + 1, 1, none⟩ (.int .i64 F)).setCell ⟨w.heap.size + 1 + 1, 2, none⟩ (.slice a9 (L.length + 1) c9)).setCell ⟨w.heap.size + 1 + 1, 3, none⟩ (.int .i64 s)).cell? ⟨w.heap.size + 1 + 1, 2, none⟩ = some (.slice a9 (L.length + 1) c9) := box_cell hKr.z 2
    have er3 : (((((w9.setCell ⟨w4.heap.size, 2, none⟩ (.slice a9 (L.length + 1) c9)).setCell ⟨w.heap.size + 1 + 1, 0, none⟩ (.slice a1 B.length c1)).setCell ⟨w.heap.size + 1 + 1, 1, none⟩ (.int .i64 F)).setCell ⟨w.heap.size + 1 + 1, 2, none⟩ (.slice a9 (L.length + 1) c9)).setCell ⟨w.heap.size + 1 + 1, 3, none⟩ (.int .i64 s)).cell? ⟨w.heap.size + 1 + 1, 3, none⟩ = some (.int .i64 s) := box_cell hKr.z 3
    have HBr := hid hKr.below
    have hOr := (((hO10.set (w.heap.size + 1 + 1) 0 (.slice a1 B.length c1) (by omega)).set (w.heap.size + 1 + 1) 1 (.int .i64 F) (by omega)).set (w.heap.size + 1 + 1) 2 (.slice a9 (L.length + 1) c9) (by omega)).set (w.heap.size + 1 + 1) 3 (.int .i64 s) (by omega)
    have HCr := hid (rw_capV hOr.log)
    try rw [hnq] at HCr
    try rw [hl1] at HCr
    have HOr := hid (hOr.lower (show w.heap.size ≤ w3.heap.size by omega)).own
    have HDO : Hid (∀ e w', (∃ aB' kB' aL' kL', (L.length + 1) ≤ kL' ∧ e = .returned (.tuple #[.agg #[.slice aB' B.length kB', .int .i64 F, .slice aL' (L.length + 1) kL', .int .i64 s], .bool true]) ∧ OwnV w.heap.size w'.heap.size aB' B aL' (L ++ [opR ⟨2, p, n, D, m⟩]) w' ∧ Below w.heap.size w w') → DOutK (doV B F L s ⟨2, p, n, D, m⟩) w e w') := fun e w' h => by
      rw [HEQ.out]
      obtain ⟨x1, x2, x3, x4, h0, h1, h2, h3⟩ := h
      exact ⟨x1, x2, x3, x4, Nat.le_trans (Nat.le_of_eq hl1) h0, by rw [h1, hl1], h2, h3⟩
    obtain ⟨⟨z0, z1, z2, z3⟩, f0, f1, f2, f3⟩ := hK9.cells
    obtain ⟨y0, y1, y2, y3⟩ := hK7.vol
    clear hKr hOr hK10 hO10 hO9 hlg o9 g9 gb9 g9b hK9 hX9 hne9 hRs b8 hO7 hK7 hX7 hR7 hz7 hl1 hr h40
    go_wp2_with (at_builtin; refine wpList_append_run rfl (.tmp 58) (.tmp 60) 25 rfl _ _ rfl rfl _ _ r9 ?_)
    generalize (((((w9.setCell ⟨w4.heap.size, 2, none⟩ (.slice a9 (L.length + 1) c9)).setCell ⟨w.heap.size + 1 + 1, 0, none⟩ (.slice a1 B.length c1)).setCell ⟨w.heap.size + 1 + 1, 1, none⟩ (.int .i64 F)).setCell ⟨w.heap.size + 1 + 1, 2, none⟩ (.slice a9 (L.length + 1) c9)).setCell ⟨w.heap.size + 1 + 1, 3, none⟩ (.int .i64 s)) = XX at *
    refine bodyPost_ret (v := .tuple #[.agg #[.slice a1 B.length c1, .int .i64 F, .slice a9 (L.length + 1) c9, .int .i64 s], .bool true]) (by simp [results, Try.results22, go_sem, er0, er1, er2, er3]) rfl ?_
    exact HDO.out _ _ ⟨_, _, _, _, HCr.out, rfl, HOr.out, HBr.out⟩
  obtain rfl : k = 3 := by omega
  have HKd := hid (HK5.out.on (Below.refl _ _).drew)
  have t0 : W5.drew.cell? ⟨w.heap.size + 1, 1, none⟩ = some (.int .i64 p) := o1
  have t1 : W5.drew.cell? ⟨w.heap.size, 1, none⟩ = some (.int .i64 F) := x1
  have t2 : W5.drew.cell? ⟨w.heap.size, 2, none⟩ = some (.slice aL L.length kL) := x2
  have HMd := hid (HMB.out W5.drew HKd.out.below)
  obtain ⟨mk, hmk⟩ : ∃ mk, markF F L = mk := ⟨_, rfl⟩
  rw [hmk] at HMd HM
  have HMK := hid hmk
  obtain ⟨m0, m1⟩ := HM.out
  have hwr : IntKind.i64.wrap (mk + 1) = mk + 1 := by rw [IntKind.wrap_i64]; omega
  have hOb := HOV.out
  have hXb := HXD.out
  clear hmk HMB HCR HFS HRS HM d0 d1 d2 d3 g0 g1 g2 g3
  by_cases hp : p = mk + 1
  · have e1 : (p == mk + 1) = true := by rw [hp]; exact beq_self_eq_true _
    have e2 : decide (p = mk + 1) = true := decide_eq_true hp
    have HP := hid hp
    clear hp
    go_wp2_with fail
    go_region_held (fun v => v.cell? ⟨w.heap.size + 1, 1, none⟩ = some (.int .i64 p) ∧ v.cell? ⟨w.heap.size, 1, none⟩ = some (.int .i64 F) ∧ v.cell? ⟨w.heap.size, 2, none⟩ = some (.slice aL L.length kL)) (first | exact ⟨by with_reducible assumption, by with_reducible assumption, by with_reducible assumption⟩) (first | (go_at_call 40; refine HMd.out.mono ?_; rintro e wm ⟨rfl, bm⟩; have hKm := HKd.out.on bm; have u0 : wm.cell? ⟨w.heap.size + 1, 1, none⟩ = some (.int .i64 p) := box_cell hKm.o 1; have u1 : wm.cell? ⟨w.heap.size, 1, none⟩ = some (.int .i64 F) := box_cell hKm.x 1; have u2 : wm.cell? ⟨w.heap.size, 2, none⟩ = some (.slice aL L.length kL) := box_cell hKm.x 2))
    all_goals
      have bm5 : Below W5.heap.size W5 wm := ⟨bm.os, bm.tape, bm.output, bm.size, bm.block⟩
      have hXw : w4.heap.size < wm.heap.size := Nat.lt_of_lt_of_le hXDlt bm5.size
      replace hXb := (bm5.block w4.heap.size hXDlt).trans hXb
      replace hOb := hOb.below bm5
      have HKm := hid hKm
      clear bm bm5 hKm u0 u1 u2 t0 t1 t2 x0 x1 x2 x3 o0 o1 o2 o3 o4 hW5
      obtain ⟨o0, o1, o2, o3, o4⟩ := HKm.out.op
      go_wp2_with fail
      refine (HRF.out _).mono ?_
      rintro e w6 ⟨rfl, b6⟩
      have hK6 := HKm.out.on b6
      have hX6 := (b6.block w4.heap.size hXw).trans hXb
      have hs6 := b6.size
      have hO6 := hOb.below b6
      clear b6
      cases hr : recOk ⟨3, p, n, D, m⟩
      · rw [recV_no hr]
        have HNO : Hid (doV B F L s ⟨3, p, n, D, m⟩ = none) := (doV_rec (o := ⟨3, p, n, D, m⟩) (show (1 : Int) ≤ 3 ∧ (3 : Int) ≤ 3 by omega)).trans (recDo_no hr)
        have HK7 := hid (hK6.on (boxB w6 (.cells #[.int .i64 0, .int .i64 0, .int .i64 0, .string ⟨#[]⟩] 58)))
        clear hr hK6 hX6 hO6
        have hKz := HK7.out.fill (.slice none 0 0) (.int .i64 0) (.slice none 0 0) (.int .i64 0)
        have ez0 : (((((w6.alloc (.cells #[.int .i64 0, .int .i64 0, .int .i64 0, .string ⟨#[]⟩] 58)).setCell ⟨w.heap.size + 1 + 1, 0, none⟩ (.slice none 0 0)).setCell ⟨w.heap.size + 1 + 1, 1, none⟩ (.int .i64 0)).setCell ⟨w.heap.size + 1 + 1, 2, none⟩ (.slice none 0 0)).setCell ⟨w.heap.size + 1 + 1, 3, none⟩ (.int .i64 0)).cell? ⟨w.heap.size + 1 + 1, 0, none⟩ = some (.slice none 0 0) := box_cell hKz.z 0
        have ez1 : (((((w6.alloc (.cells #[.int .i64 0, .int .i64 0, .int .i64 0, .string ⟨#[]⟩] 58)).setCell ⟨w.heap.size + 1 + 1, 0, none⟩ (.slice none 0 0)).setCell ⟨w.heap.size + 1 + 1, 1, none⟩ (.int .i64 0)).setCell ⟨w.heap.size + 1 + 1, 2, none⟩ (.slice none 0 0)).setCell ⟨w.heap.size + 1 + 1, 3, none⟩ (.int .i64 0)).cell? ⟨w.heap.size + 1 + 1, 1, none⟩ = some (.int .i64 0) := box_cell hKz.z 1
        have ez2 : (((((w6.alloc (.cells #[.int .i64 0, .int .i64 0, .int .i64 0, .string ⟨#[]⟩] 58)).setCell ⟨w.heap.size + 1 + 1, 0, none⟩ (.slice none 0 0)).setCell ⟨w.heap.size + 1 + 1, 1, none⟩ (.int .i64 0)).setCell ⟨w.heap.size + 1 + 1, 2, none⟩ (.slice none 0 0)).setCell ⟨w.heap.size + 1 + 1, 3, none⟩ (.int .i64 0)).cell? ⟨w.heap.size + 1 + 1, 2, none⟩ = some (.slice none 0 0) := box_cell hKz.z 2
        have ez3 : (((((w6.alloc (.cells #[.int .i64 0, .int .i64 0, .int .i64 0, .string ⟨#[]⟩] 58)).setCell ⟨w.heap.size + 1 + 1, 0, none⟩ (.slice none 0 0)).setCell ⟨w.heap.size + 1 + 1, 1, none⟩ (.int .i64 0)).setCell ⟨w.heap.size + 1 + 1, 2, none⟩ (.slice none 0 0)).setCell ⟨w.heap.size + 1 + 1, 3, none⟩ (.int .i64 0)).cell? ⟨w.heap.size + 1 + 1, 3, none⟩ = some (.int .i64 0) := box_cell hKz.z 3
        have HBz := hid hKz.below
        obtain ⟨⟨z0, z1, z2, z3⟩, f0, f1, f2, f3⟩ := HK7.out.cells
        clear hKz
        go_wp2_with fail
        generalize (((((w6.alloc (.cells #[.int .i64 0, .int .i64 0, .int .i64 0, .string ⟨#[]⟩] 58)).setCell ⟨w.heap.size + 1 + 1, 0, none⟩ (.slice none 0 0)).setCell ⟨w.heap.size + 1 + 1, 1, none⟩ (.int .i64 0)).setCell ⟨w.heap.size + 1 + 1, 2, none⟩ (.slice none 0 0)).setCell ⟨w.heap.size + 1 + 1, 3, none⟩ (.int .i64 0)) = XX at *
        refine bodyPost_ret (v := .tuple #[.agg #[.slice none 0 0, .int .i64 0, .slice none 0 0, .int .i64 0], .bool false]) (by simp [results, Try.results22, go_sem, ez0, ez1, ez2, ez3]) rfl ?_
        rw [HNO.out]
        exact ⟨rfl, HBz.out⟩
      rw [recV_yes hr]
      have b7 := boxB w6 (.cells #[.int .i64 3, .int .i64 p, .int .i64 n, .string D] 58)
      have hK7 := hK6.on b7
      have hX7 := (b7.block w4.heap.size (by omega)).trans hX6
      have hO7 := hO6.below b7
      have hR7 : (w6.alloc (.cells #[.int .i64 3, .int .i64 p, .int .i64 n, .string D] 58)).heap[w6.heap.size]? = some (.cells #[.int .i64 3, .int .i64 p, .int .i64 n, .string D] 58) := heap_last _ _
      have hz7 : (w6.alloc (.cells #[.int .i64 3, .int .i64 p, .int .i64 n, .string D] 58)).heap.size = w6.heap.size + 1 := heap_size _ _
      generalize hW7 : w6.alloc (.cells #[.int .i64 3, .int .i64 p, .int .i64 n, .string D] 58) = W7 at *
      clear b7 hK6 hX6 hO6
      by_cases h40 : L.length = 40
      · have HNO : Hid (doV B F L s ⟨3, p, n, D, m⟩ = none) := by
          show doV B F L s ⟨3, p, n, D, m⟩ = none
          rw [doV_rec (o := ⟨3, p, n, D, m⟩) (show (1 : Int) ≤ 3 ∧ (3 : Int) ≤ 3 by omega)]; unfold recDo; rw [if_neg (fun g => g.2.1 h40)]
        have q40 : ((L.length : Int) == 40) = true := by rw [h40]; rfl
        have q41 : decide ((L.length : Int) = 40) = true := decide_eq_true (by omega)
        have q42 : decide (L.length = 40) = true := decide_eq_true h40
        have q43 : (L.length == 40) = true := by rw [h40]; rfl
        obtain ⟨x0, x1, x2, x3⟩ := hK7.vol
        have HK7 := hid hK7
        clear hr h40 hK7 hX7 hO7 hR7
        have hKz := HK7.out.fill (.slice none 0 0) (.int .i64 0) (.slice none 0 0) (.int .i64 0)
        have ez0 : ((((W7.setCell ⟨w.heap.size + 1 + 1, 0, none⟩ (.slice none 0 0)).setCell ⟨w.heap.size + 1 + 1, 1, none⟩ (.int .i64 0)).setCell ⟨w.heap.size + 1 + 1, 2, none⟩ (.slice none 0 0)).setCell ⟨w.heap.size + 1 + 1, 3, none⟩ (.int .i64 0)).cell? ⟨w.heap.size + 1 + 1, 0, none⟩ = some (.slice none 0 0) := box_cell hKz.z 0
        have ez1 : ((((W7.setCell ⟨w.heap.size + 1 + 1, 0, none⟩ (.slice none 0 0)).setCell ⟨w.heap.size + 1 + 1, 1, none⟩ (.int .i64 0)).setCell ⟨w.heap.size + 1 + 1, 2, none⟩ (.slice none 0 0)).setCell ⟨w.heap.size + 1 + 1, 3, none⟩ (.int .i64 0)).cell? ⟨w.heap.size + 1 + 1, 1, none⟩ = some (.int .i64 0) := box_cell hKz.z 1
        have ez2 : ((((W7.setCell ⟨w.heap.size + 1 + 1, 0, none⟩ (.slice none 0 0)).setCell ⟨w.heap.size + 1 + 1, 1, none⟩ (.int .i64 0)).setCell ⟨w.heap.size + 1 + 1, 2, none⟩ (.slice none 0 0)).setCell ⟨w.heap.size + 1 + 1, 3, none⟩ (.int .i64 0)).cell? ⟨w.heap.size + 1 + 1, 2, none⟩ = some (.slice none 0 0) := box_cell hKz.z 2
        have ez3 : ((((W7.setCell ⟨w.heap.size + 1 + 1, 0, none⟩ (.slice none 0 0)).setCell ⟨w.heap.size + 1 + 1, 1, none⟩ (.int .i64 0)).setCell ⟨w.heap.size + 1 + 1, 2, none⟩ (.slice none 0 0)).setCell ⟨w.heap.size + 1 + 1, 3, none⟩ (.int .i64 0)).cell? ⟨w.heap.size + 1 + 1, 3, none⟩ = some (.int .i64 0) := box_cell hKz.z 3
        have HBz := hid hKz.below
        obtain ⟨⟨z0, z1, z2, z3⟩, f0, f1, f2, f3⟩ := HK7.out.cells
        clear hKz
        go_wp2_with fail
        generalize ((((W7.setCell ⟨w.heap.size + 1 + 1, 0, none⟩ (.slice none 0 0)).setCell ⟨w.heap.size + 1 + 1, 1, none⟩ (.int .i64 0)).setCell ⟨w.heap.size + 1 + 1, 2, none⟩ (.slice none 0 0)).setCell ⟨w.heap.size + 1 + 1, 3, none⟩ (.int .i64 0)) = XX at *
        refine bodyPost_ret (v := .tuple #[.agg #[.slice none 0 0, .int .i64 0, .slice none 0 0, .int .i64 0], .bool false]) (by simp [results, Try.results22, go_sem, ez0, ez1, ez2, ez3]) rfl ?_
        rw [HNO.out]
        exact ⟨rfl, HBz.out⟩
      have q40 : ((L.length : Int) == 40) = false := beq_eq_false_iff_ne.2 (by omega)
      have q41 : decide ((L.length : Int) = 40) = false := decide_eq_false (by omega)
      have q42 : decide (L.length = 40) = false := decide_eq_false h40
      have q43 : (L.length == 40) = false := beq_eq_false_iff_ne.2 h40
      have HEQ : Hid (doV B F L s ⟨3, p, n, D, m⟩ = some (B, F, L ++ [opR ⟨3, p, n, D, m⟩], s)) := by
        show doV B F L s ⟨3, p, n, D, m⟩ = _
        rw [doV_rec (o := ⟨3, p, n, D, m⟩) (show (1 : Int) ≤ 3 ∧ (3 : Int) ≤ 3 by omega)]; unfold recDo; rw [if_pos ⟨hr, h40, fun _ => by rw [HMK.out]; exact HP.out⟩]
      have hRs : Rs (W7.alloc (.cells #[.int .i64 3, .int .i64 p, .int .i64 n, .string D] 58)).heap.size (some ⟨W7.heap.size, 0, none⟩) [opR ⟨3, p, n, D, m⟩] (W7.alloc (.cells #[.int .i64 3, .int .i64 p, .int .i64 n, .string D] 58)) := by
        have := rrow_one W7 (opR ⟨3, p, n, D, m⟩)
        have hD : str (opR ⟨3, p, n, D, m⟩).data = D := str_back D
        rw [hD] at this
        exact this
      have b8 := boxB W7 (.cells #[.int .i64 3, .int .i64 p, .int .i64 n, .string D] 58)
      obtain ⟨v9, w9, r9, o9, g9, gb9⟩ := app_rec (W7.alloc (.cells #[.int .i64 3, .int .i64 p, .int .i64 n, .string D] 58)) mid (.slice a2 L.length c2) L.length (rvals L) (rw_below hO7.log b8) (some ⟨W7.heap.size, 0, none⟩) 1 [opR ⟨3, p, n, D, m⟩] hRs (by show L.length + 1 ≤ 10000; omega) (by have := hO7.mh; have := b8.size; omega)
      obtain ⟨a9, c9, rfl⟩ := rw_form o9
      have hmid : w.heap.size + 3 ≤ mid := by have := hO7.lm; omega
      have g9b := below_of_grown (lo := mid) g9 (by have := hO7.mh; have := b8.size; omega) (fun j hj => (hO7.log.lt j hj).1)
      have hK9 := (hK7.on b8).step (g9b.mono hmid)
      have hne9 : ∀ g, (Value.slice a2 L.length c2).ownBlock = some g → g ≠ w4.heap.size := fun g hg => by have := HLD.out g hg; omega
      have hX9 := (g9.block w4.heap.size (by have := b8.size; omega) (fun e9 => hne9 _ e9.symm rfl)).trans ((b8.block w4.heap.size (by omega)).trans hX7)
      have hl1 : (L ++ [opR ⟨3, p, n, D, m⟩]).length = L.length + 1 := by rw [List.length_append]; rfl
      have hO9 : OV w3.heap.size mid a1 c1 B a9 c9 (L ++ [opR ⟨3, p, n, D, m⟩]) w9 := by
        refine ⟨hO7.lm, by have := hO7.mh; have := b8.size; have := g9.size; omega, rw_keep (rw_below hO7.base b8) (fun g hg => g9.block g (by have := (rw_below hO7.base b8).lt g hg; exact this.2) (fun e9 => ?_)), hO7.low, ?_⟩
        · have h8 := hO7.low g hg
          have h9 := (hO7.log.lt g e9.symm).1
          omega
        · rw [hl1, rvals_snoc]; exact o9
      have hlg : ∀ g, (Value.slice a9 (L ++ [opR ⟨3, p, n, D, m⟩]).length c9).ownBlock = some g → g ≠ w4.heap.size := fun g hg => by
        rw [hl1] at hg
        rcases gb9 with h8 | h8
        · exact hne9 g (by rw [← h8]; exact hg)
        · have h7 : (Value.slice a9 (L.length + 1) c9).ownBlock = some g := hg
          have h6 := h8.symm.trans h7
          injection h6 with h6
          have h5 : (W7.alloc (.cells #[.int .i64 3, .int .i64 p, .int .i64 n, .string D] 58)).heap.size = W7.heap.size + 1 := heap_size _ _
          omega
      have hO10 := hO9.apart w4.heap.size 2 (.slice a9 (L.length + 1) c9) (fun g hg => by have := HBD.out g hg; omega) hlg
      have hK10 := hK9.step (setB (Below.refl (w.heap.size + 3) w9) w4.heap.size 2 hX3 (.slice a9 (L.length + 1) c9))
      have d0 : w9.cell? ⟨w4.heap.size, 0, none⟩ = some (.slice a1 B.length c1) := box_cell hX9 0
      have g0 : w9.frozen? ⟨w4.heap.size, 0, none⟩ = false := box_free hX9 0
      have d1 : w9.cell? ⟨w4.heap.size, 1, none⟩ = some (.int .i64 F) := box_cell hX9 1
      have g1 : w9.frozen? ⟨w4.heap.size, 1, none⟩ = false := box_free hX9 1
      have d2 : w9.cell? ⟨w4.heap.size, 2, none⟩ = some (.slice a2 L.length c2) := box_cell hX9 2
      have g2 : w9.frozen? ⟨w4.heap.size, 2, none⟩ = false := box_free hX9 2
      have d3 : w9.cell? ⟨w4.heap.size, 3, none⟩ = some (.int .i64 s) := box_cell hX9 3
      have g3 : w9.frozen? ⟨w4.heap.size, 3, none⟩ = false := box_free hX9 3
      have dd2 : W7.cell? ⟨w4.heap.size, 2, none⟩ = some (.slice a2 L.length c2) := box_cell hX7 2
      have rr0 : W7.cell? ⟨w6.heap.size, 0, none⟩ = some (.int .i64 3) := box_cell hR7 0
      have rr1 : W7.cell? ⟨w6.heap.size, 1, none⟩ = some (.int .i64 p) := box_cell hR7 1
      have rr2 : W7.cell? ⟨w6.heap.size, 2, none⟩ = some (.int .i64 n) := box_cell hR7 2
      have rr3 : W7.cell? ⟨w6.heap.size, 3, none⟩ = some (.string D) := box_cell hR7 3
      have hKr := hK10.fill (.slice a1 B.length c1) (.int .i64 F) (.slice a9 (L.length + 1) c9) (.int .i64 s)
      have er0 : (((((w9.setCell ⟨w4.heap.size, 2, none⟩ (.slice a9 (L.length + 1) c9)).setCell ⟨w.heap.size + 1 + 1, 0, none⟩ (.slice a1 B.length c1)).setCell ⟨w.heap.size + 1 + 1, 1, none⟩ (.int .i64 F)).setCell ⟨w.heap.size + 1 + 1, 2, none⟩ (.slice a9 (L.length + 1) c9)).setCell ⟨w.heap.size + 1 + 1, 3, none⟩ (.int .i64 s)).cell? ⟨w.heap.size + 1 + 1, 0, none⟩ = some (.slice a1 B.length c1) := box_cell hKr.z 0
      have er1 : (((((w9.setCell ⟨w4.heap.size, 2, none⟩ (.slice a9 (L.length + 1) c9)).setCell ⟨w.heap.size + 1 + 1, 0, none⟩ (.slice a1 B.length c1)).setCell ⟨w.heap.size + 1 + 1, 1, none⟩ (.int .i64 F)).setCell ⟨w.heap.size + 1 + 1, 2, none⟩ (.slice a9 (L.length + 1) c9)).setCell ⟨w.heap.size + 1 + 1, 3, none⟩ (.int .i64 s)).cell? ⟨w.heap.size + 1 + 1, 1, none⟩ = some (.int .i64 F) := box_cell hKr.z 1
      have er2 : (((((w9.setCell ⟨w4.heap.size, 2, none⟩ (.slice a9 (L.length + 1) c9)).setCell ⟨w.heap.size + 1 + 1, 0, none⟩ (.slice a1 B.length c1)).setCell ⟨w.heap.size + 1 + 1, 1, none⟩ (.int .i64 F)).setCell ⟨w.heap.size + 1 + 1, 2, none⟩ (.slice a9 (L.length + 1) c9)).setCell ⟨w.heap.size + 1 + 1, 3, none⟩ (.int .i64 s)).cell? ⟨w.heap.size + 1 + 1, 2, none⟩ = some (.slice a9 (L.length + 1) c9) := box_cell hKr.z 2
      have er3 : (((((w9.setCell ⟨w4.heap.size, 2, none⟩ (.slice a9 (L.length + 1) c9)).setCell ⟨w.heap.size + 1 + 1, 0, none⟩ (.slice a1 B.length c1)).setCell ⟨w.heap.size + 1 + 1, 1, none⟩ (.int .i64 F)).setCell ⟨w.heap.size + 1 + 1, 2, none⟩ (.slice a9 (L.length + 1) c9)).setCell ⟨w.heap.size + 1 + 1, 3, none⟩ (.int .i64 s)).cell? ⟨w.heap.size + 1 + 1, 3, none⟩ = some (.int .i64 s) := box_cell hKr.z 3
      have HBr := hid hKr.below
      have hOr := (((hO10.set (w.heap.size + 1 + 1) 0 (.slice a1 B.length c1) (by omega)).set (w.heap.size + 1 + 1) 1 (.int .i64 F) (by omega)).set (w.heap.size + 1 + 1) 2 (.slice a9 (L.length + 1) c9) (by omega)).set (w.heap.size + 1 + 1) 3 (.int .i64 s) (by omega)
      have HCr := hid (rw_capV hOr.log)
      try rw [hnq] at HCr
      try rw [hl1] at HCr
      have HOr := hid (hOr.lower (show w.heap.size ≤ w3.heap.size by omega)).own
      have HDO : Hid (∀ e w', (∃ aB' kB' aL' kL', (L.length + 1) ≤ kL' ∧ e = .returned (.tuple #[.agg #[.slice aB' B.length kB', .int .i64 F, .slice aL' (L.length + 1) kL', .int .i64 s], .bool true]) ∧ OwnV w.heap.size w'.heap.size aB' B aL' (L ++ [opR ⟨3, p, n, D, m⟩]) w' ∧ Below w.heap.size w w') → DOutK (doV B F L s ⟨3, p, n, D, m⟩) w e w') := fun e w' h => by
        rw [HEQ.out]
        obtain ⟨x1, x2, x3, x4, h0, h1, h2, h3⟩ := h
        exact ⟨x1, x2, x3, x4, Nat.le_trans (Nat.le_of_eq hl1) h0, by rw [h1, hl1], h2, h3⟩
      obtain ⟨⟨z0, z1, z2, z3⟩, f0, f1, f2, f3⟩ := hK9.cells
      obtain ⟨y0, y1, y2, y3⟩ := hK7.vol
      clear hKr hOr hK10 hO10 hO9 hlg o9 g9 gb9 g9b hK9 hX9 hne9 hRs b8 hO7 hK7 hX7 hR7 hz7 hl1 hr h40
      go_wp2_with (at_builtin; refine wpList_append_run rfl (.tmp 58) (.tmp 60) 25 rfl _ _ rfl rfl _ _ r9 ?_)
      generalize (((((w9.setCell ⟨w4.heap.size, 2, none⟩ (.slice a9 (L.length + 1) c9)).setCell ⟨w.heap.size + 1 + 1, 0, none⟩ (.slice a1 B.length c1)).setCell ⟨w.heap.size + 1 + 1, 1, none⟩ (.int .i64 F)).setCell ⟨w.heap.size + 1 + 1, 2, none⟩ (.slice a9 (L.length + 1) c9)).setCell ⟨w.heap.size + 1 + 1, 3, none⟩ (.int .i64 s)) = XX at *
      refine bodyPost_ret (v := .tuple #[.agg #[.slice a1 B.length c1, .int .i64 F, .slice a9 (L.length + 1) c9, .int .i64 s], .bool true]) (by simp [results, Try.results22, go_sem, er0, er1, er2, er3]) rfl ?_
      exact HDO.out _ _ ⟨_, _, _, _, HCr.out, rfl, HOr.out, HBr.out⟩
  · have e1 : (p == mk + 1) = false := beq_eq_false_iff_ne.2 hp
    have e2 : decide (p = mk + 1) = false := decide_eq_false hp
    go_wp2_with fail
    go_region_held (fun v => v.cell? ⟨w.heap.size + 1, 1, none⟩ = some (.int .i64 p) ∧ v.cell? ⟨w.heap.size, 1, none⟩ = some (.int .i64 F) ∧ v.cell? ⟨w.heap.size, 2, none⟩ = some (.slice aL L.length kL)) (first | exact ⟨by with_reducible assumption, by with_reducible assumption, by with_reducible assumption⟩) (first | (go_at_call 40; refine HMd.out.mono ?_; rintro e wm ⟨rfl, bm⟩; have hKm := HKd.out.on bm; have u0 : wm.cell? ⟨w.heap.size + 1, 1, none⟩ = some (.int .i64 p) := box_cell hKm.o 1; have u1 : wm.cell? ⟨w.heap.size, 1, none⟩ = some (.int .i64 F) := box_cell hKm.x 1; have u2 : wm.cell? ⟨w.heap.size, 2, none⟩ = some (.slice aL L.length kL) := box_cell hKm.x 2))
    all_goals
      have bm5 : Below W5.heap.size W5 wm := ⟨bm.os, bm.tape, bm.output, bm.size, bm.block⟩
      have hXw : w4.heap.size < wm.heap.size := Nat.lt_of_lt_of_le hXDlt bm5.size
      replace hXb := (bm5.block w4.heap.size hXDlt).trans hXb
      replace hOb := hOb.below bm5
      have HKm := hid hKm
      clear bm bm5 hKm u0 u1 u2 t0 t1 t2 x0 x1 x2 x3 o0 o1 o2 o3 o4 hW5
      have HNO : Hid (doV B F L s ⟨3, p, n, D, m⟩ = none) := by
        show doV B F L s ⟨3, p, n, D, m⟩ = none
        rw [doV_rec (o := ⟨3, p, n, D, m⟩) (show (1 : Int) ≤ 3 ∧ (3 : Int) ≤ 3 by omega)]; unfold recDo; rw [if_neg (fun g => hp (by rw [← HMK.out]; exact g.2.2 rfl))]
      clear hp
      have hKz := HKm.out.fill (.slice none 0 0) (.int .i64 0) (.slice none 0 0) (.int .i64 0)
      have ez0 : ((((wm.setCell ⟨w.heap.size + 1 + 1, 0, none⟩ (.slice none 0 0)).setCell ⟨w.heap.size + 1 + 1, 1, none⟩ (.int .i64 0)).setCell ⟨w.heap.size + 1 + 1, 2, none⟩ (.slice none 0 0)).setCell ⟨w.heap.size + 1 + 1, 3, none⟩ (.int .i64 0)).cell? ⟨w.heap.size + 1 + 1, 0, none⟩ = some (.slice none 0 0) := box_cell hKz.z 0
      have ez1 : ((((wm.setCell ⟨w.heap.size + 1 + 1, 0, none⟩ (.slice none 0 0)).setCell ⟨w.heap.size + 1 + 1, 1, none⟩ (.int .i64 0)).setCell ⟨w.heap.size + 1 + 1, 2, none⟩ (.slice none 0 0)).setCell ⟨w.heap.size + 1 + 1, 3, none⟩ (.int .i64 0)).cell? ⟨w.heap.size + 1 + 1, 1, none⟩ = some (.int .i64 0) := box_cell hKz.z 1
      have ez2 : ((((wm.setCell ⟨w.heap.size + 1 + 1, 0, none⟩ (.slice none 0 0)).setCell ⟨w.heap.size + 1 + 1, 1, none⟩ (.int .i64 0)).setCell ⟨w.heap.size + 1 + 1, 2, none⟩ (.slice none 0 0)).setCell ⟨w.heap.size + 1 + 1, 3, none⟩ (.int .i64 0)).cell? ⟨w.heap.size + 1 + 1, 2, none⟩ = some (.slice none 0 0) := box_cell hKz.z 2
      have ez3 : ((((wm.setCell ⟨w.heap.size + 1 + 1, 0, none⟩ (.slice none 0 0)).setCell ⟨w.heap.size + 1 + 1, 1, none⟩ (.int .i64 0)).setCell ⟨w.heap.size + 1 + 1, 2, none⟩ (.slice none 0 0)).setCell ⟨w.heap.size + 1 + 1, 3, none⟩ (.int .i64 0)).cell? ⟨w.heap.size + 1 + 1, 3, none⟩ = some (.int .i64 0) := box_cell hKz.z 3
      have HBz := hid hKz.below
      obtain ⟨⟨z0, z1, z2, z3⟩, f0, f1, f2, f3⟩ := HKm.out.cells
      clear hKz
      go_wp2_with fail
      generalize ((((wm.setCell ⟨w.heap.size + 1 + 1, 0, none⟩ (.slice none 0 0)).setCell ⟨w.heap.size + 1 + 1, 1, none⟩ (.int .i64 0)).setCell ⟨w.heap.size + 1 + 1, 2, none⟩ (.slice none 0 0)).setCell ⟨w.heap.size + 1 + 1, 3, none⟩ (.int .i64 0)) = XX at *
      refine bodyPost_ret (v := .tuple #[.agg #[.slice none 0 0, .int .i64 0, .slice none 0 0, .int .i64 0], .bool false]) (by simp [results, Try.results22, go_sem, ez0, ez1, ez2, ez3]) rfl ?_
      rw [HNO.out]
      exact ⟨rfl, HBz.out⟩
end Go.Proofs.Ytlaafcmfddidnaa
namespace Go.Proofs.Ytlaafcmfddidnaa
set_option maxRecDepth 100000
open Go Go.ChangeShapes Go.WideShapes Go.ChangeAt Go.RowKit G00541
theorem kboxV {w : World} {R : Nat} {o : Obj} (h : w.heap[R]? = some o) : R < w.heap.size := by
  obtain ⟨h1, _⟩ := Array.getElem?_eq_some_iff.1 h
  exact h1
theorem OwnV.same {lo hi : Nat} {aB : Option Addr} {B : List ByteArray} {aL : Option Addr} {L : List Rc} {w w' : World} (h : OwnV lo hi aB B aL L w) (hs : w.heap.size ≤ w'.heap.size) (g : ∀ k, lo ≤ k → k < hi → w'.heap[k]? = w.heap[k]?) : OwnV lo hi aB B aL L w' := by
  obtain ⟨mid, h1, h2, h3, h4⟩ := h
  refine ⟨mid, h1, h2, ?_, ?_⟩
  · rcases h3 with e | ⟨R, r1, r2, e, r⟩
    · exact Or.inl e
    · exact Or.inr ⟨R, r1, r2, e, r.same hs (g R r1 (by omega))⟩
  · rcases h4 with e | ⟨R, r1, r2, e, r⟩
    · exact Or.inl e
    · exact Or.inr ⟨R, r1, r2, e, r.same hs (g R (by omega) r2)⟩
/-- what the program's play keeps: its answer's box, its volume's, its row of truth values -/
structure PV (w : World) (X DB : Nat) (v : Vol) (aB : Option Addr) (kB : Nat) (aL : Option Addr) (kL : Nat) (d : List Bool) (lo hi : Nat) (wr : World) : Prop where
  be : Below w.heap.size w wr
  bz : wr.heap[w.heap.size]? = some (.cells #[.slice none 0 0, .int .i64 0, .slice none 0 0, .int .i64 0] 27)
  bv : wr.heap[X]? = some (.cells #[.slice aB v.1.length kB, .int .i64 v.2.1, .slice aL v.2.2.1.length kL, .int .i64 v.2.2.2] 27)
  row : BRow DB d wr
  own : OwnV lo hi aB v.1 aL v.2.2.1 wr
  cap : v.2.2.1.length ≤ kL
  wx : w.heap.size < X
  xd : X < DB
  ord : (w.heap.size < lo ∧ hi ≤ X) ∨ DB < lo
  lh : lo ≤ hi
  hs : hi ≤ wr.heap.size
theorem PV.on {w : World} {X DB : Nat} {v : Vol} {aB : Option Addr} {kB : Nat} {aL : Option Addr} {kL : Nat} {d : List Bool} {lo hi : Nat} {wr w' : World} (h : PV w X DB v aB kB aL kL d lo hi wr) (g : Below wr.heap.size wr w') : PV w X DB v aB kB aL kL d lo hi w' :=
  ⟨h.be.trans (g.mono h.be.size), (g.block _ (kboxV h.bz)).trans h.bz, (g.block _ (kboxV h.bv)).trans h.bv, h.row.below g, h.own.below g, h.cap, h.wx, h.xd, h.ord, h.lh, Nat.le_trans h.hs g.size⟩
theorem PV.put {w : World} {X DB : Nat} {v : Vol} {aB : Option Addr} {kB : Nat} {aL : Option Addr} {kL : Nat} {d : List Bool} {lo hi : Nat} {wr : World} (h : PV w X DB v aB kB aL kL d lo hi wr) (i : Nat) (hi' : i < d.length) (u : Vol) (aB' : Option Addr) (kB' : Nat) (aL' : Option Addr) (kL' : Nat) (lo' hi2 : Nat) (ho : OwnV lo' hi2 aB' u.1 aL' u.2.2.1 wr) (hc : u.2.2.1.length ≤ kL') (hl : DB < lo') (hlh : lo' ≤ hi2) (hh : hi2 ≤ wr.heap.size) :
    PV w X DB u aB' kB' aL' kL' (d.set i true) lo' hi2 (((((wr.setCell ⟨X, 0, none⟩ (.slice aB' u.1.length kB')).setCell ⟨X, 1, none⟩ (.int .i64 u.2.1)).setCell ⟨X, 2, none⟩ (.slice aL' u.2.2.1.length kL')).setCell ⟨X, 3, none⟩ (.int .i64 u.2.2.2)).setCell ⟨DB, i, none⟩ (.bool true)) := by
  have hx := h.wx
  have hd := h.xd
  have hk : ∀ q, q ≠ X → q ≠ DB → (((((wr.setCell ⟨X, 0, none⟩ (.slice aB' u.1.length kB')).setCell ⟨X, 1, none⟩ (.int .i64 u.2.1)).setCell ⟨X, 2, none⟩ (.slice aL' u.2.2.1.length kL')).setCell ⟨X, 3, none⟩ (.int .i64 u.2.2.2)).setCell ⟨DB, i, none⟩ (.bool true)).heap[q]? = wr.heap[q]? := fun q h1 h2 => by
    rw [keepB _ _ _ _ _ h2, keepB _ _ _ _ _ h1, keepB _ _ _ _ _ h1, keepB _ _ _ _ _ h1, keepB _ _ _ _ _ h1]
  have hz : (((((wr.setCell ⟨X, 0, none⟩ (.slice aB' u.1.length kB')).setCell ⟨X, 1, none⟩ (.int .i64 u.2.1)).setCell ⟨X, 2, none⟩ (.slice aL' u.2.2.1.length kL')).setCell ⟨X, 3, none⟩ (.int .i64 u.2.2.2)).setCell ⟨DB, i, none⟩ (.bool true)).heap.size = wr.heap.size := by simp [World.setCell]
  refine ⟨setB (setB (setB (setB (setB h.be _ _ (by omega) _) _ _ (by omega) _) _ _ (by omega) _) _ _ (by omega) _) _ _ (by omega) _, (hk _ (by omega) (by omega)).trans h.bz, ?_, ?_, ho.same (by rw [hz]; exact Nat.le_refl _) (fun q h1 h2 => hk q (by omega) (by omega)), hc, hx, hd, Or.inr hl, hlh, by rw [hz]; exact hh⟩
  · rw [keepB _ _ _ _ _ (by omega)]
    have := box_set (box_set (box_set (box_set h.bv 0 (.slice aB' u.1.length kB')) 1 (.int .i64 u.2.1)) 2 (.slice aL' u.2.2.1.length kL')) 3 (.int .i64 u.2.2.2)
    simpa using this
  · refine BRow.set (h.row.same (w' := (((wr.setCell ⟨X, 0, none⟩ (.slice aB' u.1.length kB')).setCell ⟨X, 1, none⟩ (.int .i64 u.2.1)).setCell ⟨X, 2, none⟩ (.slice aL' u.2.2.1.length kL')).setCell ⟨X, 3, none⟩ (.int .i64 u.2.2.2)) (by simp [World.setCell]) ?_) i hi' true
    rw [keepB _ _ _ _ _ (by omega), keepB _ _ _ _ _ (by omega), keepB _ _ _ _ _ (by omega), keepB _ _ _ _ _ (by omega)]
theorem take_rep (d : List Bool) (k n : Nat) (hk : k < n) (hd : d.length = k) (b : Bool) : (d ++ List.replicate (n - k) false).set k b = (d ++ [b]) ++ List.replicate (n - (k + 1)) false := by
  rw [List.set_append_right _ _ (by omega), hd, Nat.sub_self, show n - k = (n - (k + 1)) + 1 by omega, List.replicate_succ, List.set_cons_zero, List.append_assoc]
  rfl
theorem take_rep0 (d : List Bool) (k n : Nat) (hk : k < n) : d ++ List.replicate (n - k) false = (d ++ [false]) ++ List.replicate (n - (k + 1)) false := by
  rw [show n - k = (n - (k + 1)) + 1 by omega, List.replicate_succ, List.append_assoc]
  rfl
set_option maxHeartbeats 4000000 in
theorem iplay_yes (a : Option Addr) (cap : Nat) (l : List Op) (w : World) (hn : l.length ≤ 60) (hZ : Os w.heap.size a l w) :
    Calls Try.prog 7 #[.slice a l.length cap] w fun e w' => POut (runV l (newV, [])).1 (runV l (newV, [])).2 true w e w' := by
  have hd60 : decide ((60 : Int) < (l.length : Int)) = false := decide_eq_false (by omega)
  have g0 := boxB w (.cells #[.slice none 0 0, .int .i64 0, .slice none 0 0, .int .i64 0] 27)
  have k0 := heap_last w (.cells #[.slice none 0 0, .int .i64 0, .slice none 0 0, .int .i64 0] 27)
  have z0 := heap_size w (.cells #[.slice none 0 0, .int .i64 0, .slice none 0 0, .int .i64 0] 27)
  generalize hW0 : w.alloc (.cells #[.slice none 0 0, .int .i64 0, .slice none 0 0, .int .i64 0] 27) = w0 at *
  have HG0 := hid g0
  have HK0 := hid k0
  have HZ0 := hid z0
  have HZ := hid hZ
  have hmk := make_bools l.length (by omega)
  clear g0 k0 z0 hZ
  go_enter Try.func7, Try.ntmps7
  go_wp2_with fail
  refine (inew_any _).mono ?_
  rintro e w1 ⟨b, c, rfl, o1, g1⟩
  have gX := boxB w1 (.cells #[.slice b 16 c, .int .i64 0, .slice none 0 0, .int .i64 0] 27)
  have kX := heap_last w1 (.cells #[.slice b 16 c, .int .i64 0, .slice none 0 0, .int .i64 0] 27)
  have zX := heap_size w1 (.cells #[.slice b 16 c, .int .i64 0, .slice none 0 0, .int .i64 0] 27)
  obtain ⟨wx, hWX⟩ : ∃ wx, wx = w1.alloc (.cells #[.slice b 16 c, .int .i64 0, .slice none 0 0, .int .i64 0] 27) := ⟨_, rfl⟩
  rw [← hWX] at gX kX zX
  have HWX := hid hWX
  clear hWX
  have gM := boxB wx (.cells (madeCells (Value.bool false).cells l.length) 4)
  have rM := BRow.made wx l.length
  generalize madeCells (Value.bool false).cells l.length = M at *
  rw [zX] at rM
  have HP : Hid (PV w w1.heap.size (w1.heap.size + 1) newV b c none 0 (List.replicate l.length false) w0.heap.size w1.heap.size (wx.alloc (.cells M 4))) := by
    have hz0 := HZ0.out
    have hs1 := g1.size
    have g2 := HG0.out.trans (g1.mono HG0.out.size)
    have g3 := gX.trans (gM.mono gX.size)
    refine ⟨g2.trans (g3.mono g2.size), ?_, ?_, rM, (o1.below gX).below gM, by decide, by omega, by omega, Or.inl ⟨by omega, Nat.le_refl _⟩, by omega, by have := gM.size; omega⟩
    · exact (gM.block _ (by omega)).trans ((gX.block _ (by omega)).trans ((g1.block _ (by omega)).trans HK0.out))
    · exact (gM.block _ (kboxV kX)).trans kX
  clear g1 o1 gX kX zX gM rM HG0 HK0
  go_wp2_with fail
  rw [← HWX.out]
  clear HWX
  generalize wx.alloc (.cells M 4) = wm at *
  go_loopw [21] (fun i wr => ∃ (k : Nat) (aB : Option Addr) (kB : Nat) (aL : Option Addr) (kL : Nat) (lo hi : Nat), k ≤ l.length ∧ i = .int .i64 k ∧ PV w w1.heap.size (w1.heap.size + 1) (runV (l.take k) (newV, [])).1 aB kB aL kL ((runV (l.take k) (newV, [])).2 ++ List.replicate (l.length - k) false) lo hi wr) (fun i _ => l.length - (intOf i).toNat)
  case atStart => exact ⟨0, _, _, _, _, _, _, Nat.zero_le _, rfl, HP.out⟩
  case round =>
    clear HP
    obtain ⟨k, aB, kB, aL, kL, lo, hi, hk, rfl, hP⟩ := hrel
    by_cases hlt : k < l.length
    · obtain ⟨b', off, rfl, hb', hc⟩ := HZ.out.cell (by omega)
      obtain ⟨c0, c1, c2, c3, c4⟩ := hc k hlt
      have x0 := (hP.be.cell (p := ⟨b', off + k * 5, none⟩) hb').trans c0
      have x1 := (hP.be.cell (p := ⟨b', off + k * 5 + 1, none⟩) hb').trans c1
      have x2 := (hP.be.cell (p := ⟨b', off + k * 5 + 2, none⟩) hb').trans c2
      have x3 := (hP.be.cell (p := ⟨b', off + k * 5 + 3, none⟩) hb').trans c3
      have x4 := (hP.be.cell (p := ⟨b', off + k * 5 + 4, none⟩) hb').trans c4
      have HSN : Hid (runV (l.take (k + 1)) (newV, []) = (nextV (runV (l.take k) (newV, [])).1 l[k], (runV (l.take k) (newV, [])).2 ++ [didV (runV (l.take k) (newV, [])).1 l[k]])) := by
        show _ = _
        rw [List.take_succ_eq_append_getElem hlt, runV_snoc]
      have HDL : Hid ((runV (l.take k) (newV, [])).2.length = k) := by show _ = _; rw [runV_len, List.length_take]; simp; omega
      have HGD := hid (runV_good (l.take k) (newV, []) GoodVol.new)
      clear hc c0 c1 c2 c3 c4
      generalize (runV (l.take k) (newV, [])).1 = v at *
      generalize (runV (l.take k) (newV, [])).2 = d at *
      generalize hop : l[k] = o at *
      obtain ⟨o0, o1, o2, o3, o4⟩ := o
      simp only at x0 x1 x2 x3 x4
      have gO := boxB wr (.cells #[.int .i64 o0, .int .i64 o1, .int .i64 o2, .string o3, .int .i64 o4] 44)
      have kO := heap_last wr (.cells #[.int .i64 o0, .int .i64 o1, .int .i64 o2, .string o3, .int .i64 o4] 44)
      generalize hWO : wr.alloc (.cells #[.int .i64 o0, .int .i64 o1, .int .i64 o2, .string o3, .int .i64 o4] 44) = wo at *
      have hPo := hP.on gO
      have HPo := hid hPo
      have q0 : wo.cell? ⟨wr.heap.size, 0, none⟩ = some (.int .i64 o0) := box_cell kO 0
      have q1 : wo.cell? ⟨wr.heap.size, 1, none⟩ = some (.int .i64 o1) := box_cell kO 1
      have q2 : wo.cell? ⟨wr.heap.size, 2, none⟩ = some (.int .i64 o2) := box_cell kO 2
      have q3 : wo.cell? ⟨wr.heap.size, 3, none⟩ = some (.string o3) := box_cell kO 3
      have q4 : wo.cell? ⟨wr.heap.size, 4, none⟩ = some (.int .i64 o4) := box_cell kO 4
      have v0 : wo.cell? ⟨w1.heap.size, 0, none⟩ = some (.slice aB v.1.length kB) := box_cell hPo.bv 0
      have v1 : wo.cell? ⟨w1.heap.size, 1, none⟩ = some (.int .i64 v.2.1) := box_cell hPo.bv 1
      have v2 : wo.cell? ⟨w1.heap.size, 2, none⟩ = some (.slice aL v.2.2.1.length kL) := box_cell hPo.bv 2
      have v3 : wo.cell? ⟨w1.heap.size, 3, none⟩ = some (.int .i64 v.2.2.2) := box_cell hPo.bv 3
      have HDO := hid (idoV_k aB aL kB kL v.1 v.2.1 v.2.2.1 v.2.2.2 o0 o1 o2 o4 o3 wo (by have := goodBs_len HGD.out.bs; have := HGD.out.len; omega) hPo.cap hPo.own.read.1 hPo.own.read.2 HGD.out)
      clear hP hPo gO kO hop
      cases hdv : doV v.1 v.2.1 v.2.2.1 v.2.2.2 ⟨o0, o1, o2, o3, o4⟩ with
      | none =>
        rw [hdv] at HDO
        have HE : Hid (runV (l.take (k + 1)) (newV, []) = (v, d ++ [false])) := by
          show _ = _
          rw [HSN.out]
          unfold nextV didV
          rw [hdv]
          rfl
        clear hdv HSN HGD
        go_wp2_with fail
        refine HDO.out.mono ?_
        rintro e w2 ⟨rfl, g2⟩
        have g3 := boxB w2 (.cells #[.slice none 0 0, .int .i64 0, .slice none 0 0, .int .i64 0] 27)
        have h3 := (HPo.out.on g2).on g3
        have h4 := (HPo.out.on g2).on (setB (setB (setB (setB g3 w2.heap.size 0 (Nat.le_refl _) (.slice none 0 0)) w2.heap.size 1 (Nat.le_refl _) (.int .i64 0)) w2.heap.size 2 (Nat.le_refl _) (.slice none 0 0)) w2.heap.size 3 (Nat.le_refl _) (.int .i64 0))
        rw [take_rep0 d k l.length hlt] at h3 h4
        have HP3 := hid h3
        have HP4 := hid h4
        clear g2 g3 h3 h4 HDO HPo v0 v1 v2 v3 q0 q1 q2 q3 q4
        go_wp2_with fail
        go_roundw
        case rel => exact ⟨k + 1, aB, kB, aL, kL, lo, hi, by omega, by go_num, by rw [HE.out]; first | exact HP3.out | exact HP4.out⟩
        case measure => simp [intOf]; omega
      | some u =>
        rw [hdv] at HDO
        have HE : Hid (runV (l.take (k + 1)) (newV, []) = (u, d ++ [true])) := by
          show _ = _
          rw [HSN.out]
          unfold nextV didV
          rw [hdv]
          rfl
        clear hdv HSN HGD
        go_wp2_with fail
        refine HDO.out.mono ?_
        rintro e w2 ⟨aB', kB', aL', kL', hcap, rfl, ho2, g2⟩
        have g3 := boxB w2 (.cells #[.slice aB' u.1.length kB', .int .i64 u.2.1, .slice aL' u.2.2.1.length kL', .int .i64 u.2.2.2] 27)
        have k3 := heap_last w2 (.cells #[.slice aB' u.1.length kB', .int .i64 u.2.1, .slice aL' u.2.2.1.length kL', .int .i64 u.2.2.2] 27)
        have hP3 : PV w w1.heap.size (w1.heap.size + 1) v aB kB aL kL (d ++ List.replicate (l.length - k) false) lo hi (w2.alloc (.cells #[.slice aB' u.1.length kB', .int .i64 u.2.1, .slice aL' u.2.2.1.length kL', .int .i64 u.2.2.2] 27)) := (HPo.out.on g2).on g3
        have hon : w1.heap.size + 1 < wo.heap.size := HPo.out.row.lt
        have hs2 := g2.size
        have hs3 := g3.size
        have HP4 := hid (hP3.put k (by rw [List.length_append, HDL.out, List.length_replicate]; omega) u aB' kB' aL' kL' wo.heap.size w2.heap.size (ho2.below g3) hcap hon hs2 hs3)
        rw [take_rep d k l.length hlt HDL.out] at HP4
        have y0 := box_cell k3 0
        have y1 := box_cell k3 1
        have y2 := box_cell k3 2
        have y3 := box_cell k3 3
        have e0 := box_cell hP3.bv 0
        have e1 := box_cell hP3.bv 1
        have e2 := box_cell hP3.bv 2
        have e3 := box_cell hP3.bv 3
        have f0 := box_free hP3.bv 0
        have f1 := box_free hP3.bv 1
        have f2 := box_free hP3.bv 2
        have f3 := box_free hP3.bv 3
        have hkd : k < (d ++ List.replicate (l.length - k) false).length := by rw [List.length_append, HDL.out, List.length_replicate]; omega
        have r0 := hP3.row.cell k hkd
        have r1 := hP3.row.free k hkd
        generalize (d ++ List.replicate (l.length - k) false)[k] = rb at *
        clear g2 g3 ho2 k3 hP3 HDO HPo v0 v1 v2 v3 q0 q1 q2 q3 q4 hkd hs2 hs3 hon
        simp only [List.getElem?_toArray, List.getElem?_cons_zero, List.getElem?_cons_succ] at y0 y1 y2 y3 e0 e1 e2 e3
        generalize hW3 : w2.alloc (.cells #[.slice aB' u.1.length kB', .int .i64 u.2.1, .slice aL' u.2.2.1.length kL', .int .i64 u.2.2.2] 27) = w3 at *
        go_wp2_with fail
        go_roundw
        case rel => exact ⟨k + 1, aB', kB', aL', kL', _, _, by omega, by go_num, by rw [HE.out]; exact HP4.out⟩
        case measure => simp [intOf]; omega
    · obtain rfl : k = l.length := by omega
      rw [List.take_length, Nat.sub_self, List.replicate_zero, List.append_nil] at hP
      have HDL : Hid ((runV l (newV, [])).2.length = l.length) := by show _ = _; rw [runV_len]; simp
      obtain ⟨v, hv⟩ : ∃ v, (runV l (newV, [])).1 = v := ⟨_, rfl⟩
      obtain ⟨d, hdd⟩ : ∃ d, (runV l (newV, [])).2 = d := ⟨_, rfl⟩
      rw [hv, hdd] at hP
      rw [hdd] at HDL
      have HV := hid hv
      have HDD := hid hdd
      clear hv hdd
      have v0 : wr.cell? ⟨w1.heap.size, 0, none⟩ = some (.slice aB v.1.length kB) := box_cell hP.bv 0
      have v1 : wr.cell? ⟨w1.heap.size, 1, none⟩ = some (.int .i64 v.2.1) := box_cell hP.bv 1
      have v2 : wr.cell? ⟨w1.heap.size, 2, none⟩ = some (.slice aL v.2.2.1.length kL) := box_cell hP.bv 2
      have v3 : wr.cell? ⟨w1.heap.size, 3, none⟩ = some (.int .i64 v.2.2.2) := box_cell hP.bv 3
      have z0 : wr.cell? ⟨w.heap.size, 0, none⟩ = some (.slice none 0 0) := box_cell hP.bz 0
      have z1 : wr.cell? ⟨w.heap.size, 1, none⟩ = some (.int .i64 0) := box_cell hP.bz 1
      have z2 : wr.cell? ⟨w.heap.size, 2, none⟩ = some (.slice none 0 0) := box_cell hP.bz 2
      have z3 : wr.cell? ⟨w.heap.size, 3, none⟩ = some (.int .i64 0) := box_cell hP.bz 3
      have f0 := box_free hP.bz 0
      have f1 := box_free hP.bz 1
      have f2 := box_free hP.bz 2
      have f3 := box_free hP.bz 3
      have hbn := box_set (box_set (box_set (box_set hP.bz 0 (.slice aB v.1.length kB)) 1 (.int .i64 v.2.1)) 2 (.slice aL v.2.2.1.length kL)) 3 (.int .i64 v.2.2.2)
      have e0 := box_cell hbn 0
      have e1 := box_cell hbn 1
      have e2 := box_cell hbn 2
      have e3 := box_cell hbn 3
      simp only [List.setIfInBounds_toArray, List.set_cons_zero, List.set_cons_succ, List.getElem?_toArray, List.getElem?_cons_zero, List.getElem?_cons_succ] at e0 e1 e2 e3
      have HOUT : Hid (POut v d true w (.returned (.tuple #[.agg #[.slice aB v.1.length kB, .int .i64 v.2.1, .slice aL v.2.2.1.length kL, .int .i64 v.2.2.2], .slice (some ⟨w1.heap.size + 1, 0, none⟩) l.length l.length, .bool true])) ((((wr.setCell ⟨w.heap.size, 0, none⟩ (.slice aB v.1.length kB)).setCell ⟨w.heap.size, 1, none⟩ (.int .i64 v.2.1)).setCell ⟨w.heap.size, 2, none⟩ (.slice aL v.2.2.1.length kL)).setCell ⟨w.heap.size, 3, none⟩ (.int .i64 v.2.2.2))) := by
        have hx := hP.wx
        have hlt := hP.row.lt
        have hsz : ((((wr.setCell ⟨w.heap.size, 0, none⟩ (.slice aB v.1.length kB)).setCell ⟨w.heap.size, 1, none⟩ (.int .i64 v.2.1)).setCell ⟨w.heap.size, 2, none⟩ (.slice aL v.2.2.1.length kL)).setCell ⟨w.heap.size, 3, none⟩ (.int .i64 v.2.2.2)).heap.size = wr.heap.size := by simp [World.setCell]
        have hk : ∀ q, q ≠ w.heap.size → ((((wr.setCell ⟨w.heap.size, 0, none⟩ (.slice aB v.1.length kB)).setCell ⟨w.heap.size, 1, none⟩ (.int .i64 v.2.1)).setCell ⟨w.heap.size, 2, none⟩ (.slice aL v.2.2.1.length kL)).setCell ⟨w.heap.size, 3, none⟩ (.int .i64 v.2.2.2)).heap[q]? = wr.heap[q]? := fun q h1 => by
          rw [keepB _ _ _ _ _ h1, keepB _ _ _ _ _ h1, keepB _ _ _ _ _ h1, keepB _ _ _ _ _ h1]
        have hord := hP.ord
        have hlh := hP.lh
        have hhs := hP.hs
        refine ⟨aB, kB, aL, kL, some ⟨w1.heap.size + 1, 0, none⟩, l.length, by rw [HDL.out], lo, hi, w1.heap.size + 1, w1.heap.size + 1 + 1, by omega, by omega, by omega, by omega, hlh, by omega, by omega, hP.own.same (by omega) (fun q h1 h2 => hk q (by omega)), Or.inr ⟨w1.heap.size + 1, Nat.le_refl _, by omega, rfl, hP.row.same (by omega) (hk _ (by omega))⟩, setB (setB (setB (setB hP.be _ _ (Nat.le_refl _) _) _ _ (Nat.le_refl _) _) _ _ (Nat.le_refl _) _) _ _ (Nat.le_refl _) _⟩
      clear hP hbn
      go_wp2_with fail
      generalize ((((wr.setCell ⟨w.heap.size, 0, none⟩ (.slice aB v.1.length kB)).setCell ⟨w.heap.size, 1, none⟩ (.int .i64 v.2.1)).setCell ⟨w.heap.size, 2, none⟩ (.slice aL v.2.2.1.length kL)).setCell ⟨w.heap.size, 3, none⟩ (.int .i64 v.2.2.2)) = XX at *
      refine bodyPost_ret (v := .tuple #[.agg #[.slice aB v.1.length kB, .int .i64 v.2.1, .slice aL v.2.2.1.length kL, .int .i64 v.2.2.2], .slice (some ⟨w1.heap.size + 1, 0, none⟩) l.length l.length, .bool true]) (by simp [results, Try.results7, go_sem, e0, e1, e2, e3]) rfl ?_
      rw [HV.out, HDD.out]
      exact HOUT.out
end Go.Proofs.Ytlaafcmfddidnaa
