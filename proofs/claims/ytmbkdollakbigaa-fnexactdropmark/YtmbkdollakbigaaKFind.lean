/- Walks of the model's l7Block, l7Find, l7At. -/
import Derived.Test.YtmbkdollakbigaaKGoodS
namespace Go.Proofs.Ytmbkdollakbigaa
set_option maxRecDepth 100000
open Go Go.ChangeShapes Go.WideShapes Go.ChangeAt Go.RowKit
/-- the place of the first layer with a mark, the number of layers for none -/
def fndK (S : List Ly) (m : Int) : Nat := S.findIdx (fun y => y.mark == m)
theorem fndK_at {S : List Ly} {m : Int} {k : Nat} (h : k < S.length) (e : S[k].mark = m) (a : ∀ j (g : j < S.length), j < k → S[j].mark ≠ m) : fndK S m = k :=
  (List.findIdx_eq h).2 ⟨beq_iff_eq.2 e, fun j hj => beq_eq_false_iff_ne.2 (a j (by omega) hj)⟩
theorem fndK_none {S : List Ly} {m : Int} (a : ∀ j (g : j < S.length), S[j].mark ≠ m) : fndK S m = S.length :=
  List.findIdx_eq_length.2 fun y hy => by
    obtain ⟨j, hj, rfl⟩ := List.getElem_of_mem hy
    exact beq_eq_false_iff_ne.2 (a j hj)
theorem fndK_le (S : List Ly) (m : Int) : fndK S m ≤ S.length := List.findIdx_le_length
/-- the same, -1 for none -/
def fk (S : List Ly) (m : Int) : Int := if fndK S m < S.length then (fndK S m : Int) else -1
theorem fk_at {S : List Ly} {m : Int} (h : fndK S m < S.length) : fk S m = (fndK S m : Int) := if_pos h
theorem fk_none {S : List Ly} {m : Int} (h : ¬ fndK S m < S.length) : fk S m = -1 := if_neg h
theorem fk_yes {S : List Ly} {m : Int} {k : Nat} (h : k < S.length) (e : fndK S m = k) : Ending.returned (.int .i64 (k : Int)) = .returned (.int .i64 (fk S m)) := by
  rw [fk_at (by omega), e]
theorem fk_no {S : List Ly} {m : Int} (e : fndK S m = S.length) : Ending.returned (.int .i64 (-1)) = .returned (.int .i64 (fk S m)) := by
  rw [fk_none (by omega)]
/-- a block's data after the first j blocks of a layer -/
def atB (bl : List Int) (dt : List ByteArray) (x : Int) (s : ByteArray) : Nat → ByteArray
  | 0 => s
  | j + 1 => if bl.getD j 0 = x then dt.getD j ⟨#[]⟩ else atB bl dt x s j
theorem atB_yes (bl : List Int) (dt : List ByteArray) (x : Int) (s : ByteArray) (j : Nat) (h : j < bl.length) (g : j < dt.length) (e : bl[j] = x) : dt[j] = atB bl dt x s (j + 1) := by
  have e1 : bl.getD j 0 = x := by rw [List.getD_eq_getElem?_getD, List.getElem?_eq_getElem h]; exact e
  show _ = if bl.getD j 0 = x then dt.getD j ⟨#[]⟩ else atB bl dt x s j
  rw [if_pos e1, List.getD_eq_getElem?_getD, List.getElem?_eq_getElem g]; rfl
theorem atB_no (bl : List Int) (dt : List ByteArray) (x : Int) (s : ByteArray) (j : Nat) (h : j < bl.length) (e : ¬ bl[j] = x) : atB bl dt x s j = atB bl dt x s (j + 1) := by
  have e1 : ¬ bl.getD j 0 = x := by rw [List.getD_eq_getElem?_getD, List.getElem?_eq_getElem h]; exact e
  show _ = if bl.getD j 0 = x then dt.getD j ⟨#[]⟩ else atB bl dt x s j
  rw [if_neg e1]
/-- a block's data after the first k layers -/
def atL (S : List Ly) (x : Int) : Nat → ByteArray
  | 0 => ⟨#[0, 0]⟩
  | k + 1 => let y := S.getD k ⟨0, [], []⟩; atB y.bl y.dt x (atL S x k) y.bl.length
theorem atL_at (S : List Ly) (x : Int) (k : Nat) (h : k < S.length) : atL S x (k + 1) = atB S[k].bl S[k].dt x (atL S x k) S[k].bl.length := by
  have e : S.getD k ⟨0, [], []⟩ = S[k] := by rw [List.getD_eq_getElem?_getD, List.getElem?_eq_getElem h]; rfl
  show atB (S.getD k ⟨0, [], []⟩).bl (S.getD k ⟨0, [], []⟩).dt x (atL S x k) (S.getD k ⟨0, [], []⟩).bl.length = _
  rw [e]
set_option maxHeartbeats 4000000 in
theorem l7Find_any (a : Option Addr) (cap : Nat) (S : List Ly) (x : Int) (w : World) (hn : S.length ≤ 1048576) (hG : Ys w.heap.size a S w) :
    Calls Try.prog 19 #[.agg #[.slice a S.length cap], .int .i64 x] w fun e w' => e = .returned (.int .i64 (fk S x)) ∧ Below w.heap.size w w' := by
  have HB := hid (Bx.start w (.cells #[.slice a S.length cap] 31))
  have HG := hid ((hG.below HB.out.below).mono HB.out.below.size)
  clear hG
  generalize hW : w.alloc (.cells #[.slice a S.length cap] 31) = W at *
  have x0 : W.cell? ⟨w.heap.size, 0, none⟩ = some (.slice a S.length cap) := box_cell HB.out.box 0
  go_enter Try.func19, Try.ntmps19
  go_wp2_with fail
  clear hW x0
  go_loopw [10] (fun i wr => ∃ k : Nat, k ≤ S.length ∧ i = .int .i64 k ∧ (∀ j (h : j < S.length), j < k → S[j].mark ≠ x) ∧ Below W.heap.size W wr) (fun i _ => S.length - (intOf i).toNat)
  case atStart => exact ⟨0, Nat.zero_le _, rfl, (fun _ _ h => absurd h (Nat.not_lt_zero _)), Below.refl _ _⟩
  case round =>
    obtain ⟨k, hk, rfl, hall, hbel⟩ := hrel
    have HALL := hid hall
    have HBEL := hid hbel
    have HBW : Hid (Below w.heap.size w wr) := HB.out.below.trans (hbel.mono HB.out.below.size)
    have hszr := hbel.size
    clear hall
    by_cases hlt : k < S.length
    · obtain ⟨b, off, rfl, hb, hcl⟩ := HG.out (by omega)
      obtain ⟨p, c, q, d, c0, c1, c2, _, _⟩ := hcl k hlt
      have kc : ∀ o, wr.cell? ⟨b, o, none⟩ = W.cell? ⟨b, o, none⟩ := fun o => hbel.cell (p := ⟨b, o, none⟩) hb
      rw [← kc] at c0 c1 c2
      have HY : Hid (S[k].mark = x → fndK S x = k) := fun g => fndK_at hlt g HALL.out
      have HN : Hid (S[k].mark ≠ x → ∀ j (h : j < S.length), j < k + 1 → S[j].mark ≠ x) := fun g j hj hjk => by
        by_cases e : j = k
        · subst e; exact g
        · exact HALL.out j hj (by omega)
      clear hcl kc hbel HALL
      generalize hs : S[k] = s at *
      obtain ⟨m, bl, dt⟩ := s
      simp only at c0 c1 c2 HN HY
      have hbx := boxB wr (.cells #[.int .i64 m, .slice p bl.length c, .slice q dt.length d] 64)
      have HB1 := hid (HBEL.out.trans (hbx.mono hszr))
      have HB1W := hid (HBW.out.trans (hbx.mono HBW.out.size))
      have y0 : (wr.alloc (.cells #[.int .i64 m, .slice p bl.length c, .slice q dt.length d] 64)).cell? ⟨wr.heap.size, 0, none⟩ = some (.int .i64 m) := box_cell (heap_last _ _) 0
      clear hbx hs
      by_cases hx : m = x
      · have d1 : (m == x) = true := beq_iff_eq.2 hx
        have d2 : decide (m = x) = true := decide_eq_true hx
        have HE := hid (HY.out hx)
        clear HY HN hx
        go_wp2_with fail
        go_ret
        exact ⟨fk_yes hlt HE.out, HB1W.out⟩
      · have d1 : (m == x) = false := beq_eq_false_iff_ne.2 hx
        have d2 : decide (m = x) = false := decide_eq_false hx
        have HE := hid (HN.out hx)
        clear HY HN hx
        go_wp2_with fail
        go_roundw
        case rel => exact ⟨k + 1, by omega, by go_num, HE.out, HB1.out⟩
        case measure => simp [intOf]; omega
    · have HE : Hid (fndK S x = S.length) := fndK_none fun j hj => HALL.out j hj (by omega)
      clear hbel
      go_wp2_with fail
      go_ret
      exact ⟨fk_no HE.out, HBW.out⟩
end Go.Proofs.Ytmbkdollakbigaa
