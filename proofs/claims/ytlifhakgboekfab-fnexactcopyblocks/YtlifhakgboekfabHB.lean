/- Small texts that the others stand on, in one. -/
import Derived.Test.YtlifhakgboekfabSyIa
import Derived.Test.YtlifhakgboekfabHA
import Derived.Laws.AppendOwn
import Derived.Test.YtlifhakgboekfabASort
import Derived.Test.YtlifhakgboekfabKPp
import Derived.Test.YtlifhakgboekfabKTk
import Derived.Lib.SlicesCompact
import Derived.Test.YtlifhakgboekfabKPz
import Derived.Test.YtlifhakgboekfabSyR
import Derived.Test.YtlifhakgboekfabKPt
import Derived.Test.YtlifhakgboekfabKRw
import Derived.Test.YtlifhakgboekfabKNew
import Derived.Test.YtlifhakgboekfabKSetS
import Derived.Deep.DeepCutAuto
import Derived.Test.YtlifhakgboekfabKKp
import Derived.Test.YtlifhakgboekfabAShC
import Derived.Test.YtlifhakgboekfabKOwnC
import Derived.Test.YtlifhakgboekfabSyP
import Derived.Test.YtlifhakgboekfabKZ
import Derived.Laws.IdiomCopy
import Derived.Test.YtlifhakgboekfabSyLi
import Derived.Test.YtlifhakgboekfabKWrI
import Derived.Test.YtlifhakgboekfabKGoodI
namespace Go.Proofs.Ytlifhakgboekfab
set_option maxRecDepth 100000
open Go Go.ChangeShapes Go.WideShapes Go.ChangeAt Go.RowKit
theorem ivals_snoc (l : List Int) (n : Int) : ivals (l ++ [n]) = ivals l ++ [.int .i64 n] := by simp [ivals]
theorem ivals_app (l m : List Int) : ivals (l ++ m) = ivals l ++ ivals m := by simp [ivals]
theorem ivals_len (l : List Int) : (ivals l).length = l.length := by simp [ivals]
/-- one number in a box of its own, read as a list -/
theorem irow_one (w : World) (n : Int) : Is (w.alloc (.cells #[.int .i64 n] 3)).heap.size (some ⟨w.heap.size, 0, none⟩) [n] (w.alloc (.cells #[.int .i64 n] 3)) := by
  refine ⟨fun _ => ⟨w.heap.size, 0, rfl, by simp, fun i hi j hj => ?_⟩⟩
  have hi' : i = 0 := by simpa using hi
  subst hi'
  obtain rfl : j = 0 := by omega
  rw [box_cell (heap_last _ _)]
  rfl
/-- a list of one's own that may grow -/
def AL (lo : Nat) (v : Value) (l : List Int) (w : World) : Prop := w.ownsRow lo 3 1 v l.length (ivals l)
theorem AL.nil (lo : Nat) (w : World) : AL lo (.slice none 0 0) [] w := World.ownsRow_nil _ _ _ _
theorem AL.below {lo : Nat} {v : Value} {l : List Int} {w w' : World} (h : AL lo v l w) (g : Below w.heap.size w w') : AL lo v l w' := rw_below h g
theorem AL.mono {lo lo' : Nat} {v : Value} {l : List Int} {w : World} (h : AL lo v l w) (g : lo' ≤ lo) : AL lo' v l w := rw_mono h g
theorem AL.own {lo : Nat} {v : Value} {l : List Int} {w : World} (h : AL lo v l w) : ∃ b c, v = .slice b l.length c ∧ OwnI lo w.heap.size b l w ∧ l.length ≤ c := by
  obtain ⟨b, c, e, ho⟩ := own_ints h
  subst e
  exact ⟨b, c, rfl, ho, (rw_cap h).1⟩
theorem AL.form {lo : Nat} {v : Value} {l : List Int} {w : World} (h : AL lo v l w) : (v = .slice none 0 0 ∧ l = []) ∨ ∃ R c, v = .slice (some ⟨R, 0, none⟩) l.length c ∧ l.length ≤ c ∧ lo ≤ R := by
  have h9 : w.ownsRow lo 3 1 v l.length (ivals l) := h
  rcases h9.2 with ⟨e, h0⟩ | ⟨g, cap, cur, e, h1, _, h2, _⟩
  · exact Or.inl ⟨e, List.eq_nil_of_length_eq_zero h0⟩
  · subst e
    exact Or.inr ⟨g, cap, rfl, (rw_cap h9).1, h1⟩
/-- other numbers are appended -/
theorem AL.app {lo : Nat} {v : Value} {l : List Int} {w : World} (h : AL lo v l w) (hlo : lo ≤ w.heap.size) (a : Option Addr) (c : Nat) (m : List Int) (hI : Is w.heap.size a m w) (hm : l.length + m.length ≤ 10000) :
    ∃ v' w', (∀ ty, (Builtin.append_ #[25, 25] ty #[v, .slice a m.length c]).run Try.prog w = .ok v' w') ∧ AL lo v' (l ++ m) w' ∧ Below lo w w' ∧ w.grownBy w' v.ownBlock ∧ (v'.ownBlock = v.ownBlock ∨ v'.ownBlock = some w.heap.size) := by
  obtain ⟨v', w', h1, h2, h3, h4⟩ := app_int w lo v l.length (ivals l) h a c m hI hm hlo
  refine ⟨v', w', h1, ?_, below_of_grown h3 hlo (fun k hk => (World.ownsRow.lt h k hk).1), h3, h4⟩
  unfold AL
  rw [List.length_append, ivals_app]
  exact h2
/-- one number is appended -/
theorem AL.push {lo : Nat} {v : Value} {l : List Int} {w : World} (h : AL lo v l w) (hlo : lo ≤ w.heap.size) (n : Int) (hm : l.length + 1 ≤ 10000) :
    ∃ v' w', (∀ ty, (Builtin.append_ #[25, 25] ty #[v, .slice (some ⟨w.heap.size, 0, none⟩) 1 1]).run Try.prog (w.alloc (.cells #[.int .i64 n] 3)) = .ok v' w') ∧ AL lo v' (l ++ [n]) w' ∧ Below lo w w' ∧ w.heap.size < w'.heap.size ∧ (w.alloc (.cells #[.int .i64 n] 3)).grownBy w' v.ownBlock ∧ (v'.ownBlock = v.ownBlock ∨ v'.ownBlock = some (w.heap.size + 1)) := by
  have hb := boxB w (.cells #[.int .i64 n] 3)
  obtain ⟨v', w', h1, h2, h3, h4, h5⟩ := (h.below hb).app (Nat.le_trans hlo hb.size) (some ⟨w.heap.size, 0, none⟩) 1 [n] (irow_one w n) hm
  refine ⟨v', w', h1, h2, (hb.mono hlo).trans h3, ?_, h4, ?_⟩
  · have := h3.size; rw [heap_size] at this; omega
  · rw [heap_size] at h5; exact h5
/-- a list and a truth value, in memory of one's own -/
def LOut (V : List Int) (ok : Bool) (w : World) (e : Ending) (w' : World) : Prop := ∃ b c, e = .returned (.tuple #[.slice b V.length c, .bool ok]) ∧ OwnI w.heap.size w'.heap.size b V w' ∧ Below w.heap.size w w'
theorem LOut.no {w w' : World} (g : Below w.heap.size w w') : LOut [] false w (.returned (.tuple #[.slice none 0 0, .bool false])) w' := ⟨none, 0, rfl, Or.inl rfl, g⟩
theorem LOut.yes {V : List Int} {w w' : World} {v : Value} (h : AL w.heap.size v V w') (g : Below w.heap.size w w') : LOut V true w (.returned (.tuple #[v, .bool true])) w' := by
  obtain ⟨b, c, rfl, ho, _⟩ := h.own
  exact ⟨b, c, rfl, ho, g⟩
/-- a list written out with nothing in it -/
theorem AL.lit (w : World) : AL w.heap.size (.slice (some ⟨w.heap.size, 0, none⟩) 0 0) [] (w.alloc (.cells #[] 3)) := by
  have := World.ownsRow_made w (base := w.heap.size) (e := 3) (size := 1) #[] 0 (Nat.le_refl _) (by unfold maxLen; omega) rfl
  exact this
theorem is_take {B : Nat} {a : Option Addr} {l : List Int} {w : World} (h : Is B a l w) (k : Nat) : Is B a (l.take k) w := by
  refine ⟨fun h0 => ?_⟩
  have h0' : 0 < l.length := by simp at h0; omega
  obtain ⟨b, off, e, hb, hc⟩ := GSl.cell h (by simpa using h0')
  refine ⟨b, off, e, hb, fun i hi j hj => ?_⟩
  have hi' : i < l.length := by simp at hi; omega
  rw [hc i (by simpa using hi') j hj]
  simp
theorem is_drop {B b off : Nat} {l : List Int} {w : World} (h : Is B (some ⟨b, off, none⟩) l w) (k : Nat) : Is B (some ⟨b, off + k, none⟩) (l.drop k) w := by
  refine ⟨fun h0 => ?_⟩
  have h0' : 0 < l.length := by simp at h0; omega
  obtain ⟨b', off', e, hb, hc⟩ := GSl.cell h (by simpa using h0')
  injection e with e; injection e with e1 e2 _
  subst e1; subst e2
  refine ⟨b, off + k, rfl, hb, fun i hi j hj => ?_⟩
  have hi' : k + i < l.length := by simp at hi; omega
  obtain rfl : j = 0 := by omega
  have := hc (k + i) (by simpa using hi') 0 (by omega)
  rw [show off + k + i * 1 + 0 = off + (k + i) * 1 + 0 from by omega, this]
  simp
theorem is_nil (B : Nat) (a : Option Addr) (w : World) : Is B a [] w := ⟨fun h => absurd h (by simp)⟩
set_option maxHeartbeats 1000000 in
theorem to_capI (a : Option Addr) (cap : Nat) (l : List Int) (w : World) (hn : l.length ≤ 1048576) (hI : Is w.heap.size a l w) :
    Calls Try.prog 7 #[.slice a l.length cap] w fun e w' => ∃ b c, e = .returned (.slice b l.length c) ∧ OwnI w.heap.size w'.heap.size b l w' ∧ Below w.heap.size w w' ∧ l.length ≤ c := by
  have HI : Hid (Is w.heap.size a l w) := hI
  clear hI
  have hmk := make_ints l.length hn
  have hr0 := IRow.made w l.length
  generalize madeCells (Value.int .i64 0).cells l.length = M at *
  have HR : Hid (IRow w.heap.size (List.replicate l.length 0) (w.alloc (.cells M 3))) := hr0
  clear hr0
  go_enter Try.func7, Try.ntmps7
  go_wp2
  go_loopw [4] (fun i wr => ∃ (k : Nat) (ys : List Int), k ≤ l.length ∧ i = .int .i64 k ∧ ys.length = l.length ∧ ys.take k = l.take k ∧ IRow w.heap.size ys wr ∧ Below w.heap.size w wr) (fun i _ => l.length - (intOf i).toNat)
  case atStart => exact ⟨0, List.replicate l.length 0, Nat.zero_le _, rfl, by simp, rfl, HR.out, (Below.refl _ _).alloc (Nat.le_refl _) _⟩
  case round =>
    obtain ⟨k, ys, hk, rfl, hy, htk, hrow, hbel⟩ := hrel
    have HROW : Hid (IRow w.heap.size ys wr) := hrow
    have HBEL : Hid (Below w.heap.size w wr) := hbel
    have HTK : Hid (ys.take k = l.take k) := htk
    by_cases hlt : k < l.length
    · obtain ⟨b, off, rfl, hb, hc⟩ := HI.out.cell (by omega)
      have x0 := (hbel.cell (p := ⟨b, off + k, none⟩) hb).trans (hc k hlt)
      have y0 := hrow.cell k (by omega)
      have f0 := hrow.free k (by omega)
      clear hrow hbel htk hc
      go_wp2
      go_roundw
      case rel =>
        refine ⟨k + 1, ys.set k l[k], by omega, by go_num, by simpa using hy, ?_, HROW.out.set k (by omega) _, HBEL.out.setCell (Nat.le_refl _) _⟩
        have hky : k < ys.length := by omega
        rw [take_snoc _ k (by simpa using hky), take_snoc l k hlt, List.take_set_of_le (Nat.le_refl _), HTK.out, List.getElem_set_self]
      case measure => simp [intOf]; omega
    · obtain rfl : k = l.length := by omega
      rw [List.take_length, List.take_of_length_le (by omega)] at htk
      subst htk
      clear hrow hbel
      go_wp2
      go_ret
      have hO : OwnI w.heap.size wr.heap.size (some ⟨w.heap.size, 0, none⟩) ys wr := Or.inr ⟨_, Nat.le_refl _, HROW.out.lt, rfl, HROW.out⟩
      first
        | exact ⟨_, _, rfl, hO, HBEL.out, Nat.le_refl _⟩
        | exact ⟨_, _, ⟨rfl, rfl⟩, hO, HBEL.out, Nat.le_refl _⟩
        | exact ⟨_, _, ⟨⟨rfl, rfl⟩, rfl⟩, hO, HBEL.out, Nat.le_refl _⟩
end Go.Proofs.Ytlifhakgboekfab
namespace Go.Proofs.Ytlifhakgboekfab
set_option maxRecDepth 100000
open Go Go.ChangeShapes Go.WideShapes Go.ChangeAt Go.RowKit
theorem is_of {lo R c : Nat} {S : List Int} {w : World} (h : AL lo (.slice (some ⟨R, 0, none⟩) S.length c) S w) : Is w.heap.size (some ⟨R, 0, none⟩) S w := by
  obtain ⟨b, c', e, ho, _⟩ := h.own
  injection e with e _ _
  subst e
  exact ho.is
/-- a number put in, once -/
def putI (x : Int) (S : List Int) : List Int := if x ∈ S then S else insN x S
theorem putI_len (x : Int) (S : List Int) : (putI x S).length ≤ S.length + 1 := by
  unfold putI
  by_cases h : x ∈ S
  · rw [if_pos h]; omega
  · rw [if_neg h, (insN_perm x S).length_eq]; simp
theorem putI_sorted (x : Int) {S : List Int} (h : S.Pairwise (· ≤ ·)) : (putI x S).Pairwise (· ≤ ·) := by
  unfold putI
  by_cases hx : x ∈ S
  · rw [if_pos hx]; exact h
  · rw [if_neg hx]; exact insN_sorted x S h
theorem low_mem (x : Int) : ∀ S : List Int, S.Pairwise (· ≤ ·) → x ∈ S → ∃ k, ∃ h : k < S.length, S[k] = x ∧ ∀ i (hi : i < S.length), i < k → S[i] < x
  | [], _, h => by cases h
  | y :: r, hs, h => by
    have hs' := List.pairwise_cons.1 hs
    by_cases hy : y < x
    · have hr : x ∈ r := by
        rcases List.mem_cons.1 h with e | e
        · omega
        · exact e
      obtain ⟨k, hk, h1, h2⟩ := low_mem x r hs'.2 hr
      refine ⟨k + 1, by simpa using hk, by simpa using h1, fun i hi hik => ?_⟩
      cases i with
      | zero => exact hy
      | succ i => exact h2 i (by simpa using hi) (by omega)
    · have hyx : y = x := by
        rcases List.mem_cons.1 h with e2 | e2
        · exact e2.symm
        · have := hs'.1 x e2; omega
      exact ⟨0, by simp, hyx, fun i hi h0 => absurd h0 (Nat.not_lt_zero _)⟩
end Go.Proofs.Ytlifhakgboekfab
namespace Go.Proofs.Ytlifhakgboekfab
set_option maxRecDepth 100000
open Go Go.ChangeShapes Go.WideShapes Go.ChangeAt Go.RowKit
theorem strict_ext {a b : List Int} (ha : a.Pairwise (· < ·)) (hb : b.Pairwise (· < ·)) (h : ∀ x, x ∈ a ↔ x ∈ b) : a = b := by
  have na : a.Nodup := ha.imp (fun h => Int.ne_of_lt h)
  have nb : b.Nodup := hb.imp (fun h => Int.ne_of_lt h)
  exact sorted_eq (ha.imp (fun h => Int.le_of_lt h)) (hb.imp (fun h => Int.le_of_lt h)) ((List.perm_ext_iff_of_nodup na nb).2 h)
theorem comp_run (zs : List Int) (hs : zs.Pairwise (· ≤ ·)) : ∀ m, m ≤ zs.length → (Lib.compactUpTo zs.toArray m).Pairwise (· < ·) ∧ (∀ x ∈ Lib.compactUpTo zs.toArray m, ∃ j, ∃ h : j < zs.length, j < m ∧ zs[j] = x) ∧ (∀ j (h : j < zs.length), j < m → zs[j] ∈ Lib.compactUpTo zs.toArray m)
  | 0, _ => by
    have e : Lib.compactUpTo zs.toArray 0 = [] := rfl
    rw [e]
    refine ⟨List.Pairwise.nil, ?_, ?_⟩
    · intro x hx; simp at hx
    · intro j _ h; omega
  | m + 1, hm => by
    obtain ⟨h1, h2, h3⟩ := comp_run zs hs m (by omega)
    rw [Lib.compactUpTo_succ]
    have hd : ∀ j (h : j < zs.length), zs.toArray[j]! = zs[j] := fun j h => by simp [h]
    have hml : m < zs.length := hm
    by_cases hk : Lib.keeps zs.toArray m = true
    · rw [if_pos hk, hd m hml]
      refine ⟨?_, ?_, ?_⟩
      · rw [List.pairwise_append]
        refine ⟨h1, List.pairwise_singleton _ _, fun x hx y hy => ?_⟩
        obtain rfl : y = zs[m] := by simpa using hy
        obtain ⟨j, hj, hjm, rfl⟩ := h2 x hx
        have hle : zs[m - 1] ≤ zs[m] := by
          rw [List.pairwise_iff_getElem] at hs
          exact hs (m - 1) m (by omega) hml (by omega)
        have hle2 : zs[j] ≤ zs[m - 1] := by
          by_cases e : j = m - 1
          · subst e; exact Int.le_refl _
          · rw [List.pairwise_iff_getElem] at hs
            exact hs j (m - 1) hj (by omega) (by omega)
        have hne : zs[m] ≠ zs[m - 1] := fun e => by
          have := Lib.keeps_neg (d := zs.toArray) (m := m) (by omega) (by rw [hd m hml, hd (m - 1) (by omega), e])
          rw [this] at hk; cases hk
        omega
      · intro x hx
        rcases List.mem_append.1 hx with h | h
        · obtain ⟨j, hj, hjm, e⟩ := h2 x h
          exact ⟨j, hj, by omega, e⟩
        · obtain rfl : x = zs[m] := by simpa using h
          exact ⟨m, hml, by omega, rfl⟩
      · intro j hj hjm
        by_cases e : j = m
        · subst e; simp
        · exact List.mem_append_left _ (h3 j hj (by omega))
    · rw [if_neg hk, List.append_nil]
      refine ⟨h1, fun x hx => ?_, fun j hj hjm => ?_⟩
      · obtain ⟨j, hj, hjm, e⟩ := h2 x hx
        exact ⟨j, hj, by omega, e⟩
      · by_cases e : j = m
        · subst e
          have h0 : 0 < j := by
            rcases Nat.eq_zero_or_pos j with h | h
            · subst h; exact absurd (Lib.keeps_lt_one zs.toArray 0 (by omega)) hk
            · exact h
          have he : zs[j] = zs[j - 1] := by
            rcases Decidable.em (zs[j] = zs[j - 1]) with h | h
            · exact h
            · exact absurd (Lib.keeps_pos (d := zs.toArray) (m := j) (by rw [hd j hml, hd (j - 1) (by omega)]; exact h)) hk
          rw [he]
          exact h3 (j - 1) (by omega) (by omega)
        · exact h3 j hj (by omega)
theorem comp_strict {zs : List Int} (hs : zs.Pairwise (· ≤ ·)) : (Lib.compact zs).Pairwise (· < ·) ∧ ∀ x, x ∈ Lib.compact zs ↔ x ∈ zs := by
  obtain ⟨h1, h2, h3⟩ := comp_run zs hs zs.length (Nat.le_refl _)
  refine ⟨h1, fun x => ⟨fun h => ?_, fun h => ?_⟩⟩
  · obtain ⟨j, hj, -, rfl⟩ := h2 x h
    exact List.getElem_mem hj
  · obtain ⟨j, hj, rfl⟩ := List.getElem_of_mem h
    exact h3 j hj hj
theorem comp_len (zs : List Int) : (Lib.compact zs).length ≤ zs.length := by
  have e : Lib.compact zs = Lib.compactUpTo zs.toArray zs.length := rfl
  rw [e]
  unfold Lib.compactUpTo
  rw [List.length_map]
  exact Nat.le_trans (List.length_filter_le _ _) (by simp)
theorem putI_strict (x : Int) {S : List Int} (h : S.Pairwise (· < ·)) : (putI x S).Pairwise (· < ·) ∧ ∀ y, y ∈ putI x S ↔ y = x ∨ y ∈ S := by
  have hle := h.imp (S := (· ≤ ·)) (fun h => Int.le_of_lt h)
  have hs := putI_sorted x hle
  unfold putI at hs ⊢
  by_cases hx : x ∈ S
  · rw [if_pos hx] at hs ⊢
    exact ⟨h, fun y => ⟨fun hy => Or.inr hy, fun hy => by rcases hy with rfl | hy <;> assumption⟩⟩
  · rw [if_neg hx] at hs ⊢
    have hp := insN_perm x S
    have hn : (insN x S).Nodup := hp.nodup_iff.2 (List.nodup_cons.2 ⟨hx, h.imp (fun h => Int.ne_of_lt h)⟩)
    refine ⟨?_, fun y => hp.mem_iff.trans List.mem_cons⟩
    exact (hs.and hn).imp (fun h => by have := h.1; have := h.2; omega)
/-- the blocks that layers behind a mark have, one behind the other -/
def dirtL (S : List Ly) (m : Int) : List Int := (S.map fun y => if m < y.mark then y.bl else []).flatten
theorem dirtL_take (S : List Ly) (m : Int) (k : Nat) (h : k < S.length) : dirtL (S.take (k + 1)) m = dirtL (S.take k) m ++ (if m < S[k].mark then S[k].bl else []) := by
  unfold dirtL
  rw [take_snoc S k h, List.map_append, List.flatten_append]
  simp
theorem rise_fewS {l : List Int} (h : RiseOk l) : l.length ≤ 16 := by
  have ge : ∀ i (g : i < l.length), (i : Int) ≤ l[i] := by
    intro i
    induction i with
    | zero => intro g; have := (h 0 g).2.1; omega
    | succ i ih =>
      intro g
      have h1 := ih (by omega)
      have h2 := (h (i + 1) g).1
      rw [aheadI_at l i (by omega)] at h2
      omega
  rcases Nat.lt_or_ge 16 l.length with g | g
  · have h1 := ge 16 g
    have h2 := (h 16 g).2.2
    omega
  · exact g
theorem few_bl {S : List Ly} (h : GoodK S) (k : Nat) (hk : k < S.length) : S[k].bl.length ≤ 16 := rise_fewS ((h.2.2 k hk).2.2.2.1)
theorem dirtL_len {S : List Ly} (h : GoodK S) (m : Int) : ∀ k, k ≤ S.length → (dirtL (S.take k) m).length ≤ 16 * k
  | 0, _ => by simp [dirtL]
  | k + 1, hk => by
    have ih := dirtL_len h m k (by omega)
    have hf := few_bl h k (by omega)
    rw [dirtL_take S m k (by omega), List.length_append]
    split
    · omega
    · simp; omega
/-- numbers put in one by one -/
def putsI (acc l : List Int) : List Int := l.foldl (fun s x => putI x s) acc
theorem putsI_app (acc l k : List Int) : putsI acc (l ++ k) = putsI (putsI acc l) k := by unfold putsI; rw [List.foldl_append]
theorem putsI_take (acc l : List Int) (j : Nat) (h : j < l.length) : putsI acc (l.take (j + 1)) = putI l[j] (putsI acc (l.take j)) := by
  rw [take_snoc l j h, putsI_app]
  rfl
theorem putsI_len (l : List Int) : ∀ acc, (putsI acc l).length ≤ acc.length + l.length := by
  induction l with
  | nil => intro acc; exact Nat.le_refl _
  | cons x r ih =>
    intro acc
    have h1 := ih (putI x acc)
    have h2 := putI_len x acc
    show (putsI (putI x acc) r).length ≤ acc.length + (r.length + 1)
    omega
theorem putsI_strict (l : List Int) : ∀ acc, acc.Pairwise (· < ·) → (putsI acc l).Pairwise (· < ·) ∧ ∀ x, x ∈ putsI acc l ↔ x ∈ acc ∨ x ∈ l := by
  induction l with
  | nil => intro acc h; exact ⟨h, fun x => by show x ∈ acc ↔ _; simp⟩
  | cons y r ih =>
    intro acc h
    obtain ⟨h1, h2⟩ := putI_strict y h
    obtain ⟨h3, h4⟩ := ih _ h1
    refine ⟨h3, fun x => ?_⟩
    show x ∈ putsI (putI y acc) r ↔ _
    rw [h4, h2, List.mem_cons]
    constructor
    · rintro ((h | h) | h)
      · exact Or.inr (Or.inl h)
      · exact Or.inl h
      · exact Or.inr (Or.inr h)
    · rintro (h | h | h)
      · exact Or.inl (Or.inr h)
      · exact Or.inl (Or.inl h)
      · exact Or.inr h
theorem putsI_sorted (acc l : List Int) (h : acc.Pairwise (· < ·)) : (putsI acc l).Pairwise (· ≤ ·) := (putsI_strict l acc h).1.imp (fun h => Int.le_of_lt h)
theorem puts_comp (l : List Int) : Lib.compact (sortN l) = putsI [] l := by
  obtain ⟨h1, h2⟩ := comp_strict (sortN_sorted l)
  obtain ⟨h3, h4⟩ := putsI_strict l [] List.Pairwise.nil
  refine strict_ext h1 h3 fun x => ?_
  rw [h2, h4, (sortN_perm l).mem_iff]
  simp
/-- what DirtyIn answers -/
def DirtOk (S : List Ly) (m : Int) : Prop := GoodK S ∧ fndK S m < S.length
instance (S : List Ly) (m : Int) : Decidable (DirtOk S m) := by unfold DirtOk; infer_instance
def dirtP (S : List Ly) (m : Int) : List Int := putsI [] (dirtL S m)
def dirtV (S : List Ly) (m : Int) : List Int := if DirtOk S m then dirtP S m else []
theorem dirtP_len {S : List Ly} (h : GoodK S) (m : Int) : (dirtP S m).length ≤ 128 := by
  have h1 := putsI_len (dirtL S m) []
  have h2 := dirtL_len h m S.length (Nat.le_refl _)
  rw [List.take_length] at h2
  have h3 := h.2.1
  unfold dirtP
  simp only [List.length_nil] at h1
  omega
theorem dirtV_len (S : List Ly) (m : Int) : (dirtV S m).length ≤ 1048576 := by
  unfold dirtV
  split
  · rename_i h; have := dirtP_len h.1 m; omega
  · simp
end Go.Proofs.Ytlifhakgboekfab
namespace Go.Proofs.Ytlifhakgboekfab
set_option maxRecDepth 100000
open Go Go.ChangeShapes Go.WideShapes Go.ChangeAt Go.RowKit
theorem atB_map (bl : List Int) (f : Int → ByteArray) (x : Int) (s : ByteArray) : ∀ j, j ≤ bl.length → atB bl (bl.map f) x s j = if x ∈ bl.take j then f x else s
  | 0, _ => by simp [atB]
  | j + 1, h => by
    have ih := atB_map bl f x s j (by omega)
    have hm : x ∈ bl.take (j + 1) ↔ x ∈ bl.take j ∨ x = bl[j]'(by omega) := by
      rw [take_snoc bl j (by omega), List.mem_append, List.mem_singleton]
    by_cases e : bl[j]'(by omega) = x
    · rw [← atB_yes bl (bl.map f) x s j (by omega) (by simpa using (by omega : j < bl.length)) e, if_pos (hm.2 (Or.inr e.symm)), List.getElem_map, e]
    · rw [← atB_no bl (bl.map f) x s j (by omega) e, ih]
      by_cases g : x ∈ bl.take j
      · rw [if_pos g, if_pos (hm.2 (Or.inl g))]
      · rw [if_neg g, if_neg (fun h' => (hm.1 h').elim g (fun e2 => e e2.symm))]
theorem atB_all (bl : List Int) (f : Int → ByteArray) (x : Int) (s : ByteArray) : atB bl (bl.map f) x s bl.length = if x ∈ bl then f x else s := by
  have := atB_map bl f x s bl.length (Nat.le_refl _)
  rwa [List.take_length] at this
theorem atB_ly {z : Ly} (h : lyOk z) (x : Int) (s : ByteArray) : atB z.bl z.dt x s z.bl.length = if x ∈ z.bl then atB z.bl z.dt x ⟨#[0, 0]⟩ z.bl.length else s := by
  have e := dt_map (rise_pw h.1) h.2.1 ⟨#[0, 0]⟩
  have h1 := atB_all z.bl (fun y => atB z.bl z.dt y ⟨#[0, 0]⟩ z.bl.length) x s
  rw [e] at h1
  exact h1
theorem at_put {z : Ly} (h : lyOk z) (b : Int) (s : ByteArray) (x : Int) (t : ByteArray) : atB (putLy z b s).bl (putLy z b s).dt x t (putLy z b s).bl.length = if x = b then s else atB z.bl z.dt x t z.bl.length := by
  show atB (insU b z.bl) ((insU b z.bl).map (putT z b s)) x t (insU b z.bl).length = _
  rw [atB_all]
  by_cases e : x = b
  · rw [if_pos e, if_pos ((insU_mem b z.bl x).2 (Or.inl e))]
    unfold putT
    rw [if_pos e.symm]
  · rw [if_neg e, atB_ly h x t]
    by_cases g : x ∈ z.bl
    · rw [if_pos ((insU_mem b z.bl x).2 (Or.inr g)), if_pos g]
      unfold putT
      rw [if_neg (fun e2 => e e2.symm)]
    · rw [if_neg (fun h' => ((insU_mem b z.bl x).1 h').elim e g), if_neg g]
theorem riseOk_of {l : List Int} (hs : l.Pairwise (· < ·)) (hb : ∀ x ∈ l, 0 ≤ x ∧ x ≤ 15) : RiseOk l := fun k h => by
  have h1 := hb l[k] (List.getElem_mem h)
  refine ⟨?_, h1.1, h1.2⟩
  cases k with
  | zero => show (-1 : Int) < _; omega
  | succ k =>
    rw [aheadI_at l k (by omega)]
    rw [List.pairwise_iff_getElem] at hs
    exact hs k (k + 1) (by omega) h (by omega)
theorem rise_in {l : List Int} (h : RiseOk l) : ∀ x ∈ l, 0 ≤ x ∧ x ≤ 15 := fun x hx => by
  obtain ⟨j, hj, rfl⟩ := List.getElem_of_mem hx
  exact ⟨(h j hj).2.1, (h j hj).2.2⟩
theorem put_ok {z : Ly} (h : lyOk z) {b : Int} {s : ByteArray} (hb : 0 ≤ b ∧ b ≤ 15) (hs : s.size = 2) : lyOk (putLy z b s) := by
  refine ⟨riseOk_of (insU_strict b z.bl (rise_pw h.1)) (fun x hx => ?_), by simp [putLy], fun k hk => ?_⟩
  · rcases (insU_mem b z.bl x).1 hx with e | e
    · rw [e]; exact hb
    · exact rise_in h.1 x e
  · have e : (putLy z b s).dt[k] = putT z b s ((insU b z.bl)[k]'(by simpa [putLy] using hk)) := by simp [putLy]
    rw [e]
    exact putT_size h b hs _
/-- the last layer changed, its mark the same -/
theorem good_last {S0 : List Ly} {z y : Ly} (h : GoodK (S0 ++ [z])) (hm : y.mark = z.mark) (hy : lyOk y) : GoodK (S0 ++ [y]) := by
  have hl : ∀ u : Ly, (S0 ++ [u]).length = S0.length + 1 := fun u => by simp
  refine ⟨by rw [hl]; omega, by have := h.2.1; rw [hl] at this ⊢; exact this, fun k hk => ?_⟩
  rw [hl] at hk
  have h1 := h.2.2 k (by rw [hl]; exact hk)
  have ea : ∀ u : Ly, u.mark = z.mark → aheadM (S0 ++ [u]) k = aheadM (S0 ++ [z]) k := fun u hu => by
    have : (S0 ++ [u]).map (·.mark) = (S0 ++ [z]).map (·.mark) := by simp [hu]
    cases k with
    | zero => rfl
    | succ k => unfold aheadM; rw [this]
  unfold lyAt at h1 ⊢
  rw [ea y hm]
  by_cases e : k < S0.length
  · rw [List.getElem_append_left e] at h1 ⊢
    exact h1
  · obtain rfl : k = S0.length := by omega
    have e1 : ∀ u : Ly, (S0 ++ [u])[S0.length]'(by simp) = u := fun u => by simp
    rw [e1] at h1 ⊢
    exact ⟨by rw [hm]; exact h1.1, by rw [hm]; exact h1.2.1, by rw [hm]; exact h1.2.2.1, hy⟩
/-- a block at the last layer -/
def atE (S : List Ly) (x : Int) : ByteArray := atL S x S.length
theorem atL_pre (S0 : List Ly) (z : Ly) (x : Int) : ∀ k, k ≤ S0.length → atL (S0 ++ [z]) x k = atL S0 x k
  | 0, _ => rfl
  | k + 1, h => by
    rw [atL_at (S0 ++ [z]) x k (by simp; omega), atL_at S0 x k (by omega), atL_pre S0 z x k (by omega), List.getElem_append_left (by omega)]
theorem atE_snoc (S0 : List Ly) (z : Ly) (x : Int) : atE (S0 ++ [z]) x = atB z.bl z.dt x (atL S0 x S0.length) z.bl.length := by
  unfold atE
  have hl : (S0 ++ [z]).length = S0.length + 1 := by simp
  rw [hl, atL_at (S0 ++ [z]) x S0.length (by simp), atL_pre S0 z x S0.length (Nat.le_refl _)]
  have e1 : (S0 ++ [z])[S0.length]'(by simp) = z := by simp
  rw [e1]
theorem atE_put {S0 : List Ly} {z : Ly} (h : lyOk z) (b : Int) (s : ByteArray) (x : Int) : atE (S0 ++ [putLy z b s]) x = if x = b then s else atE (S0 ++ [z]) x := by
  rw [atE_snoc, at_put h, atE_snoc]
/-- one block copied: the last layer, and how many were unlike -/
def cpF (S0 B : List Ly) (q : Ly × Nat) (k : Int) : Ly × Nat := if atE (S0 ++ [q.1]) k = atE B k then q else (putLy q.1 k (atE B k), q.2 + 1)
def cpZ (S0 B : List Ly) (z : Ly) (l : List Int) : Ly × Nat := l.foldl (cpF S0 B) (z, 0)
theorem cpZ_take (S0 B : List Ly) (z : Ly) (l : List Int) (j : Nat) (h : j < l.length) : cpZ S0 B z (l.take (j + 1)) = cpF S0 B (cpZ S0 B z (l.take j)) l[j] := by
  unfold cpZ
  rw [take_snoc l j h, List.foldl_append]
  rfl
theorem atE_size {B : List Ly} (h : GoodK B) (x : Int) : (atE B x).size = 2 := atL_size x h _ (Nat.le_refl _)
/-- what stands behind the first j blocks -/
theorem cpZ_inv {S0 B : List Ly} {z : Ly} (hz : lyOk z) (hB : GoodK B) (l : List Int) (hl : ∀ x ∈ l, 0 ≤ x ∧ x ≤ 15) : ∀ j, j ≤ l.length → (cpZ S0 B z (l.take j)).1.mark = z.mark ∧ lyOk (cpZ S0 B z (l.take j)).1 ∧ (cpZ S0 B z (l.take j)).2 ≤ j ∧ ∀ x, x ∉ l.take j → atE (S0 ++ [(cpZ S0 B z (l.take j)).1]) x = atE (S0 ++ [z]) x
  | 0, _ => ⟨rfl, hz, Nat.le_refl _, fun _ _ => rfl⟩
  | j + 1, h => by
    obtain ⟨h1, h2, h3, h4⟩ := cpZ_inv hz hB l hl j (by omega)
    have hb := hl l[j] (List.getElem_mem (by omega))
    rw [cpZ_take S0 B z l j (by omega)]
    have hmem : ∀ x, x ∉ l.take (j + 1) → x ∉ l.take j ∧ x ≠ l[j]'(by omega) := fun x hx => by
      rw [take_snoc l j (by omega), List.mem_append, List.mem_singleton] at hx
      exact ⟨fun h' => hx (Or.inl h'), fun e => hx (Or.inr e)⟩
    unfold cpF
    split
    · exact ⟨h1, h2, by omega, fun x hx => h4 x (hmem x hx).1⟩
    · refine ⟨h1, put_ok h2 hb (atE_size hB _), by show _ + 1 ≤ _; omega, fun x hx => ?_⟩
      rw [atE_put h2, if_neg (hmem x hx).2]
      exact h4 x (hmem x hx).1
theorem nodup_take {l : List Int} (h : l.Pairwise (· < ·)) (j : Nat) (hj : j < l.length) : l[j] ∉ l.take j := fun hm => by
  obtain ⟨i, hi, e⟩ := List.getElem_of_mem hm
  rw [List.length_take] at hi
  rw [List.getElem_take] at e
  rw [List.pairwise_iff_getElem] at h
  have := h i j (by omega) hj (by omega)
  omega
/-- the question asked of the marks as they were -/
theorem cpZ_ask {S0 B : List Ly} {z : Ly} (hz : lyOk z) (hB : GoodK B) {l : List Int} (hs : l.Pairwise (· < ·)) (hl : ∀ x ∈ l, 0 ≤ x ∧ x ≤ 15) (j : Nat) (hj : j < l.length) : atE (S0 ++ [(cpZ S0 B z (l.take j)).1]) l[j] = atE (S0 ++ [z]) l[j] :=
  (cpZ_inv hz hB l hl j (by omega)).2.2.2 _ (nodup_take hs j hj)
end Go.Proofs.Ytlifhakgboekfab
namespace Go.Proofs.Ytlifhakgboekfab
set_option maxRecDepth 100000
open Go Go.ChangeShapes Go.WideShapes Go.ChangeAt Go.RowKit
/-- nothing old but block R has turned -/
structure KR (R : Nat) (w w' : World) : Prop where
  os : w'.os = w.os
  tape : w'.tape = w.tape
  output : w'.output = w.output
  size : w.heap.size ≤ w'.heap.size
  block : ∀ k, k < w.heap.size → k ≠ R → w'.heap[k]? = w.heap[k]?
theorem KR.refl (R : Nat) (w : World) : KR R w w := ⟨rfl, rfl, rfl, Nat.le_refl _, fun _ _ _ => rfl⟩
theorem KR.trans {R : Nat} {a b c : World} (h : KR R a b) (g : KR R b c) : KR R a c := ⟨g.os.trans h.os, g.tape.trans h.tape, g.output.trans h.output, Nat.le_trans h.size g.size, fun k hk hn => (g.block k (Nat.lt_of_lt_of_le hk h.size) hn).trans (h.block k hk hn)⟩
theorem KR.of_below {R : Nat} {w w' : World} (g : Below w.heap.size w w') : KR R w w' := ⟨g.os, g.tape, g.output, g.size, fun k hk _ => g.block k hk⟩
theorem KR.set {R : Nat} {a w : World} (h : KR R a w) (i : Nat) (u : Value) : KR R a (w.setCell ⟨R, i, none⟩ u) := ⟨h.os, h.tape, h.output, by simpa [World.setCell] using h.size, fun k hk hn => (keepB _ _ _ _ _ hn).trans (h.block k hk hn)⟩
theorem KR.below {R lo : Nat} {w w' : World} (h : KR R w w') (hl : lo ≤ R) (hR : R < w.heap.size) : Below lo w w' := ⟨h.os, h.tape, h.output, h.size, fun k hk => h.block k (by omega) (by omega)⟩
theorem KR.box {R : Nat} {a w : World} (h : KR R a w) (Q : Nat) (hQ : a.heap.size ≤ Q) (u : Value) : KR R a (w.setCell ⟨Q, 0, none⟩ u) := ⟨h.os, h.tape, h.output, by simpa [World.setCell] using h.size, fun k hk hn => (keepB _ _ _ _ _ (by omega)).trans (h.block k hk hn)⟩
theorem RowK.box {lo R Q : Nat} {L : List (Ly × LA)} {w : World} {x : Option Addr} {y z : Nat} {t : TypeId} (h : RowK lo R L w) (hne : Q ≠ R) (hq : w.heap[Q]? = some (.cells #[.slice x y z] t)) (u : Value) : RowK lo R L (w.setCell ⟨Q, 0, none⟩ u) :=
  ⟨h.r0, h.row.same (by simp [World.setCell]) (keepB _ _ _ _ _ (Ne.symm hne)), fun i hi => ⟨is_set (h.fit i hi).bl hq u, ss_set (h.fit i hi).dt hq u, (h.fit i hi).ob, (h.fit i hi).od, (h.fit i hi).cb, (h.fit i hi).cd⟩⟩
theorem lyk_lastS {S0 : List Ly} {z : Ly} (h : GoodK (S0 ++ [z])) : lyOk z := by
  have h1 := (h.2.2 S0.length (by simp)).2.2.2
  have e : (S0 ++ [z])[S0.length]'(by simp) = z := by simp
  rwa [e] at h1
set_option maxHeartbeats 8000000 in
theorem l15Copy_any (lo R n cv : Nat) (S0 : List Ly) (z : Ly) (L : List (Ly × LA)) (b : Option Addr) (d : Nat) (B : List Ly) (p : Option Addr) (cp : Nat) (l : List Int) (w0 w : World)
    (hL : L.map (·.1) = S0 ++ [z]) (hn : S0.length = n) (hg : GoodK (S0 ++ [z])) (hcv : n + 1 ≤ cv) (hK : RowK lo R L w) (hgB : GoodK B) (hB : Mr b d B w0) (hlo : w0.heap.size ≤ R) (hw0 : Below w0.heap.size w0 w) (hI : Is w.heap.size p l w) (hoff : OffR R l.length p) (hl : ∀ x ∈ l, 0 ≤ x ∧ x ≤ 15) (hln : l.length ≤ 1048576) :
    Calls Try.prog 17 #[.agg #[.slice (some ⟨R, 0, none⟩) (n + 1) cv], .agg #[.slice b B.length d], .slice p l.length cp] w fun e w' => ∃ L', e = .returned (.tuple #[.agg #[.slice (some ⟨R, 0, none⟩) (n + 1) cv], .int .i64 ((cpZ S0 B z l).2 : Nat)]) ∧ L'.map (·.1) = S0 ++ [(cpZ S0 B z l).1] ∧ RowK lo R L' w' ∧ KR R w w' := by
  have hRw := hK.row.lt
  have hz0 := lyk_lastS hg
  obtain ⟨⟨k0, k1, k2⟩, hz⟩ := alloc3 w (.cells #[.slice (some ⟨R, 0, none⟩) (n + 1) cv] 29) (.cells #[.slice b B.length d] 29) (.cells #[.slice none 0 0] 29)
  have b0 : Below w.heap.size w (((w.alloc (.cells #[.slice (some ⟨R, 0, none⟩) (n + 1) cv] 29)).alloc (.cells #[.slice b B.length d] 29)).alloc (.cells #[.slice none 0 0] 29)) := ((boxB _ _).trans ((boxB _ _).mono (boxB _ _).size)).trans ((boxB _ _).mono ((boxB _ _).trans ((boxB _ _).mono (boxB _ _).size)).size)
  generalize hW : ((w.alloc (.cells #[.slice (some ⟨R, 0, none⟩) (n + 1) cv] 29)).alloc (.cells #[.slice b B.length d] 29)).alloc (.cells #[.slice none 0 0] 29) = W at *
  have HXK : Hid (∀ v, KR R W v → v.heap[w.heap.size]? = some (.cells #[.slice (some ⟨R, 0, none⟩) (n + 1) cv] 29) ∧ v.heap[w.heap.size + 1]? = some (.cells #[.slice b B.length d] 29) ∧ v.heap[w.heap.size + 1 + 1]? = some (.cells #[.slice none 0 0] 29)) := fun v g => ⟨(g.block _ (by omega) (by omega)).trans k0, (g.block _ (by omega) (by omega)).trans k1, (g.block _ (by omega) (by omega)).trans k2⟩
  have hBW : Below w0.heap.size w0 W := hw0.trans (b0.mono hw0.size)
  have HB : Hid (∀ v, KR R W v → Mr b d B v) := fun v g => hB.on (hBW.trans (g.below hlo (by omega)))
  have HT1 : Hid (∀ v (x : Int), KR R W v → Calls Try.prog 29 #[.agg #[.slice b B.length d], .int .i64 ((B.length - 1 : Nat) : Int), .int .i64 x] v fun e w' => e = .returned (.string (atE B x)) ∧ Below v.heap.size v w') := fun v x g => by
    have h1 := hgB.1
    have := (HB.out v g).at hgB (B.length - 1) (by omega) x
    rwa [show B.length - 1 + 1 = B.length by omega] at this
  have HINV := hid (cpZ_inv (S0 := S0) hz0 hgB l hl)
  have HTAKE := hid (cpZ_take S0 B z l)
  have HGL : Hid (∀ y : Ly, y.mark = z.mark → lyOk y → GoodK (S0 ++ [y])) := fun y h1 h2 => good_last hg h1 h2
  have HIW : Hid (∀ v, KR R W v → Is W.heap.size p l v) := fun v g => is_off ((hI.below b0).mono b0.size) hoff (fun X hX hne => g.block X hX hne)
  have HAT : Hid (∀ (y : Ly) (M : List (Ly × LA)) v (x : Int), GoodK (S0 ++ [y]) → M.map (·.1) = S0 ++ [y] → RowK lo R M v → Calls Try.prog 29 #[.agg #[.slice (some ⟨R, 0, none⟩) (n + 1) cv], .int .i64 (n : Nat), .int .i64 x] v fun e w' => e = .returned (.string (atE (S0 ++ [y]) x)) ∧ Below v.heap.size v w') := fun y M v x hgy hM hKM => by
    have hl1 : (S0 ++ [y]).length = n + 1 := by rw [List.length_append, hn]; rfl
    have hys := hKM.ys
    rw [hM] at hys
    have hmr : Mr (some ⟨R, 0, none⟩) cv (S0 ++ [y]) v := ⟨good_fit hgy, by rw [hl1]; exact hcv, hys⟩
    have := hmr.at hgy n (by omega) x
    rw [← hl1] at this ⊢
    exact this
  have HBL : Hid (1 ≤ B.length ∧ B.length ≤ 8) := ⟨hgB.1, hgB.2.1⟩
  have HBS := hid (fun x => atE_size hgB x)
  obtain ⟨nb, hnb⟩ : ∃ nb, B.length = nb + 1 := ⟨B.length - 1, by have := hgB.1; omega⟩
  have hnb7 : nb ≤ 7 := by have := hgB.2.1; omega
  have hn7 : n ≤ 7 := by have := hg.2.1; rw [List.length_append, hn] at this; simp at this; omega
  have hwb := pred_wrap nb (by omega)
  have hwn := pred_wrap n (by omega)
  have HNN := hid hn
  have HLO := hid hL
  have HK0 : Hid (RowK lo R L W) := hK.on b0
  have HB00 : Hid (KR R w W) := KR.of_below b0
  have HLI : Hid (∀ x ∈ l, 0 ≤ x ∧ x ≤ 15) := hl
  rw [show B.length - 1 = nb by rw [hnb]; rfl, hnb] at HT1
  rw [hnb] at HXK hW ⊢
  have HZS : Hid (w.heap.size + 3 = W.heap.size ∧ R < w.heap.size) := ⟨by omega, hRw⟩
  obtain ⟨x0, x1, -⟩ := HXK.out W (KR.refl _ _)
  have x0 := box_cell x0 0
  have x1 := box_cell x1 0
  clear hK hB hI hl hz0 k0 k1 k2 hBW hg hgB hL hw0 hoff hz b0
  go_enter Try.func17, Try.ntmps17
  go_wp2_with fail
  clear hW x0 x1
  go_loopw [8, 19] (fun s i wr => ∃ (j : Nat) (L' : List (Ly × LA)), j ≤ l.length ∧ i = .int .i64 j ∧ s = .int .i64 ((cpZ S0 B z (l.take j)).2 : Nat) ∧ L'.map (·.1) = S0 ++ [(cpZ S0 B z (l.take j)).1] ∧ RowK lo R L' wr ∧ KR R W wr) (fun _ i _ => l.length - (intOf i).toNat)
  case atStart => exact ⟨0, L, Nat.zero_le _, rfl, by rw [List.take_zero]; rfl, by rw [List.take_zero]; exact HLO.out, HK0.out, KR.refl _ _⟩
  case round =>
    clear HK0 HLO
    obtain ⟨j, L', hj, rfl, rfl, hmap, hrow, hkr⟩ := hrel
    by_cases hlt : j < l.length
    · obtain ⟨ba, off, rfl, hb, hc⟩ := (HIW.out _ hkr).cell (by omega)
      have e2 := hc j hlt
      obtain ⟨i1, i2, i3, -⟩ := HINV.out j (by omega)
      have hst := HTAKE.out j hlt
      have HX0 := hid (HLI.out l[j] (List.getElem_mem hlt))
      have hj1 : l.length ≤ 1048576 := hln
      have HKR := hid hkr
      have HRO := hid hrow
      have HMP := hid hmap
      obtain ⟨y0, y1, -⟩ := HXK.out _ hkr
      have y0 := box_cell y0 0
      have y1 := box_cell y1 0
      generalize hzz : cpZ S0 B z (l.take j) = q at *
      obtain ⟨zj, nj⟩ := q
      simp only at i1 i2 i3 HMP hmap
      have HGJ := hid (HGL.out zj i1 i2)
      have HZJ := hid i2
      have C1 := hid (HT1.out _ l[j] hkr)
      have CA : Hid (∀ v, RowK lo R L' v → Calls Try.prog 29 #[.agg #[.slice (some ⟨R, 0, none⟩) (n + 1) cv], .int .i64 (n : Nat), .int .i64 l[j]] v fun e w' => e = .returned (.string (atE (S0 ++ [zj]) l[j])) ∧ Below v.heap.size v w') := fun v h => HAT.out zj L' v l[j] HGJ.out hmap h
      have HST : Hid (cpZ S0 B z (l.take (j + 1)) = if atE (S0 ++ [zj]) l[j] = atE B l[j] then (zj, nj) else (putLy zj l[j] (atE B l[j]), nj + 1)) := hst
      have HTB2 := hid (HBS.out l[j])
      clear hst hc hkr hrow hmap hzz i1 i2
      generalize l[j] = x at *
      generalize atE B x = tb at *
      generalize atE (S0 ++ [zj]) x = ta at *
      go_wp2_with fail
      refine C1.out.mono ?_
      rintro e w5 ⟨rfl, g5⟩
      have K5 : Hid (KR R W w5) := HKR.out.trans (KR.of_below g5)
      have R5 := hid (HRO.out.on g5)
      clear g5 C1 y0 y1
      obtain ⟨y0, y1, -⟩ := HXK.out _ K5.out
      have y0 := box_cell y0 0
      have y1 := box_cell y1 0
      have CA5 := hid (CA.out _ R5.out)
      go_wp2_with fail
      refine CA5.out.mono ?_
      rintro e w6 ⟨rfl, g6⟩
      have K6 : Hid (KR R W w6) := K5.out.trans (KR.of_below g6)
      have R6 := hid (R5.out.on g6)
      clear g6 CA CA5 y0 y1 R5 K5 HRO HKR
      by_cases hq : ta = tb
      · subst hq
        have dq : (ta.toList == ta.toList) = true := beq_self_eq_true _
        have HSTEP : Hid (cpZ S0 B z (l.take (j + 1)) = (zj, nj)) := by show _ = _; rw [HST.out, if_pos rfl]
        clear HST
        go_wp2_with fail
        go_roundw
        case rel => exact ⟨j + 1, L', by omega, by go_num, by rw [HSTEP.out], by rw [HSTEP.out]; exact HMP.out, R6.out, K6.out⟩
        case measure => simp [intOf]; omega
      · have dq : (ta.toList == tb.toList) = false := ba_ne hq
        have HSTEP0 : Hid (cpZ S0 B z (l.take (j + 1)) = (putLy zj x tb, nj + 1)) := by show _ = _; rw [HST.out, if_neg hq]
        clear HST
        have hLn : L'.length = n + 1 := by have := congrArg List.length HMP.out; rw [List.length_map, List.length_append, HNN.out] at this; exact this
        have hzz : L'[n].1 = zj := by
          have e1 : (L'.map (·.1))[n]'(by rw [List.length_map]; omega) = zj := by
            simp only [HMP.out]
            rw [List.getElem_append_right (by have := HNN.out; omega)]
            simp [HNN.out]
          rw [List.getElem_map] at e1
          exact e1
        obtain ⟨⟨p1, c1, fx, q1, d1, gx⟩, hla⟩ : ∃ la : LA, L'[n] = (zj, la) := ⟨L'[n].2, by rw [← hzz]⟩
        obtain ⟨y, hy⟩ : ∃ y, putLy zj x tb = y := ⟨_, rfl⟩
        rw [hy] at HSTEP0
        have hymk : y.mark = zj.mark := by rw [← hy]; rfl
        have HSTEP : Hid ((cpZ S0 B z (l.take (j + 1))).1 = y ∧ (cpZ S0 B z (l.take (j + 1))).2 = nj + 1) := ⟨by rw [HSTEP0.out], by rw [HSTEP0.out]⟩
        have HMAP : Hid (∀ la : LA, (L'.set n (y, la)).map (·.1) = S0 ++ [y]) := fun la => by
          rw [List.map_set, HMP.out]
          rw [List.set_append_right _ _ (by have := HNN.out; omega)]
          simp [HNN.out]
        have hfz := R6.out.fit n (by omega)
        rw [hla] at hfz
        have HPUT : Hid (∀ v, RowK lo R L' v → Calls Try.prog 30 #[.agg #[.int .i64 zj.mark, .slice p1 zj.bl.length c1, .slice q1 zj.dt.length d1], .int .i64 x, .string tb] v fun e w' => PutOut y zj.bl p1 v e w') := fun v hv => by
          have hfv := hv.fit n (by omega)
          rw [hla] at hfv
          have := l7Put_any p1 q1 c1 d1 zj x tb v HZJ.out hfv.cb hfv.cd hfv.bl hfv.dt
          rw [hy] at this
          exact this
        have HFIT : Hid (∀ (u v : World) p2 c2 q2 d2, R < u.heap.size → Is v.heap.size p2 y.bl v → Ss v.heap.size q2 y.dt v → ((p2 = p1 ∧ 0 < zj.bl.length) ∨ ∃ R', p2 = some ⟨R', 0, none⟩ ∧ u.heap.size ≤ R') → (∃ R', q2 = some ⟨R', 0, none⟩ ∧ u.heap.size ≤ R') → y.bl.length ≤ c2 → y.dt.length ≤ d2 → LyFit R (y, ⟨p2, c2, 0, q2, d2, 0⟩) v) := fun u v p2 c2 q2 d2 hu h1 h2 h3 h4 h5 h6 => by
          refine ⟨h1, h2, fun _ o f e => ?_, fun _ o f e => ?_, h5, h6⟩
          · rcases h3 with ⟨e3, h0⟩ | ⟨R', e3, h0⟩
            · exact hfz.ob h0 o f (by rw [← e3]; exact e)
            · have e' : p2 = some ⟨R, o, f⟩ := e
              rw [e3] at e'
              injection e' with e'
              injection e' with e' _ _
              omega
          · obtain ⟨R', e3, h0⟩ := h4
            have e' : q2 = some ⟨R, o, f⟩ := e
            rw [e3] at e'
            injection e' with e'
            injection e' with e' _ _
            omega
        have HCELL : Hid (∀ v, RowK lo R L' v → (v.cell? ⟨R, n * 3, none⟩ = some (.int .i64 zj.mark) ∧ v.cell? ⟨R, n * 3 + 1, none⟩ = some (.slice p1 zj.bl.length c1) ∧ v.cell? ⟨R, n * 3 + 2, none⟩ = some (.slice q1 zj.dt.length d1)) ∧ (v.frozen? ⟨R, n * 3, none⟩ = false ∧ v.frozen? ⟨R, n * 3 + 1, none⟩ = false ∧ v.frozen? ⟨R, n * 3 + 2, none⟩ = false) ∧ ∀ u : Ly × LA, LyFit R u v → RowK lo R (L'.set n u) (((v.setCell ⟨R, n * 3, none⟩ (.int .i64 u.1.mark)).setCell ⟨R, n * 3 + 1, none⟩ (.slice u.2.p u.1.bl.length u.2.c)).setCell ⟨R, n * 3 + 2, none⟩ (.slice u.2.q u.1.dt.length u.2.d))) := fun v hv => by
          have h1 := hv.cell n (by omega)
          simp only [hla] at h1
          exact ⟨h1, hv.free n (by omega), fun u hu => hv.put n (by omega) u hu⟩
        obtain ⟨mk, bl, dt⟩ := zj
        simp only at HPUT HFIT HCELL hymk
        clear hla hzz hfz hy HSTEP0 HMP HGJ HZJ hymk hq HINV HTAKE HGL HAT HBS
        obtain ⟨y0, -, -⟩ := HXK.out _ K6.out
        have y0 := box_cell y0 0
        go_upto_region 8 with fail
        have HT : Hid (∀ v : World, KR R W v → (v.cell? ⟨R, n * 3, none⟩ = some (.int .i64 mk) ∧ v.cell? ⟨R, n * 3 + 1, none⟩ = some (.slice p1 bl.length c1) ∧ v.cell? ⟨R, n * 3 + 2, none⟩ = some (.slice q1 dt.length d1)) → v.cell? ⟨w.heap.size, 0, none⟩ = some (.slice (some ⟨R, 0, none⟩) (n + 1) cv) ∧ v.cell? ⟨R, n * 3, none⟩ = some (.int .i64 mk) ∧ v.cell? ⟨R, n * 3 + 1, none⟩ = some (.slice p1 bl.length c1) ∧ v.cell? ⟨R, n * 3 + 2, none⟩ = some (.slice q1 dt.length d1)) := fun v h1 h2 => ⟨box_cell (HXK.out v h1).1 0, h2.1, h2.2.1, h2.2.2⟩
        have KRD : Hid (RowK lo R L' w6.drew) := R6.out.on (Below.refl _ _).drew
        have HKW : Hid (KR R W w6.drew) := K6.out.trans (KR.of_below (Below.refl _ _).drew)
        have hT0 := HT.out _ HKW.out (HCELL.out _ KRD.out).1
        clear y0 K6 R6
        refine wp_region_L (fun v : World => v.cell? ⟨w.heap.size, 0, none⟩ = some (.slice (some ⟨R, 0, none⟩) (n + 1) cv) ∧ v.cell? ⟨R, n * 3, none⟩ = some (.int .i64 mk) ∧ v.cell? ⟨R, n * 3 + 1, none⟩ = some (.slice p1 bl.length c1) ∧ v.cell? ⟨R, n * 3 + 2, none⟩ = some (.slice q1 dt.length d1)) 12 (by kernel_rfl) ?_
        generalize w6.drew = Wd at *
        have hHeld := hT0
        refine wpAnyL_take (i := 0) (v := .pointer (some ⟨w.heap.size, 0, none⟩)) (C := [0, 1, 11, 12]) rfl (by kernel_rfl) (fun _ _ _ h => h) (Or.inl ⟨by rfl, fun _ _ => by go_simp⟩) hHeld ?_
        dsimp only [Act.put]
        refine wpAnyL_take (i := 1) (v := .slice (some ⟨R, 0, none⟩) (n + 1) cv) (C := [1, 11, 12]) rfl (by kernel_rfl) (fun _ _ _ h => h) (Or.inl ⟨by rfl, fun u hu => by obtain ⟨h1, h2, h3, h4⟩ := hu; go_simp⟩) hHeld ?_
        dsimp only [Act.put]
        refine wpAnyL_take (i := 2) (v := .int .i64 (n : Int)) (C := [2, 11, 12]) rfl (by kernel_rfl) (fun _ _ _ h => h) (Or.inl ⟨by rfl, fun _ _ => by go_simp⟩) hHeld ?_
        dsimp only [Act.put]
        refine wpAnyL_take (i := 3) (v := .pointer (some ⟨w.heap.size, 0, none⟩)) (C := [3, 4, 6, 7, 10, 11, 12]) rfl (by kernel_rfl) (fun _ _ _ h => h) (Or.inl ⟨by rfl, fun _ _ => by go_simp⟩) hHeld ?_
        dsimp only [Act.put]
        refine wpAnyL_take (i := 4) (v := .slice (some ⟨R, 0, none⟩) (n + 1) cv) (C := [4, 6, 7, 10, 11, 12]) rfl (by kernel_rfl) (fun _ _ _ h => h) (Or.inl ⟨by rfl, fun u hu => by obtain ⟨h1, h2, h3, h4⟩ := hu; go_simp⟩) hHeld ?_
        dsimp only [Act.put]
        refine wpAnyL_take (i := 5) (v := .int .i64 (n : Int)) (C := [5, 6, 7, 10, 11, 12]) rfl (by kernel_rfl) (fun _ _ _ h => h) (Or.inl ⟨by rfl, fun _ _ => by go_simp⟩) hHeld ?_
        dsimp only [Act.put]
        refine wpAnyL_take (i := 6) (v := .pointer (some ⟨R, n * 3, none⟩)) (C := [6, 7, 10, 11, 12]) rfl (by kernel_rfl) (fun _ _ _ h => h) (Or.inl ⟨by rfl, fun _ _ => by go_simp; intro hq; exact absurd hq (by omega)⟩) hHeld ?_
        dsimp only [Act.put]
        refine wpAnyL_take (i := 7) (v := .agg #[.int .i64 mk, .slice p1 bl.length c1, .slice q1 dt.length d1]) (C := [7, 10, 11, 12]) rfl (by kernel_rfl) (fun _ _ _ h => h) (Or.inl ⟨by rfl, fun u hu => by obtain ⟨h1, h2, h3, h4⟩ := hu; go_simp⟩) hHeld ?_
        dsimp only [Act.put]
        refine wpAnyL_take (i := 8) (v := .int .i64 x) (C := [8, 10, 11, 12]) rfl (by kernel_rfl) (fun _ _ _ h => h) (Or.inl ⟨by rfl, fun _ _ => by go_simp⟩) hHeld ?_
        dsimp only [Act.put]
        refine wpAnyL_take (i := 9) (v := .string tb) (C := [9, 10, 11, 12]) rfl (by kernel_rfl) (fun _ _ _ h => h) (Or.inl ⟨by rfl, fun _ _ => by go_simp⟩) hHeld ?_
        dsimp only [Act.put]
        refine wpAnyL_one (i := 10) (by kernel_rfl) rfl (fun K hK => ?_)
        rw [if_pos (by rfl)]
        go_simp
        go_wp2_with (go_at_call 30; refine (HPUT.out _ KRD.out).mono ?_; rintro e w7 ⟨p2, c2, q2, d2, rfl, oI, oS, g7, oP, oQ, m1, m2⟩)
        have hszw := g7.size
        have K7 : Hid (KR R W w7) := HKW.out.trans (KR.of_below g7)
        have R7 := hid (KRD.out.on g7)
        have hF : LyFit R (y, ⟨p2, c2, 0, q2, d2, 0⟩) w7 := HFIT.out Wd w7 p2 c2 q2 d2 KRD.out.row.lt oI oS oP oQ m1 m2
        obtain ⟨r6, rf6, rx6⟩ := HCELL.out _ R7.out
        have hT5 := HT.out _ K7.out r6
        refine hK.out _ _ (fun _ => hT5) ?_
        clear hK K hHeld
        have hHeld := hT5
        try dsimp only [Act.put]
        refine wpAnyL_take (i := 11) (v := .pointer (some ⟨R, n * 3, none⟩)) (C := [11, 12]) rfl (by kernel_rfl) (fun _ _ _ h => h) (Or.inl ⟨by rfl, fun _ _ => by go_simp; intro hq; exact absurd hq (by omega)⟩) hHeld ?_
        dsimp only [Act.put]
        obtain ⟨e1, e2, e3, e4⟩ := hT5
        obtain ⟨f1, f2, f3⟩ := rf6
        have HP := hid (rx6 _ hF)
        have HK9 : Hid (KR R W (((w7.setCell ⟨R, n * 3, none⟩ (.int .i64 y.mark)).setCell ⟨R, n * 3 + 1, none⟩ (.slice p2 y.bl.length c2)).setCell ⟨R, n * 3 + 2, none⟩ (.slice q2 y.dt.length d2))) := ((K7.out.set _ _).set _ _).set _ _
        clear oI oS oP oQ m1 m2 hF rx6 g7 K7 R7 KRD
        generalize y.mark = ym at *
        generalize y.bl.length = yb at *
        generalize y.dt.length = yd at *
        refine wpAnyL_one (i := 12) (by kernel_rfl) rfl (fun K hK => ?_)
        rw [if_pos (by rfl)]
        go_simp
        refine hK.out _ _ (fun h => absurd rfl h) ?_
        clear hK K hHeld
        refine wpAnyL_done (by kernel_rfl) ?_
        generalize ((w7.setCell ⟨R, n * 3, none⟩ (.int .i64 ym)).setCell ⟨R, n * 3 + 1, none⟩ (.slice p2 yb c2)).setCell ⟨R, n * 3 + 2, none⟩ (.slice q2 yd d2) = W9 at *
        go_wp2_with fail
        go_roundw
        case rel => exact ⟨j + 1, L'.set n _, by omega, by go_num, by rw [HSTEP.out.2]; go_num, by rw [HSTEP.out.1]; exact HMAP.out _, HP.out, HK9.out⟩
        case measure => simp [intOf]; omega
    · obtain rfl : j = l.length := by omega
      rw [List.take_length] at hmap
      obtain ⟨y0, -, y2⟩ := HXK.out _ hkr
      have hb2 := box_set y2 0 (.slice (some ⟨R, 0, none⟩) (n + 1) cv)
      have y0' := box_cell y0 0
      have y2' := box_cell y2 0
      have f2 := box_free y2 0
      have e0 := box_cell hb2 0
      have hzs := HZS.out
      have HRF : Hid (RowK lo R L' (wr.setCell ⟨w.heap.size + 1 + 1, 0, none⟩ (.slice (some ⟨R, 0, none⟩) (n + 1) cv))) := hrow.box (by omega) y2 _
      have HKF : Hid (KR R w (wr.setCell ⟨w.heap.size + 1 + 1, 0, none⟩ (.slice (some ⟨R, 0, none⟩) (n + 1) cv))) := (HB00.out.trans hkr).box (w.heap.size + 1 + 1) (by omega) _
      have HMP := hid hmap
      rw [List.take_length]
      clear hrow hkr hmap y0 y2 hb2
      go_wp2_with fail
      generalize wr.setCell ⟨w.heap.size + 1 + 1, 0, none⟩ (.slice (some ⟨R, 0, none⟩) (n + 1) cv) = XX at *
      refine bodyPost_ret (v := .tuple #[.agg #[.slice (some ⟨R, 0, none⟩) (n + 1) cv], .int .i64 ((cpZ S0 B z l).2 : Nat)]) (by simp [results, Try.results17, go_sem, e0]) rfl ?_
      exact ⟨L', rfl, HMP.out, HRF.out, HKF.out⟩
end Go.Proofs.Ytlifhakgboekfab
namespace Go.Proofs.Ytlifhakgboekfab
set_option maxRecDepth 100000
open Go Go.ChangeShapes Go.WideShapes Go.ChangeAt Go.RowKit Go.Sort
end Go.Proofs.Ytlifhakgboekfab
namespace Go.Proofs.Ytlifhakgboekfab
set_option maxRecDepth 100000
open Go Go.ChangeShapes Go.WideShapes Go.ChangeAt Go.RowKit
end Go.Proofs.Ytlifhakgboekfab
namespace Go.Proofs.Ytlifhakgboekfab
set_option maxRecDepth 100000
open Go Go.ChangeShapes Go.WideShapes Go.ChangeAt Go.RowKit
end Go.Proofs.Ytlifhakgboekfab
namespace Go.Proofs.Ytlifhakgboekfab
set_option maxRecDepth 100000
open Go Go.ChangeShapes Go.WideShapes Go.ChangeAt Go.RowKit
/-- what PlanSync answers -/
def planP (A B : List Ly) (m : Int) : List Int := putsI (dirtP A m) (dirtP B m)
def PlanOk (A B : List Ly) (m : Int) : Prop := BothOk A B m ∧ sameK A B m = true
instance (A B : List Ly) (m : Int) : Decidable (PlanOk A B m) := by unfold PlanOk; infer_instance
def planV (A B : List Ly) (m : Int) : List Int := if PlanOk A B m then planP A B m else []
theorem dirtP_strict (A : List Ly) (m : Int) : (dirtP A m).Pairwise (· < ·) := (putsI_strict (dirtL A m) [] List.Pairwise.nil).1
theorem plan_two (A B : List Ly) (m : Int) : planP A B m = putsI [] (dirtL A m ++ dirtL B m) := by
  unfold planP
  rw [putsI_app]
  show putsI (dirtP A m) (dirtP B m) = putsI (dirtP A m) (dirtL B m)
  obtain ⟨h1, h2⟩ := putsI_strict (dirtP B m) (dirtP A m) (dirtP_strict A m)
  obtain ⟨h3, h4⟩ := putsI_strict (dirtL B m) (dirtP A m) (dirtP_strict A m)
  obtain ⟨h5, h6⟩ := putsI_strict (dirtL B m) [] List.Pairwise.nil
  refine strict_ext h1 h3 fun x => ?_
  rw [h2, h4]
  show (x ∈ dirtP A m ∨ x ∈ putsI [] (dirtL B m)) ↔ _
  rw [h6]
  simp
theorem planP_len {A B : List Ly} (m : Int) (hA : GoodK A) (hB : GoodK B) : (planP A B m).length ≤ 256 := by
  have h1 := putsI_len (dirtP B m) (dirtP A m)
  have h2 := dirtP_len hA m
  have h3 := dirtP_len hB m
  unfold planP
  omega
theorem planV_len (A B : List Ly) (m : Int) : (planV A B m).length ≤ 1048576 := by
  unfold planV
  split
  · rename_i h; have := planP_len m h.1.1.1 h.1.1.2; omega
  · simp
end Go.Proofs.Ytlifhakgboekfab
namespace Go.Proofs.Ytlifhakgboekfab
set_option maxRecDepth 100000
open Go Go.ChangeShapes Go.WideShapes Go.ChangeAt Go.RowKit
theorem dirtL_in {S : List Ly} (h : GoodK S) (m : Int) : ∀ x ∈ dirtL S m, 0 ≤ x ∧ x ≤ 15 := fun x hx => by
  unfold dirtL at hx
  obtain ⟨l, hl, hxl⟩ := List.mem_flatten.1 hx
  obtain ⟨y, hy, rfl⟩ := List.mem_map.1 hl
  obtain ⟨k, hk, rfl⟩ := List.getElem_of_mem hy
  by_cases e : m < S[k].mark
  · rw [if_pos e] at hxl
    exact rise_in (h.2.2 k hk).2.2.2.1 x hxl
  · rw [if_neg e] at hxl
    exact absurd hxl (by simp)
theorem planP_in {A B : List Ly} (m : Int) (hA : GoodK A) (hB : GoodK B) : ∀ x ∈ planP A B m, 0 ≤ x ∧ x ≤ 15 := fun x hx => by
  rw [plan_two] at hx
  rcases ((putsI_strict (dirtL A m ++ dirtL B m) [] List.Pairwise.nil).2 x).1 hx with h | h
  · exact absurd h (by simp)
  · rcases List.mem_append.1 h with h | h
    · exact dirtL_in hA m x h
    · exact dirtL_in hB m x h
/-- blocks copied: the layers, and how many were unlike -/
def copK (A B : List Ly) (l : List Int) : List Ly := A.dropLast ++ [(cpZ A.dropLast B (A.getLast?.getD ⟨0, [], []⟩) l).1]
def copN (A B : List Ly) (l : List Int) : Nat := (cpZ A.dropLast B (A.getLast?.getD ⟨0, [], []⟩) l).2
theorem copK_snoc (S0 : List Ly) (z : Ly) (B : List Ly) (l : List Int) : copK (S0 ++ [z]) B l = S0 ++ [(cpZ S0 B z l).1] ∧ copN (S0 ++ [z]) B l = (cpZ S0 B z l).2 := by
  unfold copK copN
  simp
theorem good_snoc {A : List Ly} (h : GoodK A) : ∃ S0 z, A = S0 ++ [z] := by
  have h1 := h.1
  exact ⟨A.dropLast, A.getLast (by intro e; rw [e] at h1; simp at h1), (List.dropLast_concat_getLast _).symm⟩
theorem copK_good {A B : List Ly} (hA : GoodK A) (hB : GoodK B) {l : List Int} (hl : ∀ x ∈ l, 0 ≤ x ∧ x ≤ 15) : GoodK (copK A B l) ∧ (copK A B l).length = A.length ∧ copN A B l ≤ l.length := by
  obtain ⟨S0, z, rfl⟩ := good_snoc hA
  have h1 := cpZ_inv (S0 := S0) (lyk_lastS hA) hB l hl l.length (Nat.le_refl _)
  rw [List.take_length] at h1
  rw [(copK_snoc S0 z B l).1, (copK_snoc S0 z B l).2]
  exact ⟨good_last hA h1.1 h1.2.1, by simp, h1.2.2.1⟩
/-- marks of one's own, in one block -/
theorem l7OwnR_any (a : Option Addr) (c : Nat) (A : List Ly) (n : Nat) (w : World) (hA : GoodK A) (hn : A.length = n + 1) (hY : Ys w.heap.size a A w) :
    Calls Try.prog 18 #[.agg #[.slice a (n + 1) c]] w fun e w' => ∃ R cv L, e = .returned (.agg #[.slice (some ⟨R, 0, none⟩) (n + 1) cv]) ∧ L.map (·.1) = A ∧ RowK w.heap.size R L w' ∧ n + 1 ≤ cv ∧ Below w.heap.size w w' := by
  have h := l7OwnC_any a c A w (good_small hA) hY
  rw [hn] at h
  refine h.mono fun e w' h => ?_
  obtain ⟨v, L, e1, e2, ⟨hK, hc⟩, g⟩ := h
  obtain ⟨a2, c2, e3, hO, hc2⟩ := hK.own
  have hl : L.length = n + 1 := by have := congrArg List.length e2; rw [List.length_map, hn] at this; exact this
  rw [e2] at hO
  rcases hO with h0 | ⟨R, AA, e4, _⟩
  · rw [h0] at hn; exact absurd hn (by simp)
  · rw [e4, hl] at e3
    rw [e3] at e1 hK
    exact ⟨R, c2, L, e1, e2, hK.rowK hc, by omega, g⟩
theorem cop_any (W : World) (b : Option Addr) (d n : Nat) (A B : List Ly) (l : List Int) (hA : GoodK A) (hn : A.length = n + 1) (hB : GoodK B) (hMB : Mr b d B W) (hl : ∀ x ∈ l, 0 ≤ x ∧ x ≤ 15) (hln : l.length ≤ 1048576) :
    ∀ (lo R cv cp : Nat) (L : List (Ly × LA)) (p : Option Addr) (v : World), W.heap.size ≤ lo → L.map (·.1) = A → n + 1 ≤ cv → RowK lo R L v → Below W.heap.size W v → Is v.heap.size p l v → OffR R l.length p →
    Calls Try.prog 17 #[.agg #[.slice (some ⟨R, 0, none⟩) (n + 1) cv], .agg #[.slice b B.length d], .slice p l.length cp] v fun e w' => ∃ L', e = .returned (.tuple #[.agg #[.slice (some ⟨R, 0, none⟩) (n + 1) cv], .int .i64 (copN A B l : Nat)]) ∧ L'.map (·.1) = copK A B l ∧ RowK lo R L' w' ∧ KR R v w' ∧ Below W.heap.size W w' := fun lo R cv cp L p v h1 h2 h3 h4 h5 h6 h7 => by
  obtain ⟨S0, z, rfl⟩ := good_snoc hA
  have hn0 : S0.length = n := by simpa using hn
  refine (l15Copy_any lo R n cv S0 z L b d B p cp l W v h2 hn0 hA h3 h4 hB hMB (Nat.le_trans h1 h4.r0) h5 h6 h7 hl hln).mono fun e w' h => ?_
  obtain ⟨L', e1, e2, e3, e4⟩ := h
  rw [(copK_snoc S0 z B l).1, (copK_snoc S0 z B l).2]
  have hb := e4.below (Nat.le_trans h1 h4.r0) h4.row.lt
  exact ⟨L', e1, e2, e3, e4, h5.trans hb⟩
end Go.Proofs.Ytlifhakgboekfab
namespace Go.Proofs.Ytlifhakgboekfab
set_option maxRecDepth 100000
open Go Go.ChangeShapes Go.WideShapes Go.ChangeAt Go.RowKit
theorem step_store_run {P : Program} {ops : Array Oper} {o : Oper} {a : Act} {w : World} {K : Act → World → Prop} {Q : Exit → Act → World → Prop} {E : Prop}
    (hg : o.guard = none) (t : TypeId) (x y : Operand) (hop : o.op = Op.store t x y) (p v : Value) (hx : a.eval x = p) (hy : a.eval y = v) (w' : World) (hrun : (Instr.storeAt t p v).run P w = .ok () w') (hK : K (a.put o.dst undef) w') :
    if Region.wanted o (yielded ops a.tmps) = true then Oper.wp P o a w K Q else E := by
  have hw : Region.wanted o (yielded ops a.tmps) = true := by simp [Region.wanted, hg]
  rw [if_pos hw]
  unfold Oper.wp
  simp [execOp, hop, hx, hy, hrun, Result.andThen]
  exact hK
theorem put16 (v : World) (Y : Nat) (T : Nat → ByteArray) (hb : v.heap[Y]? = some (.cells #[.string ⟨#[]⟩, .string ⟨#[]⟩, .string ⟨#[]⟩, .string ⟨#[]⟩, .string ⟨#[]⟩, .string ⟨#[]⟩, .string ⟨#[]⟩, .string ⟨#[]⟩, .string ⟨#[]⟩, .string ⟨#[]⟩, .string ⟨#[]⟩, .string ⟨#[]⟩, .string ⟨#[]⟩, .string ⟨#[]⟩, .string ⟨#[]⟩, .string ⟨#[]⟩] 72)) : ∃ u, ((((((((((((((((v.setCell ⟨Y, 0, none⟩ (.string (T 0))).setCell ⟨Y, 1, none⟩ (.string (T 1))).setCell ⟨Y, 2, none⟩ (.string (T 2))).setCell ⟨Y, 3, none⟩ (.string (T 3))).setCell ⟨Y, 4, none⟩ (.string (T 4))).setCell ⟨Y, 5, none⟩ (.string (T 5))).setCell ⟨Y, 6, none⟩ (.string (T 6))).setCell ⟨Y, 7, none⟩ (.string (T 7))).setCell ⟨Y, 8, none⟩ (.string (T 8))).setCell ⟨Y, 9, none⟩ (.string (T 9))).setCell ⟨Y, 10, none⟩ (.string (T 10))).setCell ⟨Y, 11, none⟩ (.string (T 11))).setCell ⟨Y, 12, none⟩ (.string (T 12))).setCell ⟨Y, 13, none⟩ (.string (T 13))).setCell ⟨Y, 14, none⟩ (.string (T 14))).setCell ⟨Y, 15, none⟩ (.string (T 15))) = u ∧ u.heap[Y]? = some (.cells (arrS T 16) 72) ∧ (∀ k, k ≠ Y → u.heap[k]? = v.heap[k]?) ∧ ∀ lo w, lo ≤ Y → Below lo w v → Below lo w u := by
  refine ⟨_, rfl, ?_, fun k hk => ?_, fun lo w hl h => ?_⟩
  · rw [arrS_all]
    have h := (box_set (box_set (box_set (box_set (box_set (box_set (box_set (box_set (box_set (box_set (box_set (box_set (box_set (box_set (box_set (box_set hb 0 (.string (T 0))) 1 (.string (T 1))) 2 (.string (T 2))) 3 (.string (T 3))) 4 (.string (T 4))) 5 (.string (T 5))) 6 (.string (T 6))) 7 (.string (T 7))) 8 (.string (T 8))) 9 (.string (T 9))) 10 (.string (T 10))) 11 (.string (T 11))) 12 (.string (T 12))) 13 (.string (T 13))) 14 (.string (T 14))) 15 (.string (T 15)))
    simpa using h
  · exact (keepB _ _ _ _ _ hk).trans ((keepB _ _ _ _ _ hk).trans ((keepB _ _ _ _ _ hk).trans ((keepB _ _ _ _ _ hk).trans ((keepB _ _ _ _ _ hk).trans ((keepB _ _ _ _ _ hk).trans ((keepB _ _ _ _ _ hk).trans ((keepB _ _ _ _ _ hk).trans ((keepB _ _ _ _ _ hk).trans ((keepB _ _ _ _ _ hk).trans ((keepB _ _ _ _ _ hk).trans ((keepB _ _ _ _ _ hk).trans ((keepB _ _ _ _ _ hk).trans ((keepB _ _ _ _ _ hk).trans ((keepB _ _ _ _ _ hk).trans (keepB _ _ _ _ _ hk)))))))))))))))
  · exact (setB (setB (setB (setB (setB (setB (setB (setB (setB (setB (setB (setB (setB (setB (setB (setB h Y 0 hl _) Y 1 hl _) Y 2 hl _) Y 3 hl _) Y 4 hl _) Y 5 hl _) Y 6 hl _) Y 7 hl _) Y 8 hl _) Y 9 hl _) Y 10 hl _) Y 11 hl _) Y 12 hl _) Y 13 hl _) Y 14 hl _) Y 15 hl _)
theorem run_put16 (v : World) (Y : Nat) (T : Nat → ByteArray) (hb : v.heap[Y]? = some (.cells #[.string ⟨#[]⟩, .string ⟨#[]⟩, .string ⟨#[]⟩, .string ⟨#[]⟩, .string ⟨#[]⟩, .string ⟨#[]⟩, .string ⟨#[]⟩, .string ⟨#[]⟩, .string ⟨#[]⟩, .string ⟨#[]⟩, .string ⟨#[]⟩, .string ⟨#[]⟩, .string ⟨#[]⟩, .string ⟨#[]⟩, .string ⟨#[]⟩, .string ⟨#[]⟩] 72)) : (storeCells ⟨Y, 0, none⟩ (arrS T 16).toList 0).run Try.prog v = .ok () ((((((((((((((((v.setCell ⟨Y, 0, none⟩ (.string (T 0))).setCell ⟨Y, 1, none⟩ (.string (T 1))).setCell ⟨Y, 2, none⟩ (.string (T 2))).setCell ⟨Y, 3, none⟩ (.string (T 3))).setCell ⟨Y, 4, none⟩ (.string (T 4))).setCell ⟨Y, 5, none⟩ (.string (T 5))).setCell ⟨Y, 6, none⟩ (.string (T 6))).setCell ⟨Y, 7, none⟩ (.string (T 7))).setCell ⟨Y, 8, none⟩ (.string (T 8))).setCell ⟨Y, 9, none⟩ (.string (T 9))).setCell ⟨Y, 10, none⟩ (.string (T 10))).setCell ⟨Y, 11, none⟩ (.string (T 11))).setCell ⟨Y, 12, none⟩ (.string (T 12))).setCell ⟨Y, 13, none⟩ (.string (T 13))).setCell ⟨Y, 14, none⟩ (.string (T 14))).setCell ⟨Y, 15, none⟩ (.string (T 15))) := by
  have hz : ∀ j, j < 16 → (#[.string ⟨#[]⟩, .string ⟨#[]⟩, .string ⟨#[]⟩, .string ⟨#[]⟩, .string ⟨#[]⟩, .string ⟨#[]⟩, .string ⟨#[]⟩, .string ⟨#[]⟩, .string ⟨#[]⟩, .string ⟨#[]⟩, .string ⟨#[]⟩, .string ⟨#[]⟩, .string ⟨#[]⟩, .string ⟨#[]⟩, .string ⟨#[]⟩, .string ⟨#[]⟩] : Array Value)[j]? = some (.string ⟨#[]⟩) := fun j hj => by
    have hr : (#[.string ⟨#[]⟩, .string ⟨#[]⟩, .string ⟨#[]⟩, .string ⟨#[]⟩, .string ⟨#[]⟩, .string ⟨#[]⟩, .string ⟨#[]⟩, .string ⟨#[]⟩, .string ⟨#[]⟩, .string ⟨#[]⟩, .string ⟨#[]⟩, .string ⟨#[]⟩, .string ⟨#[]⟩, .string ⟨#[]⟩, .string ⟨#[]⟩, .string ⟨#[]⟩] : Array Value) = Array.replicate 16 (.string ⟨#[]⟩) := rfl
    rw [hr, Array.getElem?_replicate, if_pos hj]
  have h := run_storeCells_cells (P := Try.prog) Y 0 (arrS T 16).toList 0 v (fun j hj => by
    simp only [Nat.zero_add]; rw [box_cell hb j, hz j (by simpa [arrS_size] using hj)]; rfl) (fun j hj => by
    simp only [Nat.zero_add]; exact box_free hb j) (fun u hu => by
    rw [arrS_all] at hu
    simp at hu
    rcases hu with rfl | rfl | rfl | rfl | rfl | rfl | rfl | rfl | rfl | rfl | rfl | rfl | rfl | rfl | rfl | rfl <;> rfl)
  have e : v.setCells Y (0 + 0) (arrS T 16).toList = ((((((((((((((((v.setCell ⟨Y, 0, none⟩ (.string (T 0))).setCell ⟨Y, 1, none⟩ (.string (T 1))).setCell ⟨Y, 2, none⟩ (.string (T 2))).setCell ⟨Y, 3, none⟩ (.string (T 3))).setCell ⟨Y, 4, none⟩ (.string (T 4))).setCell ⟨Y, 5, none⟩ (.string (T 5))).setCell ⟨Y, 6, none⟩ (.string (T 6))).setCell ⟨Y, 7, none⟩ (.string (T 7))).setCell ⟨Y, 8, none⟩ (.string (T 8))).setCell ⟨Y, 9, none⟩ (.string (T 9))).setCell ⟨Y, 10, none⟩ (.string (T 10))).setCell ⟨Y, 11, none⟩ (.string (T 11))).setCell ⟨Y, 12, none⟩ (.string (T 12))).setCell ⟨Y, 13, none⟩ (.string (T 13))).setCell ⟨Y, 14, none⟩ (.string (T 14))).setCell ⟨Y, 15, none⟩ (.string (T 15))) := rfl
  rw [e] at h
  exact h
end Go.Proofs.Ytlifhakgboekfab
namespace Go.Proofs.Ytlifhakgboekfab
set_option maxRecDepth 100000
open Go Go.ChangeShapes Go.WideShapes Go.ChangeAt Go.RowKit
section
variable {P : Program} {ops : Array Oper} {md : Region.Mode} {Q : Exit → Act → World → Prop} {S : World → Prop} {z : Nat}
theorem wpAnyL_three {i j k : Nat} {o o' o2 : Oper} {n : Nat} {l : Array Bool} {a : Act} {w : World} (hr : (Region.ready md ops l == [i, j, k]) = true) (ho : ops[i]? = some o) (ho' : ops[j]? = some o') (ho2 : ops[k]? = some o2)
    (h : ∀ K' : Act → World → Prop, Shut (∀ b u, (i ≠ z → S u) → wpAnyL P md ops Q S z n (l.setIfInBounds i true) b u → K' b u) → if Region.wanted o (yielded ops a.tmps) = true then Oper.wp P o a w K' Q else K' (a.put o.dst undef) w)
    (h' : ∀ K' : Act → World → Prop, Shut (∀ b u, (j ≠ z → S u) → wpAnyL P md ops Q S z n (l.setIfInBounds j true) b u → K' b u) → if Region.wanted o' (yielded ops a.tmps) = true then Oper.wp P o' a w K' Q else K' (a.put o'.dst undef) w)
    (h2 : ∀ K' : Act → World → Prop, Shut (∀ b u, (k ≠ z → S u) → wpAnyL P md ops Q S z n (l.setIfInBounds k true) b u → K' b u) → if Region.wanted o2 (yielded ops a.tmps) = true then Oper.wp P o2 a w K' Q else K' (a.put o2.dst undef) w) : wpAnyL P md ops Q S z (n + 1) l a w := by
  have hr' : Region.ready md ops l = [i, j, k] := by simpa using hr
  refine ⟨fun h0 => (by rw [hr'] at h0; cases h0), fun q hq => ?_⟩
  rw [hr', List.mem_cons, List.mem_cons, List.mem_singleton] at hq
  rcases hq with rfl | rfl | rfl
  · exact wpOp_step ho (fun K' hK => h K' (fun b u h1 h2 => hK b u ⟨h1, h2⟩))
  · exact wpOp_step ho' (fun K' hK => h' K' (fun b u h1 h2 => hK b u ⟨h1, h2⟩))
  · exact wpOp_step ho2 (fun K' hK => h2 K' (fun b u h1 h2 => hK b u ⟨h1, h2⟩))
theorem wpAnyL_cg {n n' : Nat} {l l' : Array Bool} {a a' : Act} {w : World} (hn : n = n') (hl : l = l') (ha : a = a') (h : wpAnyL P md ops Q S z n l a w) : wpAnyL P md ops Q S z n' l' a' w := by
  subst hn; subst hl; subst ha; exact h
end
/-- a map that is being made: its marks are its own and lie not in its own block -/
def MW (lo X : Nat) (A : List Ly) (k : Nat) (w : World) : Prop := ∃ p c l2 h2, w.heap[X]? = some (.cells #[.slice p A.length c, .int .i64 (k : Int)] 50) ∧ OwnK l2 h2 p A w ∧ lo ≤ l2 ∧ (X < l2 ∨ h2 ≤ X) ∧ h2 ≤ w.heap.size ∧ A.length ≤ c
theorem arr_cell {w : World} {Y k : Nat} {T : Nat → ByteArray} {t : TypeId} (h : w.heap[Y]? = some (.cells (arrS T 16) t)) (hk : k < 16) : w.cell? ⟨Y, k, none⟩ = some (.string (T k)) := by
  rw [box_cell h k, Array.getElem?_eq_getElem (by rw [arrS_size]; exact hk), arrS_at, if_pos hk]
set_option maxHeartbeats 60000000 in
theorem copyFrom_any (lo X : Nat) (S0 : List Ly) (z : Ly) (n : Nat) (b : Option Addr) (d : Nat) (B : List Ly) (bp : Option Addr) (cp : Nat) (l : List Int) (w0 w : World)
    (hn : S0.length = n) (hg : GoodK (S0 ++ [z])) (hgB : GoodK B) (hM : MW lo X (S0 ++ [z]) 0 w) (hlo : w0.heap.size ≤ lo) (hX : lo ≤ X) (hw0 : Below w0.heap.size w0 w) (hB : Mr b d B w0) (hI : Is w0.heap.size bp l w0) (hl : ∀ x ∈ l, 0 ≤ x ∧ x ≤ 15) (hs : l.Pairwise (· < ·)) (hln : l.length ≤ 1048576) :
    Calls Try.prog 35 #[.pointer (some ⟨X, 0, none⟩), .agg #[.slice b B.length d], .slice bp l.length cp] w fun e w' => e = .returned (.tuple #[]) ∧ MW lo X (S0 ++ [(cpZ S0 B z l).1]) (cpZ S0 B z l).2 w' ∧ Below lo w w' := by
  have hz0 := lyk_lastS hg
  obtain ⟨p, c, l2, h2, hXb, hO, hl2, hXo, hh2, hc⟩ := hM
  have hXs := (Array.getElem?_eq_some_iff.1 hXb).1
  have hM0 := True.intro
  have HLE := True.intro
  have hlen : (S0 ++ [z]).length = n + 1 := by rw [List.length_append, hn]; rfl
  have b0 := boxB w (.cells #[.slice b B.length d] 48)
  have k0 := heap_last w (.cells #[.slice b B.length d] 48)
  have hz1 : (w.alloc (.cells #[.slice b B.length d] 48)).heap.size = w.heap.size + 1 := heap_size _ _
  rw [hlen] at hXb hc
  generalize hW : w.alloc (.cells #[.slice b B.length d] 48) = W at *
  have hXW : W.heap[X]? = some (.cells #[.slice p (n + 1) c, .int .i64 ((0 : Nat) : Int)] 50) := (b0.block _ hXs).trans hXb
  have HXB : Hid (∀ v, Below W.heap.size W v → v.heap[X]? = some (.cells #[.slice p (n + 1) c, .int .i64 ((0 : Nat) : Int)] 50)) := fun v g => (g.block _ (by omega)).trans hXW
  have HX : Hid (∀ v, Below W.heap.size W v → v.cell? ⟨X, 0, none⟩ = some (.slice p (n + 1) c) ∧ v.cell? ⟨w.heap.size, 0, none⟩ = some (.slice b B.length d)) := fun v g => ⟨box_cell (HXB.out v g) 0, box_cell ((g.block _ (kboxS k0)).trans k0) 0⟩
  have hMA : Mr p c (S0 ++ [z]) w := ⟨good_fit hg, by rw [hlen]; exact hc, hO.ys⟩
  have HLA : Hid (∀ v, Below W.heap.size W v → Calls Try.prog 45 #[.agg #[.slice p (n + 1) c]] v fun e w' => e = .returned (.agg (arrS (fun k : Nat => atE (S0 ++ [z]) (k : Int)) 16)) ∧ Below v.heap.size v w') := fun v g => by
    have := lastAll_any p c (S0 ++ [z]) v (hMA.on (b0.trans (g.mono b0.size))) hg
    rw [← hlen]
    exact this
  have HLB : Hid (∀ v, Below W.heap.size W v → Calls Try.prog 45 #[.agg #[.slice b B.length d]] v fun e w' => e = .returned (.agg (arrS (fun k : Nat => atE B (k : Int)) 16)) ∧ Below v.heap.size v w') := fun v g => lastAll_any b d B v (hB.on (hw0.trans ((b0.mono hw0.size).trans (g.mono (by have := hw0.size; omega))))) hgB
  have HTA : Hid (∀ k : Nat, (fun k : Nat => atE (S0 ++ [z]) (k : Int)) k = atE (S0 ++ [z]) (k : Int)) := fun _ => rfl
  have HTB : Hid (∀ k : Nat, (fun k : Nat => atE B (k : Int)) k = atE B (k : Int)) := fun _ => rfl
  generalize (fun k : Nat => atE (S0 ++ [z]) (k : Int)) = TA at *
  generalize (fun k : Nat => atE B (k : Int)) = TB at *
  obtain ⟨VA, hVA⟩ : ∃ v, v = Value.agg (arrS TA 16) := ⟨_, rfl⟩
  obtain ⟨VB, hVB⟩ : ∃ v, v = Value.agg (arrS TB 16) := ⟨_, rfl⟩
  rw [← hVA] at HLA
  rw [← hVB] at HLB
  have HVA : Hid (VA = Value.agg (arrS TA 16)) := hVA
  have HVB : Hid (VB = Value.agg (arrS TB 16)) := hVB
  clear hVA hVB
  obtain ⟨bl, hbl⟩ : ∃ bl, B.length = bl := ⟨_, rfl⟩
  rw [hbl] at HX HLB hW ⊢
  go_enter Try.func35, Try.ntmps35
  go_upto_region 1 with fail
  go_cut [6, 7] (fun s6 s7 wc => ∃ Y6 Y7, s6 = .pointer (some ⟨Y6, 0, none⟩) ∧ s7 = .pointer (some ⟨Y7, 0, none⟩) ∧ W.heap.size ≤ Y6 ∧ W.heap.size ≤ Y7 ∧ wc.heap[Y6]? = some (.cells (arrS TA 16) 72) ∧ wc.heap[Y7]? = some (.cells (arrS TB 16) 72) ∧ Below W.heap.size W wc)
  case first =>
    have hT0 : Below W.heap.size W W.drew := (Below.refl _ _).drew
    refine wp_region_L (fun v : World => Below W.heap.size W v) 10 (by kernel_rfl) ?_
    generalize W.drew = Wd at *
    have hHeld := hT0
    refine wpAnyL_take (i := 0) (v := .pointer (some ⟨X, 0, none⟩)) (C := [0, 1, 2, 3, 4, 6, 9, 10]) rfl (by kernel_rfl) (fun _ _ _ h => h) (Or.inl ⟨by rfl, fun _ _ => by go_simp⟩) hHeld ?_
    dsimp only [Act.put]
    refine wpAnyL_take (i := 1) (v := .pointer (some ⟨X, 0, none⟩)) (C := [1, 2, 3, 4, 6, 9, 10]) rfl (by kernel_rfl) (fun _ _ _ h => h) (Or.inl ⟨by rfl, fun _ _ => by go_simp⟩) hHeld ?_
    dsimp only [Act.put]
    refine wpAnyL_take (i := 2) (v := .pointer (some ⟨X, 0, none⟩)) (C := [2, 3, 4, 6, 9, 10]) rfl (by kernel_rfl) (fun _ _ _ h => h) (Or.inl ⟨by rfl, fun _ _ => by go_simp⟩) hHeld ?_
    dsimp only [Act.put]
    refine wpAnyL_take (i := 3) (v := .agg #[.slice p (n + 1) c]) (C := [3, 4, 6, 9, 10]) rfl (by kernel_rfl) (fun _ _ _ h => h) (Or.inl ⟨by rfl, fun u hu => by obtain ⟨h1, h2⟩ := HX.out u hu; go_simp⟩) hHeld ?_
    dsimp only [Act.put]
    refine wpAnyL_take (i := 5) (v := .agg #[.slice b bl d]) (C := [5, 6, 9, 10]) rfl (by kernel_rfl) (fun _ _ _ h => h) (Or.inl ⟨by rfl, fun u hu => by obtain ⟨h1, h2⟩ := HX.out u hu; go_simp⟩) hHeld ?_
    dsimp only [Act.put]
    have hHeld0 := hHeld
    clear hHeld
    refine (fun (key : ∀ (Y7 Y8 : Nat) (u : World), Below W.heap.size W u → u.heap[Y7]? = some (.cells #[.string ⟨#[]⟩, .string ⟨#[]⟩, .string ⟨#[]⟩, .string ⟨#[]⟩, .string ⟨#[]⟩, .string ⟨#[]⟩, .string ⟨#[]⟩, .string ⟨#[]⟩, .string ⟨#[]⟩, .string ⟨#[]⟩, .string ⟨#[]⟩, .string ⟨#[]⟩, .string ⟨#[]⟩, .string ⟨#[]⟩, .string ⟨#[]⟩, .string ⟨#[]⟩] 72) → u.heap[Y8]? = some (.cells #[.string ⟨#[]⟩, .string ⟨#[]⟩, .string ⟨#[]⟩, .string ⟨#[]⟩, .string ⟨#[]⟩, .string ⟨#[]⟩, .string ⟨#[]⟩, .string ⟨#[]⟩, .string ⟨#[]⟩, .string ⟨#[]⟩, .string ⟨#[]⟩, .string ⟨#[]⟩, .string ⟨#[]⟩, .string ⟨#[]⟩, .string ⟨#[]⟩, .string ⟨#[]⟩] 72) → W.heap.size ≤ Y7 → W.heap.size ≤ Y8 → Y8 ≠ Y7 → wpAnyL ?kP ?kmd ?kops ?kQ ?kS ?kz ?kn ?kl ((?ka : Nat → Nat → Act) Y7 Y8) u) => ?paths) ?key
    case paths =>
      have hHeld := hHeld0
      refine wpAnyL_three (i := 4) (j := 7) (k := 8) (by kernel_rfl) rfl rfl rfl (fun K hK => ?_) (fun K hK => ?_) (fun K hK => ?_)
      · rw [if_pos (by rfl)]
        go_simp
        go_wp2_with (go_at_call 45; refine (HLA.out _ hHeld).mono ?_; rintro e u1 ⟨rfl, gg⟩)
        have hT1 : Below W.heap.size W u1 := hHeld.trans (gg.mono hHeld.size)
        clear gg
        refine hK.out _ _ (fun _ => hT1) ?_
        clear hK K hHeld
        have hHeld := hT1
        try dsimp only [Act.put]
        refine wpAnyL_three (i := 6) (j := 7) (k := 8) (by kernel_rfl) rfl rfl rfl (fun K hK => ?_) (fun K hK => ?_) (fun K hK => ?_)
        · rw [if_pos (by rfl)]
          go_simp
          go_wp2_with (go_at_call 45; refine (HLB.out _ hHeld).mono ?_; rintro e u2 ⟨rfl, gg⟩)
          have hT2 : Below W.heap.size W u2 := hHeld.trans (gg.mono hHeld.size)
          clear gg
          refine hK.out _ _ (fun _ => hT2) ?_
          clear hK K hHeld
          have hHeld := hT2
          try dsimp only [Act.put]
          refine wpAnyL_two (i := 7) (j := 8) (by kernel_rfl) rfl rfl (fun K hK => ?_) (fun K hK => ?_)
          · rw [if_pos (by rfl)]
            go_simp
            have gb := boxB u2 (.cells #[.string ⟨#[]⟩, .string ⟨#[]⟩, .string ⟨#[]⟩, .string ⟨#[]⟩, .string ⟨#[]⟩, .string ⟨#[]⟩, .string ⟨#[]⟩, .string ⟨#[]⟩, .string ⟨#[]⟩, .string ⟨#[]⟩, .string ⟨#[]⟩, .string ⟨#[]⟩, .string ⟨#[]⟩, .string ⟨#[]⟩, .string ⟨#[]⟩, .string ⟨#[]⟩] 72)
            have hbx7 := heap_last u2 (.cells #[.string ⟨#[]⟩, .string ⟨#[]⟩, .string ⟨#[]⟩, .string ⟨#[]⟩, .string ⟨#[]⟩, .string ⟨#[]⟩, .string ⟨#[]⟩, .string ⟨#[]⟩, .string ⟨#[]⟩, .string ⟨#[]⟩, .string ⟨#[]⟩, .string ⟨#[]⟩, .string ⟨#[]⟩, .string ⟨#[]⟩, .string ⟨#[]⟩, .string ⟨#[]⟩] 72)
            have hT3 : Below W.heap.size W (u2.alloc (.cells #[.string ⟨#[]⟩, .string ⟨#[]⟩, .string ⟨#[]⟩, .string ⟨#[]⟩, .string ⟨#[]⟩, .string ⟨#[]⟩, .string ⟨#[]⟩, .string ⟨#[]⟩, .string ⟨#[]⟩, .string ⟨#[]⟩, .string ⟨#[]⟩, .string ⟨#[]⟩, .string ⟨#[]⟩, .string ⟨#[]⟩, .string ⟨#[]⟩, .string ⟨#[]⟩] 72)) := hHeld.trans (gb.mono hHeld.size)
            have hbo7 : u2.heap.size < (u2.alloc (.cells #[.string ⟨#[]⟩, .string ⟨#[]⟩, .string ⟨#[]⟩, .string ⟨#[]⟩, .string ⟨#[]⟩, .string ⟨#[]⟩, .string ⟨#[]⟩, .string ⟨#[]⟩, .string ⟨#[]⟩, .string ⟨#[]⟩, .string ⟨#[]⟩, .string ⟨#[]⟩, .string ⟨#[]⟩, .string ⟨#[]⟩, .string ⟨#[]⟩, .string ⟨#[]⟩] 72)).heap.size := by rw [heap_size]; omega
            have hbw7 : W.heap.size ≤ u2.heap.size := hHeld.size
            refine hK.out _ _ (fun _ => hT3) ?_
            clear hK K hHeld
            have hHeld := hT3
            clear gb
            try dsimp only [Act.put]
            generalize hW3 : u2.alloc (.cells #[.string ⟨#[]⟩, .string ⟨#[]⟩, .string ⟨#[]⟩, .string ⟨#[]⟩, .string ⟨#[]⟩, .string ⟨#[]⟩, .string ⟨#[]⟩, .string ⟨#[]⟩, .string ⟨#[]⟩, .string ⟨#[]⟩, .string ⟨#[]⟩, .string ⟨#[]⟩, .string ⟨#[]⟩, .string ⟨#[]⟩, .string ⟨#[]⟩, .string ⟨#[]⟩] 72) = u3 at *
            generalize hBx7 : u2.heap.size = Y7 at *
            clear hW3 hBx7
            refine wpAnyL_one (i := 8) (by kernel_rfl) rfl (fun K hK => ?_)
            rw [if_pos (by rfl)]
            go_simp
            have gb := boxB u3 (.cells #[.string ⟨#[]⟩, .string ⟨#[]⟩, .string ⟨#[]⟩, .string ⟨#[]⟩, .string ⟨#[]⟩, .string ⟨#[]⟩, .string ⟨#[]⟩, .string ⟨#[]⟩, .string ⟨#[]⟩, .string ⟨#[]⟩, .string ⟨#[]⟩, .string ⟨#[]⟩, .string ⟨#[]⟩, .string ⟨#[]⟩, .string ⟨#[]⟩, .string ⟨#[]⟩] 72)
            have hbx8 := heap_last u3 (.cells #[.string ⟨#[]⟩, .string ⟨#[]⟩, .string ⟨#[]⟩, .string ⟨#[]⟩, .string ⟨#[]⟩, .string ⟨#[]⟩, .string ⟨#[]⟩, .string ⟨#[]⟩, .string ⟨#[]⟩, .string ⟨#[]⟩, .string ⟨#[]⟩, .string ⟨#[]⟩, .string ⟨#[]⟩, .string ⟨#[]⟩, .string ⟨#[]⟩, .string ⟨#[]⟩] 72)
            have hT4 : Below W.heap.size W (u3.alloc (.cells #[.string ⟨#[]⟩, .string ⟨#[]⟩, .string ⟨#[]⟩, .string ⟨#[]⟩, .string ⟨#[]⟩, .string ⟨#[]⟩, .string ⟨#[]⟩, .string ⟨#[]⟩, .string ⟨#[]⟩, .string ⟨#[]⟩, .string ⟨#[]⟩, .string ⟨#[]⟩, .string ⟨#[]⟩, .string ⟨#[]⟩, .string ⟨#[]⟩, .string ⟨#[]⟩] 72)) := hHeld.trans (gb.mono hHeld.size)
            have hbo8 : u3.heap.size < (u3.alloc (.cells #[.string ⟨#[]⟩, .string ⟨#[]⟩, .string ⟨#[]⟩, .string ⟨#[]⟩, .string ⟨#[]⟩, .string ⟨#[]⟩, .string ⟨#[]⟩, .string ⟨#[]⟩, .string ⟨#[]⟩, .string ⟨#[]⟩, .string ⟨#[]⟩, .string ⟨#[]⟩, .string ⟨#[]⟩, .string ⟨#[]⟩, .string ⟨#[]⟩, .string ⟨#[]⟩] 72)).heap.size := by rw [heap_size]; omega
            have hbw8 : W.heap.size ≤ u3.heap.size := hHeld.size
            have hbx7_n := (gb.block _ hbo7).trans hbx7
            clear hbx7
            have hbx7 := hbx7_n
            clear hbx7_n
            have hne : Y7 ≠ u3.heap.size := by omega
            have hbo7_n := Nat.lt_of_lt_of_le hbo7 gb.size
            clear hbo7
            have hbo7 := hbo7_n
            clear hbo7_n
            refine hK.out _ _ (fun _ => hT4) ?_
            clear hK K hHeld
            have hHeld := hT4
            clear gb
            try dsimp only [Act.put]
            generalize hW4 : u3.alloc (.cells #[.string ⟨#[]⟩, .string ⟨#[]⟩, .string ⟨#[]⟩, .string ⟨#[]⟩, .string ⟨#[]⟩, .string ⟨#[]⟩, .string ⟨#[]⟩, .string ⟨#[]⟩, .string ⟨#[]⟩, .string ⟨#[]⟩, .string ⟨#[]⟩, .string ⟨#[]⟩, .string ⟨#[]⟩, .string ⟨#[]⟩, .string ⟨#[]⟩, .string ⟨#[]⟩] 72) = u4 at *
            generalize hBx8 : u3.heap.size = Y8 at *
            clear hW4 hBx8
            have hn8 : Y8 ≠ Y7 := by first | exact hne | exact Ne.symm hne
            first | exact (key Y7 Y8 u4 hHeld hbx7 hbx8 hbw7 hbw8 hn8) | exact wpAnyL_cg rfl (by kernel_rfl) (by kernel_rfl) (key Y7 Y8 u4 hHeld hbx7 hbx8 hbw7 hbw8 hn8)
          · rw [if_pos (by rfl)]
            go_simp
            have gb := boxB u2 (.cells #[.string ⟨#[]⟩, .string ⟨#[]⟩, .string ⟨#[]⟩, .string ⟨#[]⟩, .string ⟨#[]⟩, .string ⟨#[]⟩, .string ⟨#[]⟩, .string ⟨#[]⟩, .string ⟨#[]⟩, .string ⟨#[]⟩, .string ⟨#[]⟩, .string ⟨#[]⟩, .string ⟨#[]⟩, .string ⟨#[]⟩, .string ⟨#[]⟩, .string ⟨#[]⟩] 72)
            have hbx8 := heap_last u2 (.cells #[.string ⟨#[]⟩, .string ⟨#[]⟩, .string ⟨#[]⟩, .string ⟨#[]⟩, .string ⟨#[]⟩, .string ⟨#[]⟩, .string ⟨#[]⟩, .string ⟨#[]⟩, .string ⟨#[]⟩, .string ⟨#[]⟩, .string ⟨#[]⟩, .string ⟨#[]⟩, .string ⟨#[]⟩, .string ⟨#[]⟩, .string ⟨#[]⟩, .string ⟨#[]⟩] 72)
            have hT3 : Below W.heap.size W (u2.alloc (.cells #[.string ⟨#[]⟩, .string ⟨#[]⟩, .string ⟨#[]⟩, .string ⟨#[]⟩, .string ⟨#[]⟩, .string ⟨#[]⟩, .string ⟨#[]⟩, .string ⟨#[]⟩, .string ⟨#[]⟩, .string ⟨#[]⟩, .string ⟨#[]⟩, .string ⟨#[]⟩, .string ⟨#[]⟩, .string ⟨#[]⟩, .string ⟨#[]⟩, .string ⟨#[]⟩] 72)) := hHeld.trans (gb.mono hHeld.size)
            have hbo8 : u2.heap.size < (u2.alloc (.cells #[.string ⟨#[]⟩, .string ⟨#[]⟩, .string ⟨#[]⟩, .string ⟨#[]⟩, .string ⟨#[]⟩, .string ⟨#[]⟩, .string ⟨#[]⟩, .string ⟨#[]⟩, .string ⟨#[]⟩, .string ⟨#[]⟩, .string ⟨#[]⟩, .string ⟨#[]⟩, .string ⟨#[]⟩, .string ⟨#[]⟩, .string ⟨#[]⟩, .string ⟨#[]⟩] 72)).heap.size := by rw [heap_size]; omega
            have hbw8 : W.heap.size ≤ u2.heap.size := hHeld.size
            refine hK.out _ _ (fun _ => hT3) ?_
            clear hK K hHeld
            have hHeld := hT3
            clear gb
            try dsimp only [Act.put]
            generalize hW3 : u2.alloc (.cells #[.string ⟨#[]⟩, .string ⟨#[]⟩, .string ⟨#[]⟩, .string ⟨#[]⟩, .string ⟨#[]⟩, .string ⟨#[]⟩, .string ⟨#[]⟩, .string ⟨#[]⟩, .string ⟨#[]⟩, .string ⟨#[]⟩, .string ⟨#[]⟩, .string ⟨#[]⟩, .string ⟨#[]⟩, .string ⟨#[]⟩, .string ⟨#[]⟩, .string ⟨#[]⟩] 72) = u3 at *
            generalize hBx8 : u2.heap.size = Y8 at *
            clear hW3 hBx8
            refine wpAnyL_one (i := 7) (by kernel_rfl) rfl (fun K hK => ?_)
            rw [if_pos (by rfl)]
            go_simp
            have gb := boxB u3 (.cells #[.string ⟨#[]⟩, .string ⟨#[]⟩, .string ⟨#[]⟩, .string ⟨#[]⟩, .string ⟨#[]⟩, .string ⟨#[]⟩, .string ⟨#[]⟩, .string ⟨#[]⟩, .string ⟨#[]⟩, .string ⟨#[]⟩, .string ⟨#[]⟩, .string ⟨#[]⟩, .string ⟨#[]⟩, .string ⟨#[]⟩, .string ⟨#[]⟩, .string ⟨#[]⟩] 72)
            have hbx7 := heap_last u3 (.cells #[.string ⟨#[]⟩, .string ⟨#[]⟩, .string ⟨#[]⟩, .string ⟨#[]⟩, .string ⟨#[]⟩, .string ⟨#[]⟩, .string ⟨#[]⟩, .string ⟨#[]⟩, .string ⟨#[]⟩, .string ⟨#[]⟩, .string ⟨#[]⟩, .string ⟨#[]⟩, .string ⟨#[]⟩, .string ⟨#[]⟩, .string ⟨#[]⟩, .string ⟨#[]⟩] 72)
            have hT4 : Below W.heap.size W (u3.alloc (.cells #[.string ⟨#[]⟩, .string ⟨#[]⟩, .string ⟨#[]⟩, .string ⟨#[]⟩, .string ⟨#[]⟩, .string ⟨#[]⟩, .string ⟨#[]⟩, .string ⟨#[]⟩, .string ⟨#[]⟩, .string ⟨#[]⟩, .string ⟨#[]⟩, .string ⟨#[]⟩, .string ⟨#[]⟩, .string ⟨#[]⟩, .string ⟨#[]⟩, .string ⟨#[]⟩] 72)) := hHeld.trans (gb.mono hHeld.size)
            have hbo7 : u3.heap.size < (u3.alloc (.cells #[.string ⟨#[]⟩, .string ⟨#[]⟩, .string ⟨#[]⟩, .string ⟨#[]⟩, .string ⟨#[]⟩, .string ⟨#[]⟩, .string ⟨#[]⟩, .string ⟨#[]⟩, .string ⟨#[]⟩, .string ⟨#[]⟩, .string ⟨#[]⟩, .string ⟨#[]⟩, .string ⟨#[]⟩, .string ⟨#[]⟩, .string ⟨#[]⟩, .string ⟨#[]⟩] 72)).heap.size := by rw [heap_size]; omega
            have hbw7 : W.heap.size ≤ u3.heap.size := hHeld.size
            have hbx8_n := (gb.block _ hbo8).trans hbx8
            clear hbx8
            have hbx8 := hbx8_n
            clear hbx8_n
            have hne : Y8 ≠ u3.heap.size := by omega
            have hbo8_n := Nat.lt_of_lt_of_le hbo8 gb.size
            clear hbo8
            have hbo8 := hbo8_n
            clear hbo8_n
            refine hK.out _ _ (fun _ => hT4) ?_
            clear hK K hHeld
            have hHeld := hT4
            clear gb
            try dsimp only [Act.put]
            generalize hW4 : u3.alloc (.cells #[.string ⟨#[]⟩, .string ⟨#[]⟩, .string ⟨#[]⟩, .string ⟨#[]⟩, .string ⟨#[]⟩, .string ⟨#[]⟩, .string ⟨#[]⟩, .string ⟨#[]⟩, .string ⟨#[]⟩, .string ⟨#[]⟩, .string ⟨#[]⟩, .string ⟨#[]⟩, .string ⟨#[]⟩, .string ⟨#[]⟩, .string ⟨#[]⟩, .string ⟨#[]⟩] 72) = u4 at *
            generalize hBx7 : u3.heap.size = Y7 at *
            clear hW4 hBx7
            have hn8 : Y8 ≠ Y7 := by first | exact hne | exact Ne.symm hne
            first | exact (key Y7 Y8 u4 hHeld hbx7 hbx8 hbw7 hbw8 hn8) | exact wpAnyL_cg rfl (by kernel_rfl) (by kernel_rfl) (key Y7 Y8 u4 hHeld hbx7 hbx8 hbw7 hbw8 hn8)
        · rw [if_pos (by rfl)]
          go_simp
          have gb := boxB u1 (.cells #[.string ⟨#[]⟩, .string ⟨#[]⟩, .string ⟨#[]⟩, .string ⟨#[]⟩, .string ⟨#[]⟩, .string ⟨#[]⟩, .string ⟨#[]⟩, .string ⟨#[]⟩, .string ⟨#[]⟩, .string ⟨#[]⟩, .string ⟨#[]⟩, .string ⟨#[]⟩, .string ⟨#[]⟩, .string ⟨#[]⟩, .string ⟨#[]⟩, .string ⟨#[]⟩] 72)
          have hbx7 := heap_last u1 (.cells #[.string ⟨#[]⟩, .string ⟨#[]⟩, .string ⟨#[]⟩, .string ⟨#[]⟩, .string ⟨#[]⟩, .string ⟨#[]⟩, .string ⟨#[]⟩, .string ⟨#[]⟩, .string ⟨#[]⟩, .string ⟨#[]⟩, .string ⟨#[]⟩, .string ⟨#[]⟩, .string ⟨#[]⟩, .string ⟨#[]⟩, .string ⟨#[]⟩, .string ⟨#[]⟩] 72)
          have hT2 : Below W.heap.size W (u1.alloc (.cells #[.string ⟨#[]⟩, .string ⟨#[]⟩, .string ⟨#[]⟩, .string ⟨#[]⟩, .string ⟨#[]⟩, .string ⟨#[]⟩, .string ⟨#[]⟩, .string ⟨#[]⟩, .string ⟨#[]⟩, .string ⟨#[]⟩, .string ⟨#[]⟩, .string ⟨#[]⟩, .string ⟨#[]⟩, .string ⟨#[]⟩, .string ⟨#[]⟩, .string ⟨#[]⟩] 72)) := hHeld.trans (gb.mono hHeld.size)
          have hbo7 : u1.heap.size < (u1.alloc (.cells #[.string ⟨#[]⟩, .string ⟨#[]⟩, .string ⟨#[]⟩, .string ⟨#[]⟩, .string ⟨#[]⟩, .string ⟨#[]⟩, .string ⟨#[]⟩, .string ⟨#[]⟩, .string ⟨#[]⟩, .string ⟨#[]⟩, .string ⟨#[]⟩, .string ⟨#[]⟩, .string ⟨#[]⟩, .string ⟨#[]⟩, .string ⟨#[]⟩, .string ⟨#[]⟩] 72)).heap.size := by rw [heap_size]; omega
          have hbw7 : W.heap.size ≤ u1.heap.size := hHeld.size
          refine hK.out _ _ (fun _ => hT2) ?_
          clear hK K hHeld
          have hHeld := hT2
          clear gb
          try dsimp only [Act.put]
          generalize hW2 : u1.alloc (.cells #[.string ⟨#[]⟩, .string ⟨#[]⟩, .string ⟨#[]⟩, .string ⟨#[]⟩, .string ⟨#[]⟩, .string ⟨#[]⟩, .string ⟨#[]⟩, .string ⟨#[]⟩, .string ⟨#[]⟩, .string ⟨#[]⟩, .string ⟨#[]⟩, .string ⟨#[]⟩, .string ⟨#[]⟩, .string ⟨#[]⟩, .string ⟨#[]⟩, .string ⟨#[]⟩] 72) = u2 at *
          generalize hBx7 : u1.heap.size = Y7 at *
          clear hW2 hBx7
          refine wpAnyL_two (i := 6) (j := 8) (by kernel_rfl) rfl rfl (fun K hK => ?_) (fun K hK => ?_)
          · rw [if_pos (by rfl)]
            go_simp
            go_wp2_with (go_at_call 45; refine (HLB.out _ hHeld).mono ?_; rintro e u3 ⟨rfl, gg⟩)
            have hT3 : Below W.heap.size W u3 := hHeld.trans (gg.mono hHeld.size)
            have hbx7_n := (gg.block _ hbo7).trans hbx7
            clear hbx7
            have hbx7 := hbx7_n
            clear hbx7_n
            have hbo7_n := Nat.lt_of_lt_of_le hbo7 gg.size
            clear hbo7
            have hbo7 := hbo7_n
            clear hbo7_n
            clear gg
            refine hK.out _ _ (fun _ => hT3) ?_
            clear hK K hHeld
            have hHeld := hT3
            try dsimp only [Act.put]
            refine wpAnyL_one (i := 8) (by kernel_rfl) rfl (fun K hK => ?_)
            rw [if_pos (by rfl)]
            go_simp
            have gb := boxB u3 (.cells #[.string ⟨#[]⟩, .string ⟨#[]⟩, .string ⟨#[]⟩, .string ⟨#[]⟩, .string ⟨#[]⟩, .string ⟨#[]⟩, .string ⟨#[]⟩, .string ⟨#[]⟩, .string ⟨#[]⟩, .string ⟨#[]⟩, .string ⟨#[]⟩, .string ⟨#[]⟩, .string ⟨#[]⟩, .string ⟨#[]⟩, .string ⟨#[]⟩, .string ⟨#[]⟩] 72)
            have hbx8 := heap_last u3 (.cells #[.string ⟨#[]⟩, .string ⟨#[]⟩, .string ⟨#[]⟩, .string ⟨#[]⟩, .string ⟨#[]⟩, .string ⟨#[]⟩, .string ⟨#[]⟩, .string ⟨#[]⟩, .string ⟨#[]⟩, .string ⟨#[]⟩, .string ⟨#[]⟩, .string ⟨#[]⟩, .string ⟨#[]⟩, .string ⟨#[]⟩, .string ⟨#[]⟩, .string ⟨#[]⟩] 72)
            have hT4 : Below W.heap.size W (u3.alloc (.cells #[.string ⟨#[]⟩, .string ⟨#[]⟩, .string ⟨#[]⟩, .string ⟨#[]⟩, .string ⟨#[]⟩, .string ⟨#[]⟩, .string ⟨#[]⟩, .string ⟨#[]⟩, .string ⟨#[]⟩, .string ⟨#[]⟩, .string ⟨#[]⟩, .string ⟨#[]⟩, .string ⟨#[]⟩, .string ⟨#[]⟩, .string ⟨#[]⟩, .string ⟨#[]⟩] 72)) := hHeld.trans (gb.mono hHeld.size)
            have hbo8 : u3.heap.size < (u3.alloc (.cells #[.string ⟨#[]⟩, .string ⟨#[]⟩, .string ⟨#[]⟩, .string ⟨#[]⟩, .string ⟨#[]⟩, .string ⟨#[]⟩, .string ⟨#[]⟩, .string ⟨#[]⟩, .string ⟨#[]⟩, .string ⟨#[]⟩, .string ⟨#[]⟩, .string ⟨#[]⟩, .string ⟨#[]⟩, .string ⟨#[]⟩, .string ⟨#[]⟩, .string ⟨#[]⟩] 72)).heap.size := by rw [heap_size]; omega
            have hbw8 : W.heap.size ≤ u3.heap.size := hHeld.size
            have hbx7_n := (gb.block _ hbo7).trans hbx7
            clear hbx7
            have hbx7 := hbx7_n
            clear hbx7_n
            have hne : Y7 ≠ u3.heap.size := by omega
            have hbo7_n := Nat.lt_of_lt_of_le hbo7 gb.size
            clear hbo7
            have hbo7 := hbo7_n
            clear hbo7_n
            refine hK.out _ _ (fun _ => hT4) ?_
            clear hK K hHeld
            have hHeld := hT4
            clear gb
            try dsimp only [Act.put]
            generalize hW4 : u3.alloc (.cells #[.string ⟨#[]⟩, .string ⟨#[]⟩, .string ⟨#[]⟩, .string ⟨#[]⟩, .string ⟨#[]⟩, .string ⟨#[]⟩, .string ⟨#[]⟩, .string ⟨#[]⟩, .string ⟨#[]⟩, .string ⟨#[]⟩, .string ⟨#[]⟩, .string ⟨#[]⟩, .string ⟨#[]⟩, .string ⟨#[]⟩, .string ⟨#[]⟩, .string ⟨#[]⟩] 72) = u4 at *
            generalize hBx8 : u3.heap.size = Y8 at *
            clear hW4 hBx8
            have hn8 : Y8 ≠ Y7 := by first | exact hne | exact Ne.symm hne
            first | exact (key Y7 Y8 u4 hHeld hbx7 hbx8 hbw7 hbw8 hn8) | exact wpAnyL_cg rfl (by kernel_rfl) (by kernel_rfl) (key Y7 Y8 u4 hHeld hbx7 hbx8 hbw7 hbw8 hn8)
          · rw [if_pos (by rfl)]
            go_simp
            have gb := boxB u2 (.cells #[.string ⟨#[]⟩, .string ⟨#[]⟩, .string ⟨#[]⟩, .string ⟨#[]⟩, .string ⟨#[]⟩, .string ⟨#[]⟩, .string ⟨#[]⟩, .string ⟨#[]⟩, .string ⟨#[]⟩, .string ⟨#[]⟩, .string ⟨#[]⟩, .string ⟨#[]⟩, .string ⟨#[]⟩, .string ⟨#[]⟩, .string ⟨#[]⟩, .string ⟨#[]⟩] 72)
            have hbx8 := heap_last u2 (.cells #[.string ⟨#[]⟩, .string ⟨#[]⟩, .string ⟨#[]⟩, .string ⟨#[]⟩, .string ⟨#[]⟩, .string ⟨#[]⟩, .string ⟨#[]⟩, .string ⟨#[]⟩, .string ⟨#[]⟩, .string ⟨#[]⟩, .string ⟨#[]⟩, .string ⟨#[]⟩, .string ⟨#[]⟩, .string ⟨#[]⟩, .string ⟨#[]⟩, .string ⟨#[]⟩] 72)
            have hT3 : Below W.heap.size W (u2.alloc (.cells #[.string ⟨#[]⟩, .string ⟨#[]⟩, .string ⟨#[]⟩, .string ⟨#[]⟩, .string ⟨#[]⟩, .string ⟨#[]⟩, .string ⟨#[]⟩, .string ⟨#[]⟩, .string ⟨#[]⟩, .string ⟨#[]⟩, .string ⟨#[]⟩, .string ⟨#[]⟩, .string ⟨#[]⟩, .string ⟨#[]⟩, .string ⟨#[]⟩, .string ⟨#[]⟩] 72)) := hHeld.trans (gb.mono hHeld.size)
            have hbo8 : u2.heap.size < (u2.alloc (.cells #[.string ⟨#[]⟩, .string ⟨#[]⟩, .string ⟨#[]⟩, .string ⟨#[]⟩, .string ⟨#[]⟩, .string ⟨#[]⟩, .string ⟨#[]⟩, .string ⟨#[]⟩, .string ⟨#[]⟩, .string ⟨#[]⟩, .string ⟨#[]⟩, .string ⟨#[]⟩, .string ⟨#[]⟩, .string ⟨#[]⟩, .string ⟨#[]⟩, .string ⟨#[]⟩] 72)).heap.size := by rw [heap_size]; omega
            have hbw8 : W.heap.size ≤ u2.heap.size := hHeld.size
            have hbx7_n := (gb.block _ hbo7).trans hbx7
            clear hbx7
            have hbx7 := hbx7_n
            clear hbx7_n
            have hne : Y7 ≠ u2.heap.size := by omega
            have hbo7_n := Nat.lt_of_lt_of_le hbo7 gb.size
            clear hbo7
            have hbo7 := hbo7_n
            clear hbo7_n
            refine hK.out _ _ (fun _ => hT3) ?_
            clear hK K hHeld
            have hHeld := hT3
            clear gb
            try dsimp only [Act.put]
            generalize hW3 : u2.alloc (.cells #[.string ⟨#[]⟩, .string ⟨#[]⟩, .string ⟨#[]⟩, .string ⟨#[]⟩, .string ⟨#[]⟩, .string ⟨#[]⟩, .string ⟨#[]⟩, .string ⟨#[]⟩, .string ⟨#[]⟩, .string ⟨#[]⟩, .string ⟨#[]⟩, .string ⟨#[]⟩, .string ⟨#[]⟩, .string ⟨#[]⟩, .string ⟨#[]⟩, .string ⟨#[]⟩] 72) = u3 at *
            generalize hBx8 : u2.heap.size = Y8 at *
            clear hW3 hBx8
            refine wpAnyL_one (i := 6) (by kernel_rfl) rfl (fun K hK => ?_)
            rw [if_pos (by rfl)]
            go_simp
            go_wp2_with (go_at_call 45; refine (HLB.out _ hHeld).mono ?_; rintro e u4 ⟨rfl, gg⟩)
            have hT4 : Below W.heap.size W u4 := hHeld.trans (gg.mono hHeld.size)
            have hbx7_n := (gg.block _ hbo7).trans hbx7
            clear hbx7
            have hbx7 := hbx7_n
            clear hbx7_n
            have hbo7_n := Nat.lt_of_lt_of_le hbo7 gg.size
            clear hbo7
            have hbo7 := hbo7_n
            clear hbo7_n
            have hbx8_n := (gg.block _ hbo8).trans hbx8
            clear hbx8
            have hbx8 := hbx8_n
            clear hbx8_n
            have hbo8_n := Nat.lt_of_lt_of_le hbo8 gg.size
            clear hbo8
            have hbo8 := hbo8_n
            clear hbo8_n
            clear gg
            refine hK.out _ _ (fun _ => hT4) ?_
            clear hK K hHeld
            have hHeld := hT4
            try dsimp only [Act.put]
            have hn8 : Y8 ≠ Y7 := by first | exact hne | exact Ne.symm hne
            first | exact (key Y7 Y8 u4 hHeld hbx7 hbx8 hbw7 hbw8 hn8) | exact wpAnyL_cg rfl (by kernel_rfl) (by kernel_rfl) (key Y7 Y8 u4 hHeld hbx7 hbx8 hbw7 hbw8 hn8)
        · rw [if_pos (by rfl)]
          go_simp
          have gb := boxB u1 (.cells #[.string ⟨#[]⟩, .string ⟨#[]⟩, .string ⟨#[]⟩, .string ⟨#[]⟩, .string ⟨#[]⟩, .string ⟨#[]⟩, .string ⟨#[]⟩, .string ⟨#[]⟩, .string ⟨#[]⟩, .string ⟨#[]⟩, .string ⟨#[]⟩, .string ⟨#[]⟩, .string ⟨#[]⟩, .string ⟨#[]⟩, .string ⟨#[]⟩, .string ⟨#[]⟩] 72)
          have hbx8 := heap_last u1 (.cells #[.string ⟨#[]⟩, .string ⟨#[]⟩, .string ⟨#[]⟩, .string ⟨#[]⟩, .string ⟨#[]⟩, .string ⟨#[]⟩, .string ⟨#[]⟩, .string ⟨#[]⟩, .string ⟨#[]⟩, .string ⟨#[]⟩, .string ⟨#[]⟩, .string ⟨#[]⟩, .string ⟨#[]⟩, .string ⟨#[]⟩, .string ⟨#[]⟩, .string ⟨#[]⟩] 72)
          have hT2 : Below W.heap.size W (u1.alloc (.cells #[.string ⟨#[]⟩, .string ⟨#[]⟩, .string ⟨#[]⟩, .string ⟨#[]⟩, .string ⟨#[]⟩, .string ⟨#[]⟩, .string ⟨#[]⟩, .string ⟨#[]⟩, .string ⟨#[]⟩, .string ⟨#[]⟩, .string ⟨#[]⟩, .string ⟨#[]⟩, .string ⟨#[]⟩, .string ⟨#[]⟩, .string ⟨#[]⟩, .string ⟨#[]⟩] 72)) := hHeld.trans (gb.mono hHeld.size)
          have hbo8 : u1.heap.size < (u1.alloc (.cells #[.string ⟨#[]⟩, .string ⟨#[]⟩, .string ⟨#[]⟩, .string ⟨#[]⟩, .string ⟨#[]⟩, .string ⟨#[]⟩, .string ⟨#[]⟩, .string ⟨#[]⟩, .string ⟨#[]⟩, .string ⟨#[]⟩, .string ⟨#[]⟩, .string ⟨#[]⟩, .string ⟨#[]⟩, .string ⟨#[]⟩, .string ⟨#[]⟩, .string ⟨#[]⟩] 72)).heap.size := by rw [heap_size]; omega
          have hbw8 : W.heap.size ≤ u1.heap.size := hHeld.size
          refine hK.out _ _ (fun _ => hT2) ?_
          clear hK K hHeld
          have hHeld := hT2
          clear gb
          try dsimp only [Act.put]
          generalize hW2 : u1.alloc (.cells #[.string ⟨#[]⟩, .string ⟨#[]⟩, .string ⟨#[]⟩, .string ⟨#[]⟩, .string ⟨#[]⟩, .string ⟨#[]⟩, .string ⟨#[]⟩, .string ⟨#[]⟩, .string ⟨#[]⟩, .string ⟨#[]⟩, .string ⟨#[]⟩, .string ⟨#[]⟩, .string ⟨#[]⟩, .string ⟨#[]⟩, .string ⟨#[]⟩, .string ⟨#[]⟩] 72) = u2 at *
          generalize hBx8 : u1.heap.size = Y8 at *
          clear hW2 hBx8
          refine wpAnyL_two (i := 6) (j := 7) (by kernel_rfl) rfl rfl (fun K hK => ?_) (fun K hK => ?_)
          · rw [if_pos (by rfl)]
            go_simp
            go_wp2_with (go_at_call 45; refine (HLB.out _ hHeld).mono ?_; rintro e u3 ⟨rfl, gg⟩)
            have hT3 : Below W.heap.size W u3 := hHeld.trans (gg.mono hHeld.size)
            have hbx8_n := (gg.block _ hbo8).trans hbx8
            clear hbx8
            have hbx8 := hbx8_n
            clear hbx8_n
            have hbo8_n := Nat.lt_of_lt_of_le hbo8 gg.size
            clear hbo8
            have hbo8 := hbo8_n
            clear hbo8_n
            clear gg
            refine hK.out _ _ (fun _ => hT3) ?_
            clear hK K hHeld
            have hHeld := hT3
            try dsimp only [Act.put]
            refine wpAnyL_one (i := 7) (by kernel_rfl) rfl (fun K hK => ?_)
            rw [if_pos (by rfl)]
            go_simp
            have gb := boxB u3 (.cells #[.string ⟨#[]⟩, .string ⟨#[]⟩, .string ⟨#[]⟩, .string ⟨#[]⟩, .string ⟨#[]⟩, .string ⟨#[]⟩, .string ⟨#[]⟩, .string ⟨#[]⟩, .string ⟨#[]⟩, .string ⟨#[]⟩, .string ⟨#[]⟩, .string ⟨#[]⟩, .string ⟨#[]⟩, .string ⟨#[]⟩, .string ⟨#[]⟩, .string ⟨#[]⟩] 72)
            have hbx7 := heap_last u3 (.cells #[.string ⟨#[]⟩, .string ⟨#[]⟩, .string ⟨#[]⟩, .string ⟨#[]⟩, .string ⟨#[]⟩, .string ⟨#[]⟩, .string ⟨#[]⟩, .string ⟨#[]⟩, .string ⟨#[]⟩, .string ⟨#[]⟩, .string ⟨#[]⟩, .string ⟨#[]⟩, .string ⟨#[]⟩, .string ⟨#[]⟩, .string ⟨#[]⟩, .string ⟨#[]⟩] 72)
            have hT4 : Below W.heap.size W (u3.alloc (.cells #[.string ⟨#[]⟩, .string ⟨#[]⟩, .string ⟨#[]⟩, .string ⟨#[]⟩, .string ⟨#[]⟩, .string ⟨#[]⟩, .string ⟨#[]⟩, .string ⟨#[]⟩, .string ⟨#[]⟩, .string ⟨#[]⟩, .string ⟨#[]⟩, .string ⟨#[]⟩, .string ⟨#[]⟩, .string ⟨#[]⟩, .string ⟨#[]⟩, .string ⟨#[]⟩] 72)) := hHeld.trans (gb.mono hHeld.size)
            have hbo7 : u3.heap.size < (u3.alloc (.cells #[.string ⟨#[]⟩, .string ⟨#[]⟩, .string ⟨#[]⟩, .string ⟨#[]⟩, .string ⟨#[]⟩, .string ⟨#[]⟩, .string ⟨#[]⟩, .string ⟨#[]⟩, .string ⟨#[]⟩, .string ⟨#[]⟩, .string ⟨#[]⟩, .string ⟨#[]⟩, .string ⟨#[]⟩, .string ⟨#[]⟩, .string ⟨#[]⟩, .string ⟨#[]⟩] 72)).heap.size := by rw [heap_size]; omega
            have hbw7 : W.heap.size ≤ u3.heap.size := hHeld.size
            have hbx8_n := (gb.block _ hbo8).trans hbx8
            clear hbx8
            have hbx8 := hbx8_n
            clear hbx8_n
            have hne : Y8 ≠ u3.heap.size := by omega
            have hbo8_n := Nat.lt_of_lt_of_le hbo8 gb.size
            clear hbo8
            have hbo8 := hbo8_n
            clear hbo8_n
            refine hK.out _ _ (fun _ => hT4) ?_
            clear hK K hHeld
            have hHeld := hT4
            clear gb
            try dsimp only [Act.put]
            generalize hW4 : u3.alloc (.cells #[.string ⟨#[]⟩, .string ⟨#[]⟩, .string ⟨#[]⟩, .string ⟨#[]⟩, .string ⟨#[]⟩, .string ⟨#[]⟩, .string ⟨#[]⟩, .string ⟨#[]⟩, .string ⟨#[]⟩, .string ⟨#[]⟩, .string ⟨#[]⟩, .string ⟨#[]⟩, .string ⟨#[]⟩, .string ⟨#[]⟩, .string ⟨#[]⟩, .string ⟨#[]⟩] 72) = u4 at *
            generalize hBx7 : u3.heap.size = Y7 at *
            clear hW4 hBx7
            have hn8 : Y8 ≠ Y7 := by first | exact hne | exact Ne.symm hne
            first | exact (key Y7 Y8 u4 hHeld hbx7 hbx8 hbw7 hbw8 hn8) | exact wpAnyL_cg rfl (by kernel_rfl) (by kernel_rfl) (key Y7 Y8 u4 hHeld hbx7 hbx8 hbw7 hbw8 hn8)
          · rw [if_pos (by rfl)]
            go_simp
            have gb := boxB u2 (.cells #[.string ⟨#[]⟩, .string ⟨#[]⟩, .string ⟨#[]⟩, .string ⟨#[]⟩, .string ⟨#[]⟩, .string ⟨#[]⟩, .string ⟨#[]⟩, .string ⟨#[]⟩, .string ⟨#[]⟩, .string ⟨#[]⟩, .string ⟨#[]⟩, .string ⟨#[]⟩, .string ⟨#[]⟩, .string ⟨#[]⟩, .string ⟨#[]⟩, .string ⟨#[]⟩] 72)
            have hbx7 := heap_last u2 (.cells #[.string ⟨#[]⟩, .string ⟨#[]⟩, .string ⟨#[]⟩, .string ⟨#[]⟩, .string ⟨#[]⟩, .string ⟨#[]⟩, .string ⟨#[]⟩, .string ⟨#[]⟩, .string ⟨#[]⟩, .string ⟨#[]⟩, .string ⟨#[]⟩, .string ⟨#[]⟩, .string ⟨#[]⟩, .string ⟨#[]⟩, .string ⟨#[]⟩, .string ⟨#[]⟩] 72)
            have hT3 : Below W.heap.size W (u2.alloc (.cells #[.string ⟨#[]⟩, .string ⟨#[]⟩, .string ⟨#[]⟩, .string ⟨#[]⟩, .string ⟨#[]⟩, .string ⟨#[]⟩, .string ⟨#[]⟩, .string ⟨#[]⟩, .string ⟨#[]⟩, .string ⟨#[]⟩, .string ⟨#[]⟩, .string ⟨#[]⟩, .string ⟨#[]⟩, .string ⟨#[]⟩, .string ⟨#[]⟩, .string ⟨#[]⟩] 72)) := hHeld.trans (gb.mono hHeld.size)
            have hbo7 : u2.heap.size < (u2.alloc (.cells #[.string ⟨#[]⟩, .string ⟨#[]⟩, .string ⟨#[]⟩, .string ⟨#[]⟩, .string ⟨#[]⟩, .string ⟨#[]⟩, .string ⟨#[]⟩, .string ⟨#[]⟩, .string ⟨#[]⟩, .string ⟨#[]⟩, .string ⟨#[]⟩, .string ⟨#[]⟩, .string ⟨#[]⟩, .string ⟨#[]⟩, .string ⟨#[]⟩, .string ⟨#[]⟩] 72)).heap.size := by rw [heap_size]; omega
            have hbw7 : W.heap.size ≤ u2.heap.size := hHeld.size
            have hbx8_n := (gb.block _ hbo8).trans hbx8
            clear hbx8
            have hbx8 := hbx8_n
            clear hbx8_n
            have hne : Y8 ≠ u2.heap.size := by omega
            have hbo8_n := Nat.lt_of_lt_of_le hbo8 gb.size
            clear hbo8
            have hbo8 := hbo8_n
            clear hbo8_n
            refine hK.out _ _ (fun _ => hT3) ?_
            clear hK K hHeld
            have hHeld := hT3
            clear gb
            try dsimp only [Act.put]
            generalize hW3 : u2.alloc (.cells #[.string ⟨#[]⟩, .string ⟨#[]⟩, .string ⟨#[]⟩, .string ⟨#[]⟩, .string ⟨#[]⟩, .string ⟨#[]⟩, .string ⟨#[]⟩, .string ⟨#[]⟩, .string ⟨#[]⟩, .string ⟨#[]⟩, .string ⟨#[]⟩, .string ⟨#[]⟩, .string ⟨#[]⟩, .string ⟨#[]⟩, .string ⟨#[]⟩, .string ⟨#[]⟩] 72) = u3 at *
            generalize hBx7 : u2.heap.size = Y7 at *
            clear hW3 hBx7
            refine wpAnyL_one (i := 6) (by kernel_rfl) rfl (fun K hK => ?_)
            rw [if_pos (by rfl)]
            go_simp
            go_wp2_with (go_at_call 45; refine (HLB.out _ hHeld).mono ?_; rintro e u4 ⟨rfl, gg⟩)
            have hT4 : Below W.heap.size W u4 := hHeld.trans (gg.mono hHeld.size)
            have hbx8_n := (gg.block _ hbo8).trans hbx8
            clear hbx8
            have hbx8 := hbx8_n
            clear hbx8_n
            have hbo8_n := Nat.lt_of_lt_of_le hbo8 gg.size
            clear hbo8
            have hbo8 := hbo8_n
            clear hbo8_n
            have hbx7_n := (gg.block _ hbo7).trans hbx7
            clear hbx7
            have hbx7 := hbx7_n
            clear hbx7_n
            have hbo7_n := Nat.lt_of_lt_of_le hbo7 gg.size
            clear hbo7
            have hbo7 := hbo7_n
            clear hbo7_n
            clear gg
            refine hK.out _ _ (fun _ => hT4) ?_
            clear hK K hHeld
            have hHeld := hT4
            try dsimp only [Act.put]
            have hn8 : Y8 ≠ Y7 := by first | exact hne | exact Ne.symm hne
            first | exact (key Y7 Y8 u4 hHeld hbx7 hbx8 hbw7 hbw8 hn8) | exact wpAnyL_cg rfl (by kernel_rfl) (by kernel_rfl) (key Y7 Y8 u4 hHeld hbx7 hbx8 hbw7 hbw8 hn8)
      · rw [if_pos (by rfl)]
        go_simp
        have gb := boxB Wd (.cells #[.string ⟨#[]⟩, .string ⟨#[]⟩, .string ⟨#[]⟩, .string ⟨#[]⟩, .string ⟨#[]⟩, .string ⟨#[]⟩, .string ⟨#[]⟩, .string ⟨#[]⟩, .string ⟨#[]⟩, .string ⟨#[]⟩, .string ⟨#[]⟩, .string ⟨#[]⟩, .string ⟨#[]⟩, .string ⟨#[]⟩, .string ⟨#[]⟩, .string ⟨#[]⟩] 72)
        have hbx7 := heap_last Wd (.cells #[.string ⟨#[]⟩, .string ⟨#[]⟩, .string ⟨#[]⟩, .string ⟨#[]⟩, .string ⟨#[]⟩, .string ⟨#[]⟩, .string ⟨#[]⟩, .string ⟨#[]⟩, .string ⟨#[]⟩, .string ⟨#[]⟩, .string ⟨#[]⟩, .string ⟨#[]⟩, .string ⟨#[]⟩, .string ⟨#[]⟩, .string ⟨#[]⟩, .string ⟨#[]⟩] 72)
        have hT1 : Below W.heap.size W (Wd.alloc (.cells #[.string ⟨#[]⟩, .string ⟨#[]⟩, .string ⟨#[]⟩, .string ⟨#[]⟩, .string ⟨#[]⟩, .string ⟨#[]⟩, .string ⟨#[]⟩, .string ⟨#[]⟩, .string ⟨#[]⟩, .string ⟨#[]⟩, .string ⟨#[]⟩, .string ⟨#[]⟩, .string ⟨#[]⟩, .string ⟨#[]⟩, .string ⟨#[]⟩, .string ⟨#[]⟩] 72)) := hHeld.trans (gb.mono hHeld.size)
        have hbo7 : Wd.heap.size < (Wd.alloc (.cells #[.string ⟨#[]⟩, .string ⟨#[]⟩, .string ⟨#[]⟩, .string ⟨#[]⟩, .string ⟨#[]⟩, .string ⟨#[]⟩, .string ⟨#[]⟩, .string ⟨#[]⟩, .string ⟨#[]⟩, .string ⟨#[]⟩, .string ⟨#[]⟩, .string ⟨#[]⟩, .string ⟨#[]⟩, .string ⟨#[]⟩, .string ⟨#[]⟩, .string ⟨#[]⟩] 72)).heap.size := by rw [heap_size]; omega
        have hbw7 : W.heap.size ≤ Wd.heap.size := hHeld.size
        refine hK.out _ _ (fun _ => hT1) ?_
        clear hK K hHeld
        have hHeld := hT1
        clear gb
        try dsimp only [Act.put]
        generalize hW1 : Wd.alloc (.cells #[.string ⟨#[]⟩, .string ⟨#[]⟩, .string ⟨#[]⟩, .string ⟨#[]⟩, .string ⟨#[]⟩, .string ⟨#[]⟩, .string ⟨#[]⟩, .string ⟨#[]⟩, .string ⟨#[]⟩, .string ⟨#[]⟩, .string ⟨#[]⟩, .string ⟨#[]⟩, .string ⟨#[]⟩, .string ⟨#[]⟩, .string ⟨#[]⟩, .string ⟨#[]⟩] 72) = u1 at *
        generalize hBx7 : Wd.heap.size = Y7 at *
        clear hW1 hBx7
        refine wpAnyL_two (i := 4) (j := 8) (by kernel_rfl) rfl rfl (fun K hK => ?_) (fun K hK => ?_)
        · rw [if_pos (by rfl)]
          go_simp
          go_wp2_with (go_at_call 45; refine (HLA.out _ hHeld).mono ?_; rintro e u2 ⟨rfl, gg⟩)
          have hT2 : Below W.heap.size W u2 := hHeld.trans (gg.mono hHeld.size)
          have hbx7_n := (gg.block _ hbo7).trans hbx7
          clear hbx7
          have hbx7 := hbx7_n
          clear hbx7_n
          have hbo7_n := Nat.lt_of_lt_of_le hbo7 gg.size
          clear hbo7
          have hbo7 := hbo7_n
          clear hbo7_n
          clear gg
          refine hK.out _ _ (fun _ => hT2) ?_
          clear hK K hHeld
          have hHeld := hT2
          try dsimp only [Act.put]
          refine wpAnyL_two (i := 6) (j := 8) (by kernel_rfl) rfl rfl (fun K hK => ?_) (fun K hK => ?_)
          · rw [if_pos (by rfl)]
            go_simp
            go_wp2_with (go_at_call 45; refine (HLB.out _ hHeld).mono ?_; rintro e u3 ⟨rfl, gg⟩)
            have hT3 : Below W.heap.size W u3 := hHeld.trans (gg.mono hHeld.size)
            have hbx7_n := (gg.block _ hbo7).trans hbx7
            clear hbx7
            have hbx7 := hbx7_n
            clear hbx7_n
            have hbo7_n := Nat.lt_of_lt_of_le hbo7 gg.size
            clear hbo7
            have hbo7 := hbo7_n
            clear hbo7_n
            clear gg
            refine hK.out _ _ (fun _ => hT3) ?_
            clear hK K hHeld
            have hHeld := hT3
            try dsimp only [Act.put]
            refine wpAnyL_one (i := 8) (by kernel_rfl) rfl (fun K hK => ?_)
            rw [if_pos (by rfl)]
            go_simp
            have gb := boxB u3 (.cells #[.string ⟨#[]⟩, .string ⟨#[]⟩, .string ⟨#[]⟩, .string ⟨#[]⟩, .string ⟨#[]⟩, .string ⟨#[]⟩, .string ⟨#[]⟩, .string ⟨#[]⟩, .string ⟨#[]⟩, .string ⟨#[]⟩, .string ⟨#[]⟩, .string ⟨#[]⟩, .string ⟨#[]⟩, .string ⟨#[]⟩, .string ⟨#[]⟩, .string ⟨#[]⟩] 72)
            have hbx8 := heap_last u3 (.cells #[.string ⟨#[]⟩, .string ⟨#[]⟩, .string ⟨#[]⟩, .string ⟨#[]⟩, .string ⟨#[]⟩, .string ⟨#[]⟩, .string ⟨#[]⟩, .string ⟨#[]⟩, .string ⟨#[]⟩, .string ⟨#[]⟩, .string ⟨#[]⟩, .string ⟨#[]⟩, .string ⟨#[]⟩, .string ⟨#[]⟩, .string ⟨#[]⟩, .string ⟨#[]⟩] 72)
            have hT4 : Below W.heap.size W (u3.alloc (.cells #[.string ⟨#[]⟩, .string ⟨#[]⟩, .string ⟨#[]⟩, .string ⟨#[]⟩, .string ⟨#[]⟩, .string ⟨#[]⟩, .string ⟨#[]⟩, .string ⟨#[]⟩, .string ⟨#[]⟩, .string ⟨#[]⟩, .string ⟨#[]⟩, .string ⟨#[]⟩, .string ⟨#[]⟩, .string ⟨#[]⟩, .string ⟨#[]⟩, .string ⟨#[]⟩] 72)) := hHeld.trans (gb.mono hHeld.size)
            have hbo8 : u3.heap.size < (u3.alloc (.cells #[.string ⟨#[]⟩, .string ⟨#[]⟩, .string ⟨#[]⟩, .string ⟨#[]⟩, .string ⟨#[]⟩, .string ⟨#[]⟩, .string ⟨#[]⟩, .string ⟨#[]⟩, .string ⟨#[]⟩, .string ⟨#[]⟩, .string ⟨#[]⟩, .string ⟨#[]⟩, .string ⟨#[]⟩, .string ⟨#[]⟩, .string ⟨#[]⟩, .string ⟨#[]⟩] 72)).heap.size := by rw [heap_size]; omega
            have hbw8 : W.heap.size ≤ u3.heap.size := hHeld.size
            have hbx7_n := (gb.block _ hbo7).trans hbx7
            clear hbx7
            have hbx7 := hbx7_n
            clear hbx7_n
            have hne : Y7 ≠ u3.heap.size := by omega
            have hbo7_n := Nat.lt_of_lt_of_le hbo7 gb.size
            clear hbo7
            have hbo7 := hbo7_n
            clear hbo7_n
            refine hK.out _ _ (fun _ => hT4) ?_
            clear hK K hHeld
            have hHeld := hT4
            clear gb
            try dsimp only [Act.put]
            generalize hW4 : u3.alloc (.cells #[.string ⟨#[]⟩, .string ⟨#[]⟩, .string ⟨#[]⟩, .string ⟨#[]⟩, .string ⟨#[]⟩, .string ⟨#[]⟩, .string ⟨#[]⟩, .string ⟨#[]⟩, .string ⟨#[]⟩, .string ⟨#[]⟩, .string ⟨#[]⟩, .string ⟨#[]⟩, .string ⟨#[]⟩, .string ⟨#[]⟩, .string ⟨#[]⟩, .string ⟨#[]⟩] 72) = u4 at *
            generalize hBx8 : u3.heap.size = Y8 at *
            clear hW4 hBx8
            have hn8 : Y8 ≠ Y7 := by first | exact hne | exact Ne.symm hne
            first | exact (key Y7 Y8 u4 hHeld hbx7 hbx8 hbw7 hbw8 hn8) | exact wpAnyL_cg rfl (by kernel_rfl) (by kernel_rfl) (key Y7 Y8 u4 hHeld hbx7 hbx8 hbw7 hbw8 hn8)
          · rw [if_pos (by rfl)]
            go_simp
            have gb := boxB u2 (.cells #[.string ⟨#[]⟩, .string ⟨#[]⟩, .string ⟨#[]⟩, .string ⟨#[]⟩, .string ⟨#[]⟩, .string ⟨#[]⟩, .string ⟨#[]⟩, .string ⟨#[]⟩, .string ⟨#[]⟩, .string ⟨#[]⟩, .string ⟨#[]⟩, .string ⟨#[]⟩, .string ⟨#[]⟩, .string ⟨#[]⟩, .string ⟨#[]⟩, .string ⟨#[]⟩] 72)
            have hbx8 := heap_last u2 (.cells #[.string ⟨#[]⟩, .string ⟨#[]⟩, .string ⟨#[]⟩, .string ⟨#[]⟩, .string ⟨#[]⟩, .string ⟨#[]⟩, .string ⟨#[]⟩, .string ⟨#[]⟩, .string ⟨#[]⟩, .string ⟨#[]⟩, .string ⟨#[]⟩, .string ⟨#[]⟩, .string ⟨#[]⟩, .string ⟨#[]⟩, .string ⟨#[]⟩, .string ⟨#[]⟩] 72)
            have hT3 : Below W.heap.size W (u2.alloc (.cells #[.string ⟨#[]⟩, .string ⟨#[]⟩, .string ⟨#[]⟩, .string ⟨#[]⟩, .string ⟨#[]⟩, .string ⟨#[]⟩, .string ⟨#[]⟩, .string ⟨#[]⟩, .string ⟨#[]⟩, .string ⟨#[]⟩, .string ⟨#[]⟩, .string ⟨#[]⟩, .string ⟨#[]⟩, .string ⟨#[]⟩, .string ⟨#[]⟩, .string ⟨#[]⟩] 72)) := hHeld.trans (gb.mono hHeld.size)
            have hbo8 : u2.heap.size < (u2.alloc (.cells #[.string ⟨#[]⟩, .string ⟨#[]⟩, .string ⟨#[]⟩, .string ⟨#[]⟩, .string ⟨#[]⟩, .string ⟨#[]⟩, .string ⟨#[]⟩, .string ⟨#[]⟩, .string ⟨#[]⟩, .string ⟨#[]⟩, .string ⟨#[]⟩, .string ⟨#[]⟩, .string ⟨#[]⟩, .string ⟨#[]⟩, .string ⟨#[]⟩, .string ⟨#[]⟩] 72)).heap.size := by rw [heap_size]; omega
            have hbw8 : W.heap.size ≤ u2.heap.size := hHeld.size
            have hbx7_n := (gb.block _ hbo7).trans hbx7
            clear hbx7
            have hbx7 := hbx7_n
            clear hbx7_n
            have hne : Y7 ≠ u2.heap.size := by omega
            have hbo7_n := Nat.lt_of_lt_of_le hbo7 gb.size
            clear hbo7
            have hbo7 := hbo7_n
            clear hbo7_n
            refine hK.out _ _ (fun _ => hT3) ?_
            clear hK K hHeld
            have hHeld := hT3
            clear gb
            try dsimp only [Act.put]
            generalize hW3 : u2.alloc (.cells #[.string ⟨#[]⟩, .string ⟨#[]⟩, .string ⟨#[]⟩, .string ⟨#[]⟩, .string ⟨#[]⟩, .string ⟨#[]⟩, .string ⟨#[]⟩, .string ⟨#[]⟩, .string ⟨#[]⟩, .string ⟨#[]⟩, .string ⟨#[]⟩, .string ⟨#[]⟩, .string ⟨#[]⟩, .string ⟨#[]⟩, .string ⟨#[]⟩, .string ⟨#[]⟩] 72) = u3 at *
            generalize hBx8 : u2.heap.size = Y8 at *
            clear hW3 hBx8
            refine wpAnyL_one (i := 6) (by kernel_rfl) rfl (fun K hK => ?_)
            rw [if_pos (by rfl)]
            go_simp
            go_wp2_with (go_at_call 45; refine (HLB.out _ hHeld).mono ?_; rintro e u4 ⟨rfl, gg⟩)
            have hT4 : Below W.heap.size W u4 := hHeld.trans (gg.mono hHeld.size)
            have hbx7_n := (gg.block _ hbo7).trans hbx7
            clear hbx7
            have hbx7 := hbx7_n
            clear hbx7_n
            have hbo7_n := Nat.lt_of_lt_of_le hbo7 gg.size
            clear hbo7
            have hbo7 := hbo7_n
            clear hbo7_n
            have hbx8_n := (gg.block _ hbo8).trans hbx8
            clear hbx8
            have hbx8 := hbx8_n
            clear hbx8_n
            have hbo8_n := Nat.lt_of_lt_of_le hbo8 gg.size
            clear hbo8
            have hbo8 := hbo8_n
            clear hbo8_n
            clear gg
            refine hK.out _ _ (fun _ => hT4) ?_
            clear hK K hHeld
            have hHeld := hT4
            try dsimp only [Act.put]
            have hn8 : Y8 ≠ Y7 := by first | exact hne | exact Ne.symm hne
            first | exact (key Y7 Y8 u4 hHeld hbx7 hbx8 hbw7 hbw8 hn8) | exact wpAnyL_cg rfl (by kernel_rfl) (by kernel_rfl) (key Y7 Y8 u4 hHeld hbx7 hbx8 hbw7 hbw8 hn8)
        · rw [if_pos (by rfl)]
          go_simp
          have gb := boxB u1 (.cells #[.string ⟨#[]⟩, .string ⟨#[]⟩, .string ⟨#[]⟩, .string ⟨#[]⟩, .string ⟨#[]⟩, .string ⟨#[]⟩, .string ⟨#[]⟩, .string ⟨#[]⟩, .string ⟨#[]⟩, .string ⟨#[]⟩, .string ⟨#[]⟩, .string ⟨#[]⟩, .string ⟨#[]⟩, .string ⟨#[]⟩, .string ⟨#[]⟩, .string ⟨#[]⟩] 72)
          have hbx8 := heap_last u1 (.cells #[.string ⟨#[]⟩, .string ⟨#[]⟩, .string ⟨#[]⟩, .string ⟨#[]⟩, .string ⟨#[]⟩, .string ⟨#[]⟩, .string ⟨#[]⟩, .string ⟨#[]⟩, .string ⟨#[]⟩, .string ⟨#[]⟩, .string ⟨#[]⟩, .string ⟨#[]⟩, .string ⟨#[]⟩, .string ⟨#[]⟩, .string ⟨#[]⟩, .string ⟨#[]⟩] 72)
          have hT2 : Below W.heap.size W (u1.alloc (.cells #[.string ⟨#[]⟩, .string ⟨#[]⟩, .string ⟨#[]⟩, .string ⟨#[]⟩, .string ⟨#[]⟩, .string ⟨#[]⟩, .string ⟨#[]⟩, .string ⟨#[]⟩, .string ⟨#[]⟩, .string ⟨#[]⟩, .string ⟨#[]⟩, .string ⟨#[]⟩, .string ⟨#[]⟩, .string ⟨#[]⟩, .string ⟨#[]⟩, .string ⟨#[]⟩] 72)) := hHeld.trans (gb.mono hHeld.size)
          have hbo8 : u1.heap.size < (u1.alloc (.cells #[.string ⟨#[]⟩, .string ⟨#[]⟩, .string ⟨#[]⟩, .string ⟨#[]⟩, .string ⟨#[]⟩, .string ⟨#[]⟩, .string ⟨#[]⟩, .string ⟨#[]⟩, .string ⟨#[]⟩, .string ⟨#[]⟩, .string ⟨#[]⟩, .string ⟨#[]⟩, .string ⟨#[]⟩, .string ⟨#[]⟩, .string ⟨#[]⟩, .string ⟨#[]⟩] 72)).heap.size := by rw [heap_size]; omega
          have hbw8 : W.heap.size ≤ u1.heap.size := hHeld.size
          have hbx7_n := (gb.block _ hbo7).trans hbx7
          clear hbx7
          have hbx7 := hbx7_n
          clear hbx7_n
          have hne : Y7 ≠ u1.heap.size := by omega
          have hbo7_n := Nat.lt_of_lt_of_le hbo7 gb.size
          clear hbo7
          have hbo7 := hbo7_n
          clear hbo7_n
          refine hK.out _ _ (fun _ => hT2) ?_
          clear hK K hHeld
          have hHeld := hT2
          clear gb
          try dsimp only [Act.put]
          generalize hW2 : u1.alloc (.cells #[.string ⟨#[]⟩, .string ⟨#[]⟩, .string ⟨#[]⟩, .string ⟨#[]⟩, .string ⟨#[]⟩, .string ⟨#[]⟩, .string ⟨#[]⟩, .string ⟨#[]⟩, .string ⟨#[]⟩, .string ⟨#[]⟩, .string ⟨#[]⟩, .string ⟨#[]⟩, .string ⟨#[]⟩, .string ⟨#[]⟩, .string ⟨#[]⟩, .string ⟨#[]⟩] 72) = u2 at *
          generalize hBx8 : u1.heap.size = Y8 at *
          clear hW2 hBx8
          refine wpAnyL_one (i := 4) (by kernel_rfl) rfl (fun K hK => ?_)
          rw [if_pos (by rfl)]
          go_simp
          go_wp2_with (go_at_call 45; refine (HLA.out _ hHeld).mono ?_; rintro e u3 ⟨rfl, gg⟩)
          have hT3 : Below W.heap.size W u3 := hHeld.trans (gg.mono hHeld.size)
          have hbx7_n := (gg.block _ hbo7).trans hbx7
          clear hbx7
          have hbx7 := hbx7_n
          clear hbx7_n
          have hbo7_n := Nat.lt_of_lt_of_le hbo7 gg.size
          clear hbo7
          have hbo7 := hbo7_n
          clear hbo7_n
          have hbx8_n := (gg.block _ hbo8).trans hbx8
          clear hbx8
          have hbx8 := hbx8_n
          clear hbx8_n
          have hbo8_n := Nat.lt_of_lt_of_le hbo8 gg.size
          clear hbo8
          have hbo8 := hbo8_n
          clear hbo8_n
          clear gg
          refine hK.out _ _ (fun _ => hT3) ?_
          clear hK K hHeld
          have hHeld := hT3
          try dsimp only [Act.put]
          refine wpAnyL_one (i := 6) (by kernel_rfl) rfl (fun K hK => ?_)
          rw [if_pos (by rfl)]
          go_simp
          go_wp2_with (go_at_call 45; refine (HLB.out _ hHeld).mono ?_; rintro e u4 ⟨rfl, gg⟩)
          have hT4 : Below W.heap.size W u4 := hHeld.trans (gg.mono hHeld.size)
          have hbx7_n := (gg.block _ hbo7).trans hbx7
          clear hbx7
          have hbx7 := hbx7_n
          clear hbx7_n
          have hbo7_n := Nat.lt_of_lt_of_le hbo7 gg.size
          clear hbo7
          have hbo7 := hbo7_n
          clear hbo7_n
          have hbx8_n := (gg.block _ hbo8).trans hbx8
          clear hbx8
          have hbx8 := hbx8_n
          clear hbx8_n
          have hbo8_n := Nat.lt_of_lt_of_le hbo8 gg.size
          clear hbo8
          have hbo8 := hbo8_n
          clear hbo8_n
          clear gg
          refine hK.out _ _ (fun _ => hT4) ?_
          clear hK K hHeld
          have hHeld := hT4
          try dsimp only [Act.put]
          have hn8 : Y8 ≠ Y7 := by first | exact hne | exact Ne.symm hne
          first | exact (key Y7 Y8 u4 hHeld hbx7 hbx8 hbw7 hbw8 hn8) | exact wpAnyL_cg rfl (by kernel_rfl) (by kernel_rfl) (key Y7 Y8 u4 hHeld hbx7 hbx8 hbw7 hbw8 hn8)
      · rw [if_pos (by rfl)]
        go_simp
        have gb := boxB Wd (.cells #[.string ⟨#[]⟩, .string ⟨#[]⟩, .string ⟨#[]⟩, .string ⟨#[]⟩, .string ⟨#[]⟩, .string ⟨#[]⟩, .string ⟨#[]⟩, .string ⟨#[]⟩, .string ⟨#[]⟩, .string ⟨#[]⟩, .string ⟨#[]⟩, .string ⟨#[]⟩, .string ⟨#[]⟩, .string ⟨#[]⟩, .string ⟨#[]⟩, .string ⟨#[]⟩] 72)
        have hbx8 := heap_last Wd (.cells #[.string ⟨#[]⟩, .string ⟨#[]⟩, .string ⟨#[]⟩, .string ⟨#[]⟩, .string ⟨#[]⟩, .string ⟨#[]⟩, .string ⟨#[]⟩, .string ⟨#[]⟩, .string ⟨#[]⟩, .string ⟨#[]⟩, .string ⟨#[]⟩, .string ⟨#[]⟩, .string ⟨#[]⟩, .string ⟨#[]⟩, .string ⟨#[]⟩, .string ⟨#[]⟩] 72)
        have hT1 : Below W.heap.size W (Wd.alloc (.cells #[.string ⟨#[]⟩, .string ⟨#[]⟩, .string ⟨#[]⟩, .string ⟨#[]⟩, .string ⟨#[]⟩, .string ⟨#[]⟩, .string ⟨#[]⟩, .string ⟨#[]⟩, .string ⟨#[]⟩, .string ⟨#[]⟩, .string ⟨#[]⟩, .string ⟨#[]⟩, .string ⟨#[]⟩, .string ⟨#[]⟩, .string ⟨#[]⟩, .string ⟨#[]⟩] 72)) := hHeld.trans (gb.mono hHeld.size)
        have hbo8 : Wd.heap.size < (Wd.alloc (.cells #[.string ⟨#[]⟩, .string ⟨#[]⟩, .string ⟨#[]⟩, .string ⟨#[]⟩, .string ⟨#[]⟩, .string ⟨#[]⟩, .string ⟨#[]⟩, .string ⟨#[]⟩, .string ⟨#[]⟩, .string ⟨#[]⟩, .string ⟨#[]⟩, .string ⟨#[]⟩, .string ⟨#[]⟩, .string ⟨#[]⟩, .string ⟨#[]⟩, .string ⟨#[]⟩] 72)).heap.size := by rw [heap_size]; omega
        have hbw8 : W.heap.size ≤ Wd.heap.size := hHeld.size
        refine hK.out _ _ (fun _ => hT1) ?_
        clear hK K hHeld
        have hHeld := hT1
        clear gb
        try dsimp only [Act.put]
        generalize hW1 : Wd.alloc (.cells #[.string ⟨#[]⟩, .string ⟨#[]⟩, .string ⟨#[]⟩, .string ⟨#[]⟩, .string ⟨#[]⟩, .string ⟨#[]⟩, .string ⟨#[]⟩, .string ⟨#[]⟩, .string ⟨#[]⟩, .string ⟨#[]⟩, .string ⟨#[]⟩, .string ⟨#[]⟩, .string ⟨#[]⟩, .string ⟨#[]⟩, .string ⟨#[]⟩, .string ⟨#[]⟩] 72) = u1 at *
        generalize hBx8 : Wd.heap.size = Y8 at *
        clear hW1 hBx8
        refine wpAnyL_two (i := 4) (j := 7) (by kernel_rfl) rfl rfl (fun K hK => ?_) (fun K hK => ?_)
        · rw [if_pos (by rfl)]
          go_simp
          go_wp2_with (go_at_call 45; refine (HLA.out _ hHeld).mono ?_; rintro e u2 ⟨rfl, gg⟩)
          have hT2 : Below W.heap.size W u2 := hHeld.trans (gg.mono hHeld.size)
          have hbx8_n := (gg.block _ hbo8).trans hbx8
          clear hbx8
          have hbx8 := hbx8_n
          clear hbx8_n
          have hbo8_n := Nat.lt_of_lt_of_le hbo8 gg.size
          clear hbo8
          have hbo8 := hbo8_n
          clear hbo8_n
          clear gg
          refine hK.out _ _ (fun _ => hT2) ?_
          clear hK K hHeld
          have hHeld := hT2
          try dsimp only [Act.put]
          refine wpAnyL_two (i := 6) (j := 7) (by kernel_rfl) rfl rfl (fun K hK => ?_) (fun K hK => ?_)
          · rw [if_pos (by rfl)]
            go_simp
            go_wp2_with (go_at_call 45; refine (HLB.out _ hHeld).mono ?_; rintro e u3 ⟨rfl, gg⟩)
            have hT3 : Below W.heap.size W u3 := hHeld.trans (gg.mono hHeld.size)
            have hbx8_n := (gg.block _ hbo8).trans hbx8
            clear hbx8
            have hbx8 := hbx8_n
            clear hbx8_n
            have hbo8_n := Nat.lt_of_lt_of_le hbo8 gg.size
            clear hbo8
            have hbo8 := hbo8_n
            clear hbo8_n
            clear gg
            refine hK.out _ _ (fun _ => hT3) ?_
            clear hK K hHeld
            have hHeld := hT3
            try dsimp only [Act.put]
            refine wpAnyL_one (i := 7) (by kernel_rfl) rfl (fun K hK => ?_)
            rw [if_pos (by rfl)]
            go_simp
            have gb := boxB u3 (.cells #[.string ⟨#[]⟩, .string ⟨#[]⟩, .string ⟨#[]⟩, .string ⟨#[]⟩, .string ⟨#[]⟩, .string ⟨#[]⟩, .string ⟨#[]⟩, .string ⟨#[]⟩, .string ⟨#[]⟩, .string ⟨#[]⟩, .string ⟨#[]⟩, .string ⟨#[]⟩, .string ⟨#[]⟩, .string ⟨#[]⟩, .string ⟨#[]⟩, .string ⟨#[]⟩] 72)
            have hbx7 := heap_last u3 (.cells #[.string ⟨#[]⟩, .string ⟨#[]⟩, .string ⟨#[]⟩, .string ⟨#[]⟩, .string ⟨#[]⟩, .string ⟨#[]⟩, .string ⟨#[]⟩, .string ⟨#[]⟩, .string ⟨#[]⟩, .string ⟨#[]⟩, .string ⟨#[]⟩, .string ⟨#[]⟩, .string ⟨#[]⟩, .string ⟨#[]⟩, .string ⟨#[]⟩, .string ⟨#[]⟩] 72)
            have hT4 : Below W.heap.size W (u3.alloc (.cells #[.string ⟨#[]⟩, .string ⟨#[]⟩, .string ⟨#[]⟩, .string ⟨#[]⟩, .string ⟨#[]⟩, .string ⟨#[]⟩, .string ⟨#[]⟩, .string ⟨#[]⟩, .string ⟨#[]⟩, .string ⟨#[]⟩, .string ⟨#[]⟩, .string ⟨#[]⟩, .string ⟨#[]⟩, .string ⟨#[]⟩, .string ⟨#[]⟩, .string ⟨#[]⟩] 72)) := hHeld.trans (gb.mono hHeld.size)
            have hbo7 : u3.heap.size < (u3.alloc (.cells #[.string ⟨#[]⟩, .string ⟨#[]⟩, .string ⟨#[]⟩, .string ⟨#[]⟩, .string ⟨#[]⟩, .string ⟨#[]⟩, .string ⟨#[]⟩, .string ⟨#[]⟩, .string ⟨#[]⟩, .string ⟨#[]⟩, .string ⟨#[]⟩, .string ⟨#[]⟩, .string ⟨#[]⟩, .string ⟨#[]⟩, .string ⟨#[]⟩, .string ⟨#[]⟩] 72)).heap.size := by rw [heap_size]; omega
            have hbw7 : W.heap.size ≤ u3.heap.size := hHeld.size
            have hbx8_n := (gb.block _ hbo8).trans hbx8
            clear hbx8
            have hbx8 := hbx8_n
            clear hbx8_n
            have hne : Y8 ≠ u3.heap.size := by omega
            have hbo8_n := Nat.lt_of_lt_of_le hbo8 gb.size
            clear hbo8
            have hbo8 := hbo8_n
            clear hbo8_n
            refine hK.out _ _ (fun _ => hT4) ?_
            clear hK K hHeld
            have hHeld := hT4
            clear gb
            try dsimp only [Act.put]
            generalize hW4 : u3.alloc (.cells #[.string ⟨#[]⟩, .string ⟨#[]⟩, .string ⟨#[]⟩, .string ⟨#[]⟩, .string ⟨#[]⟩, .string ⟨#[]⟩, .string ⟨#[]⟩, .string ⟨#[]⟩, .string ⟨#[]⟩, .string ⟨#[]⟩, .string ⟨#[]⟩, .string ⟨#[]⟩, .string ⟨#[]⟩, .string ⟨#[]⟩, .string ⟨#[]⟩, .string ⟨#[]⟩] 72) = u4 at *
            generalize hBx7 : u3.heap.size = Y7 at *
            clear hW4 hBx7
            have hn8 : Y8 ≠ Y7 := by first | exact hne | exact Ne.symm hne
            first | exact (key Y7 Y8 u4 hHeld hbx7 hbx8 hbw7 hbw8 hn8) | exact wpAnyL_cg rfl (by kernel_rfl) (by kernel_rfl) (key Y7 Y8 u4 hHeld hbx7 hbx8 hbw7 hbw8 hn8)
          · rw [if_pos (by rfl)]
            go_simp
            have gb := boxB u2 (.cells #[.string ⟨#[]⟩, .string ⟨#[]⟩, .string ⟨#[]⟩, .string ⟨#[]⟩, .string ⟨#[]⟩, .string ⟨#[]⟩, .string ⟨#[]⟩, .string ⟨#[]⟩, .string ⟨#[]⟩, .string ⟨#[]⟩, .string ⟨#[]⟩, .string ⟨#[]⟩, .string ⟨#[]⟩, .string ⟨#[]⟩, .string ⟨#[]⟩, .string ⟨#[]⟩] 72)
            have hbx7 := heap_last u2 (.cells #[.string ⟨#[]⟩, .string ⟨#[]⟩, .string ⟨#[]⟩, .string ⟨#[]⟩, .string ⟨#[]⟩, .string ⟨#[]⟩, .string ⟨#[]⟩, .string ⟨#[]⟩, .string ⟨#[]⟩, .string ⟨#[]⟩, .string ⟨#[]⟩, .string ⟨#[]⟩, .string ⟨#[]⟩, .string ⟨#[]⟩, .string ⟨#[]⟩, .string ⟨#[]⟩] 72)
            have hT3 : Below W.heap.size W (u2.alloc (.cells #[.string ⟨#[]⟩, .string ⟨#[]⟩, .string ⟨#[]⟩, .string ⟨#[]⟩, .string ⟨#[]⟩, .string ⟨#[]⟩, .string ⟨#[]⟩, .string ⟨#[]⟩, .string ⟨#[]⟩, .string ⟨#[]⟩, .string ⟨#[]⟩, .string ⟨#[]⟩, .string ⟨#[]⟩, .string ⟨#[]⟩, .string ⟨#[]⟩, .string ⟨#[]⟩] 72)) := hHeld.trans (gb.mono hHeld.size)
            have hbo7 : u2.heap.size < (u2.alloc (.cells #[.string ⟨#[]⟩, .string ⟨#[]⟩, .string ⟨#[]⟩, .string ⟨#[]⟩, .string ⟨#[]⟩, .string ⟨#[]⟩, .string ⟨#[]⟩, .string ⟨#[]⟩, .string ⟨#[]⟩, .string ⟨#[]⟩, .string ⟨#[]⟩, .string ⟨#[]⟩, .string ⟨#[]⟩, .string ⟨#[]⟩, .string ⟨#[]⟩, .string ⟨#[]⟩] 72)).heap.size := by rw [heap_size]; omega
            have hbw7 : W.heap.size ≤ u2.heap.size := hHeld.size
            have hbx8_n := (gb.block _ hbo8).trans hbx8
            clear hbx8
            have hbx8 := hbx8_n
            clear hbx8_n
            have hne : Y8 ≠ u2.heap.size := by omega
            have hbo8_n := Nat.lt_of_lt_of_le hbo8 gb.size
            clear hbo8
            have hbo8 := hbo8_n
            clear hbo8_n
            refine hK.out _ _ (fun _ => hT3) ?_
            clear hK K hHeld
            have hHeld := hT3
            clear gb
            try dsimp only [Act.put]
            generalize hW3 : u2.alloc (.cells #[.string ⟨#[]⟩, .string ⟨#[]⟩, .string ⟨#[]⟩, .string ⟨#[]⟩, .string ⟨#[]⟩, .string ⟨#[]⟩, .string ⟨#[]⟩, .string ⟨#[]⟩, .string ⟨#[]⟩, .string ⟨#[]⟩, .string ⟨#[]⟩, .string ⟨#[]⟩, .string ⟨#[]⟩, .string ⟨#[]⟩, .string ⟨#[]⟩, .string ⟨#[]⟩] 72) = u3 at *
            generalize hBx7 : u2.heap.size = Y7 at *
            clear hW3 hBx7
            refine wpAnyL_one (i := 6) (by kernel_rfl) rfl (fun K hK => ?_)
            rw [if_pos (by rfl)]
            go_simp
            go_wp2_with (go_at_call 45; refine (HLB.out _ hHeld).mono ?_; rintro e u4 ⟨rfl, gg⟩)
            have hT4 : Below W.heap.size W u4 := hHeld.trans (gg.mono hHeld.size)
            have hbx8_n := (gg.block _ hbo8).trans hbx8
            clear hbx8
            have hbx8 := hbx8_n
            clear hbx8_n
            have hbo8_n := Nat.lt_of_lt_of_le hbo8 gg.size
            clear hbo8
            have hbo8 := hbo8_n
            clear hbo8_n
            have hbx7_n := (gg.block _ hbo7).trans hbx7
            clear hbx7
            have hbx7 := hbx7_n
            clear hbx7_n
            have hbo7_n := Nat.lt_of_lt_of_le hbo7 gg.size
            clear hbo7
            have hbo7 := hbo7_n
            clear hbo7_n
            clear gg
            refine hK.out _ _ (fun _ => hT4) ?_
            clear hK K hHeld
            have hHeld := hT4
            try dsimp only [Act.put]
            have hn8 : Y8 ≠ Y7 := by first | exact hne | exact Ne.symm hne
            first | exact (key Y7 Y8 u4 hHeld hbx7 hbx8 hbw7 hbw8 hn8) | exact wpAnyL_cg rfl (by kernel_rfl) (by kernel_rfl) (key Y7 Y8 u4 hHeld hbx7 hbx8 hbw7 hbw8 hn8)
        · rw [if_pos (by rfl)]
          go_simp
          have gb := boxB u1 (.cells #[.string ⟨#[]⟩, .string ⟨#[]⟩, .string ⟨#[]⟩, .string ⟨#[]⟩, .string ⟨#[]⟩, .string ⟨#[]⟩, .string ⟨#[]⟩, .string ⟨#[]⟩, .string ⟨#[]⟩, .string ⟨#[]⟩, .string ⟨#[]⟩, .string ⟨#[]⟩, .string ⟨#[]⟩, .string ⟨#[]⟩, .string ⟨#[]⟩, .string ⟨#[]⟩] 72)
          have hbx7 := heap_last u1 (.cells #[.string ⟨#[]⟩, .string ⟨#[]⟩, .string ⟨#[]⟩, .string ⟨#[]⟩, .string ⟨#[]⟩, .string ⟨#[]⟩, .string ⟨#[]⟩, .string ⟨#[]⟩, .string ⟨#[]⟩, .string ⟨#[]⟩, .string ⟨#[]⟩, .string ⟨#[]⟩, .string ⟨#[]⟩, .string ⟨#[]⟩, .string ⟨#[]⟩, .string ⟨#[]⟩] 72)
          have hT2 : Below W.heap.size W (u1.alloc (.cells #[.string ⟨#[]⟩, .string ⟨#[]⟩, .string ⟨#[]⟩, .string ⟨#[]⟩, .string ⟨#[]⟩, .string ⟨#[]⟩, .string ⟨#[]⟩, .string ⟨#[]⟩, .string ⟨#[]⟩, .string ⟨#[]⟩, .string ⟨#[]⟩, .string ⟨#[]⟩, .string ⟨#[]⟩, .string ⟨#[]⟩, .string ⟨#[]⟩, .string ⟨#[]⟩] 72)) := hHeld.trans (gb.mono hHeld.size)
          have hbo7 : u1.heap.size < (u1.alloc (.cells #[.string ⟨#[]⟩, .string ⟨#[]⟩, .string ⟨#[]⟩, .string ⟨#[]⟩, .string ⟨#[]⟩, .string ⟨#[]⟩, .string ⟨#[]⟩, .string ⟨#[]⟩, .string ⟨#[]⟩, .string ⟨#[]⟩, .string ⟨#[]⟩, .string ⟨#[]⟩, .string ⟨#[]⟩, .string ⟨#[]⟩, .string ⟨#[]⟩, .string ⟨#[]⟩] 72)).heap.size := by rw [heap_size]; omega
          have hbw7 : W.heap.size ≤ u1.heap.size := hHeld.size
          have hbx8_n := (gb.block _ hbo8).trans hbx8
          clear hbx8
          have hbx8 := hbx8_n
          clear hbx8_n
          have hne : Y8 ≠ u1.heap.size := by omega
          have hbo8_n := Nat.lt_of_lt_of_le hbo8 gb.size
          clear hbo8
          have hbo8 := hbo8_n
          clear hbo8_n
          refine hK.out _ _ (fun _ => hT2) ?_
          clear hK K hHeld
          have hHeld := hT2
          clear gb
          try dsimp only [Act.put]
          generalize hW2 : u1.alloc (.cells #[.string ⟨#[]⟩, .string ⟨#[]⟩, .string ⟨#[]⟩, .string ⟨#[]⟩, .string ⟨#[]⟩, .string ⟨#[]⟩, .string ⟨#[]⟩, .string ⟨#[]⟩, .string ⟨#[]⟩, .string ⟨#[]⟩, .string ⟨#[]⟩, .string ⟨#[]⟩, .string ⟨#[]⟩, .string ⟨#[]⟩, .string ⟨#[]⟩, .string ⟨#[]⟩] 72) = u2 at *
          generalize hBx7 : u1.heap.size = Y7 at *
          clear hW2 hBx7
          refine wpAnyL_one (i := 4) (by kernel_rfl) rfl (fun K hK => ?_)
          rw [if_pos (by rfl)]
          go_simp
          go_wp2_with (go_at_call 45; refine (HLA.out _ hHeld).mono ?_; rintro e u3 ⟨rfl, gg⟩)
          have hT3 : Below W.heap.size W u3 := hHeld.trans (gg.mono hHeld.size)
          have hbx8_n := (gg.block _ hbo8).trans hbx8
          clear hbx8
          have hbx8 := hbx8_n
          clear hbx8_n
          have hbo8_n := Nat.lt_of_lt_of_le hbo8 gg.size
          clear hbo8
          have hbo8 := hbo8_n
          clear hbo8_n
          have hbx7_n := (gg.block _ hbo7).trans hbx7
          clear hbx7
          have hbx7 := hbx7_n
          clear hbx7_n
          have hbo7_n := Nat.lt_of_lt_of_le hbo7 gg.size
          clear hbo7
          have hbo7 := hbo7_n
          clear hbo7_n
          clear gg
          refine hK.out _ _ (fun _ => hT3) ?_
          clear hK K hHeld
          have hHeld := hT3
          try dsimp only [Act.put]
          refine wpAnyL_one (i := 6) (by kernel_rfl) rfl (fun K hK => ?_)
          rw [if_pos (by rfl)]
          go_simp
          go_wp2_with (go_at_call 45; refine (HLB.out _ hHeld).mono ?_; rintro e u4 ⟨rfl, gg⟩)
          have hT4 : Below W.heap.size W u4 := hHeld.trans (gg.mono hHeld.size)
          have hbx8_n := (gg.block _ hbo8).trans hbx8
          clear hbx8
          have hbx8 := hbx8_n
          clear hbx8_n
          have hbo8_n := Nat.lt_of_lt_of_le hbo8 gg.size
          clear hbo8
          have hbo8 := hbo8_n
          clear hbo8_n
          have hbx7_n := (gg.block _ hbo7).trans hbx7
          clear hbx7
          have hbx7 := hbx7_n
          clear hbx7_n
          have hbo7_n := Nat.lt_of_lt_of_le hbo7 gg.size
          clear hbo7
          have hbo7 := hbo7_n
          clear hbo7_n
          clear gg
          refine hK.out _ _ (fun _ => hT4) ?_
          clear hK K hHeld
          have hHeld := hT4
          try dsimp only [Act.put]
          have hn8 : Y8 ≠ Y7 := by first | exact hne | exact Ne.symm hne
          first | exact (key Y7 Y8 u4 hHeld hbx7 hbx8 hbw7 hbw8 hn8) | exact wpAnyL_cg rfl (by kernel_rfl) (by kernel_rfl) (key Y7 Y8 u4 hHeld hbx7 hbx8 hbw7 hbw8 hn8)
    case key =>
      as_aux_lemma =>
        intro Y7 Y8 v0 hHeld hbx7 hbx8 hbw7 hbw8 hn8
        have hVA := HVA.out
        have hVB := HVB.out
        clear HVA HVB
        subst hVA
        subst hVB
        obtain ⟨v9, e9, c9, k9, b9⟩ := put16 v0 Y7 TA hbx7
        have r9 := run_put16 v0 Y7 TA hbx7
        rw [e9] at r9
        have hT9 := b9 _ _ hbw7 hHeld
        have hbx9 := (k9 _ hn8).trans hbx8
        obtain ⟨v10, e10, c10, k10, b10⟩ := put16 v9 Y8 TB hbx9
        have r10 := run_put16 v9 Y8 TB hbx9
        rw [e10] at r10
        have hT10 := b10 _ _ hbw8 hT9
        have c11 := (k10 _ (Ne.symm hn8)).trans c9
        have HEND := hid (And.intro c11 (And.intro c10 hT10))
        have sA := arrS_size TA 16
        have sB := arrS_size TB 16
        clear e9 e10 c9 c10 c11 k9 k10 b9 b10 hbx7 hbx8 hbx9
        generalize arrS TA 16 = AA at *
        generalize arrS TB 16 = AB at *
        refine wpAnyL_one (i := 9) (by kernel_rfl) rfl (fun K hK => ?_)
        rw [if_pos (by rfl)]
        go_simp
        refine hK.out _ _ (fun _ => hT9) ?_
        clear hK K hHeld r9
        have hHeld := hT9
        try dsimp only [Act.put]
        refine wpAnyL_one (i := 10) (by kernel_rfl) rfl (fun K hK => ?_)
        rw [if_pos (by rfl)]
        go_simp
        refine hK.out _ _ (fun h => absurd rfl h) ?_
        clear hK K hHeld r10 hT9 hT10
        refine wpAnyL_done (by kernel_rfl) ?_
        go_wp2_with fail
        go_meet
        case rel => exact ⟨Y7, Y8, rfl, rfl, hbw7, hbw8, HEND.out.1, HEND.out.2.1, HEND.out.2.2⟩
  case rest =>
    obtain ⟨Y6, Y7, rfl, rfl, hy6, hy7, q6, q7, hb⟩ := hcut
    have hXc := HXB.out _ hb
    have hs6 := kboxS q6
    have hs7 := kboxS q7
    have hbw := b0.trans (hb.mono b0.size)
    have hOc := hO.on hbw
    have hbs := hbw.size
    have hXc2 : X < wc.heap.size := by omega
    have HUP : Hid (∀ v, KR X wc v → Below lo w v) := fun v g => (hbw.mono (by omega)).trans (g.below hX hXc2)
    have HIL : Hid (∀ v, KR X wc v → Is w0.heap.size bp l v) := fun v g => hI.below (hw0.trans ((hbw.mono hw0.size).trans (g.below (Nat.le_trans hlo hX) hXc2)))
    have HQ : Hid (∀ v, KR X wc v → v.heap[Y6]? = some (.cells (arrS TA 16) 72) ∧ v.heap[Y7]? = some (.cells (arrS TB 16) 72)) := fun v g => ⟨(g.block _ hs6 (by omega)).trans q6, (g.block _ hs7 (by omega)).trans q7⟩
    have HINV := hid (cpZ_inv (S0 := S0) hz0 hgB l hl)
    have HTAKE := hid (cpZ_take S0 B z l)
    have HASK := hid (fun j hj => cpZ_ask (S0 := S0) hz0 hgB hs hl j hj)
    have HGL : Hid (∀ y : Ly, y.mark = z.mark → lyOk y → GoodK (S0 ++ [y])) := fun y h1 h2 => good_last hg h1 h2
    have HBS := hid (fun x => atE_size hgB x)
    have HL := hid hl
    have HNN := hid hn
    have HLN := hid hln
    have hz00 : cpZ S0 B z (l.take 0) = (z, 0) := rfl
    clear HXB HX HLA HLB hO hB hI hM0 hMA hXb hXW hg hgB hl hs hz0 q6 q7 hw0 b0 k0 hb hbw hn hln HLE
    go_wp2_with fail
    go_loopw [19] (fun i wr => ∃ (j : Nat) (p2 : Option Addr) (c2 l3 h3 : Nat), j ≤ l.length ∧ i = .int .i64 j ∧ wr.heap[X]? = some (.cells #[.slice p2 (n + 1) c2, .int .i64 (((cpZ S0 B z (l.take j)).2 : Nat) : Int)] 50) ∧ OwnK l3 h3 p2 (S0 ++ [(cpZ S0 B z (l.take j)).1]) wr ∧ lo ≤ l3 ∧ (X < l3 ∨ h3 ≤ X) ∧ h3 ≤ wr.heap.size ∧ n + 1 ≤ c2 ∧ KR X wc wr) (fun i _ => l.length - (intOf i).toNat)
    case atStart => exact ⟨0, p, c, l2, h2, Nat.zero_le _, rfl, by rw [hz00]; exact hXc, by rw [hz00]; exact hOc, hl2, hXo, by omega, hc, KR.refl _ _⟩
    case round =>
      obtain ⟨j, p2, c2, l3, h3, hj, rfl, hXr, hOr, hl3, hXo3, hh3, hc3, hkr⟩ := hrel
      have HKR := hid hkr
      have HOR := hid hOr
      have hXs : X < wr.heap.size := kboxS hXr
      have HCR : Hid (lo ≤ l3 ∧ (X < l3 ∨ h3 ≤ X) ∧ h3 ≤ wr.heap.size ∧ n + 1 ≤ c2) := ⟨hl3, hXo3, hh3, hc3⟩
      by_cases hlt : j < l.length
      · obtain ⟨bb, off, rfl, hbb, hcl⟩ := (HIL.out _ hkr).cell (by omega)
        have c0 := hcl j hlt
        have hx := HL.out l[j] (List.getElem_mem hlt)
        have hask := HASK.out j hlt
        have hst := HTAKE.out j hlt
        obtain ⟨i1, i2, i3, -⟩ := HINV.out j (by omega)
        obtain ⟨y6, y7⟩ := HQ.out _ hkr
        obtain ⟨k, hk⟩ : ∃ k : Nat, l[j] = (k : Int) := ⟨l[j].toNat, by omega⟩
        have hk16 : k < 16 := by omega
        have e6 := arr_cell y6 hk16
        have e7 := arr_cell y7 hk16
        have HY7 := hid y7
        have HXX := hid hXr
        rw [hk] at c0 hask hst
        rw [← HTA.out] at hask
        unfold cpF at hst
        rw [hask, ← HTB.out] at hst
        have HTK := HBS.out (k : Int)
        rw [← HTB.out] at HTK
        generalize hq : cpZ S0 B z (l.take j) = q at *
        obtain ⟨zj, nj⟩ := q
        simp only at i1 i2 i3 hXr HOR hst HXX
        have HGJ := hid (HGL.out zj i1 i2)
        have HZJ := hid i2
        have HST := hid hst
        have HJ := hid hlt
        have HTKs := hid HTK
        clear hcl hkr hOr hst hask hx hl3 hXo3 hh3 hc3 HTK y6 y7 hXr i1 i2 hk
        have hln2 := HLN.out
        by_cases hq2 : TA k = TB k
        · have dq : ((TA k).toList == (TB k).toList) = true := by rw [hq2]; exact beq_self_eq_true _
          have HSTEP : Hid (cpZ S0 B z (l.take (j + 1)) = (zj, nj)) := by show _ = _; rw [HST.out, if_pos hq2]
          clear HST hq2 HTKs
          generalize TA k = ta at *
          generalize TB k = tb at *
          go_upto_region 5 with fail
          go_quiet (fail)
          go_wp2_with fail
          go_roundw
          case rel => exact ⟨j + 1, p2, c2, l3, h3, HJ.out, by have := HLN.out; go_num, by rw [HSTEP.out]; exact HXX.out, by rw [HSTEP.out]; exact HOR.out.on (belowN _ _), HCR.out.1, HCR.out.2.1, HCR.out.2.2.1, HCR.out.2.2.2, HKR.out.trans (KR.of_below (belowN _ _))⟩
          case measure => have := HJ.out; simp [intOf]; omega
        · have dq : ((TA k).toList == (TB k).toList) = false := ba_ne hq2
          have HSTEP : Hid (cpZ S0 B z (l.take (j + 1)) = (putLy zj (k : Int) (TB k), nj + 1)) := by show _ = _; rw [HST.out, if_neg hq2]
          have HCW : Hid (∀ v, Below wr.heap.size wr v → Calls Try.prog 46 #[.agg #[.slice p2 (n + 1) c2], .int .i64 (k : Int), .string (TB k)] v fun e w' => ∃ b c, e = .returned (.tuple #[.agg #[.slice b (n + 1) c], .bool true]) ∧ OwnK v.heap.size w'.heap.size b (S0 ++ [putLy zj (k : Int) (TB k)]) w' ∧ Below v.heap.size v w' ∧ n + 1 ≤ c) := fun v g => by
            have hl1 : ∀ y : Ly, (S0 ++ [y]).length = n + 1 := fun y => by rw [List.length_append, HNN.out]; rfl
            have h := iwrite_any p2 c2 (S0 ++ [zj]) (k : Int) (TB k) v (by rw [hl1]; exact HCR.out.2.2.2) (good_fit HGJ.out).bl ((HOR.out.on g).ys)
            rw [wrK_yes ⟨HGJ.out, ⟨by omega, by omega⟩, HTKs.out⟩] at h
            rw [hl1] at h
            refine h.mono fun e w' h => ?_
            obtain ⟨b, c, h1, h2, h3, h4⟩ := h
            rw [hl1] at h1 h4
            exact ⟨b, c, h1, h2, h3, h4⟩
          have HXR : Hid (∀ v, Below wr.heap.size wr v → v.heap[X]? = some (.cells #[.slice p2 (n + 1) c2, .int .i64 ((nj : Nat) : Int)] 50)) := fun v g => (g.block _ hXs).trans HXX.out
          have H7R : Hid (∀ v, Below wr.heap.size wr v → v.cell? ⟨Y7, k, none⟩ = some (.string (TB k))) := fun v g => arr_cell ((g.block _ (kboxS HY7.out)).trans HY7.out) hk16
          obtain ⟨y, hy⟩ : ∃ y, putLy zj (k : Int) (TB k) = y := ⟨_, rfl⟩
          rw [hy] at HSTEP HCW
          clear HST hq2 HY7 HTKs HGJ HZJ hy HXX
          go_upto_region 5 with fail
          go_quiet (fail)
          go_upto_region 6 with fail
          go_cut [] from 30 to 46 (fun wc6 => ∃ (b9 : Option Addr) (c9 l4 h4 : Nat), wc6.heap[X]? = some (.cells #[.slice b9 (n + 1) c9, .int .i64 ((nj : Nat) : Int)] 50) ∧ OwnK l4 h4 b9 (S0 ++ [y]) wc6 ∧ lo ≤ l4 ∧ X < l4 ∧ h4 ≤ wc6.heap.size ∧ n + 1 ≤ c9 ∧ KR X wc wc6)
          case first =>
            have hT0 : Below wr.heap.size wr (wr.drewN nq).drew := (belowN wr nq).drew
            refine wp_region_L (fun _ : World => True) 17 (by kernel_rfl) ?_
            generalize (wr.drewN nq).drew = Wd at *
            have hHeld := trivial
            have hx5 := box_cell (HXR.out _ hT0) 0
            have hx9 := H7R.out _ hT0
            refine wpAnyL_take (i := 0) (v := .pointer (some ⟨X, 0, none⟩)) (C := [0, 14, 15, 16, 17]) rfl (by kernel_rfl) (fun _ _ _ h => h) (Or.inl ⟨by rfl, fun _ _ => by go_simp⟩) hHeld ?_
            dsimp only [Act.put]
            refine wpAnyL_take (i := 1) (v := .pointer (some ⟨X, 0, none⟩)) (C := [1, 2, 3, 4, 5, 10, 11, 12, 13, 14, 15, 16, 17]) rfl (by kernel_rfl) (fun _ _ _ h => h) (Or.inl ⟨by rfl, fun _ _ => by go_simp⟩) hHeld ?_
            dsimp only [Act.put]
            refine wpAnyL_take (i := 2) (v := .pointer (some ⟨X, 0, none⟩)) (C := [2, 3, 4, 5, 10, 11, 12, 13, 14, 15, 16, 17]) rfl (by kernel_rfl) (fun _ _ _ h => h) (Or.inl ⟨by rfl, fun _ _ => by go_simp⟩) hHeld ?_
            dsimp only [Act.put]
            refine wpAnyL_take (i := 3) (v := .pointer (some ⟨X, 0, none⟩)) (C := [3, 4, 5, 10, 11, 12, 13, 14, 15, 16, 17]) rfl (by kernel_rfl) (fun _ _ _ h => h) (Or.inl ⟨by rfl, fun _ _ => by go_simp⟩) hHeld ?_
            dsimp only [Act.put]
            refine wpAnyL_take (i := 4) (v := .pointer (some ⟨X, 0, none⟩)) (C := [4, 5, 10, 11, 12, 13, 14, 15, 16, 17]) rfl (by kernel_rfl) (fun _ _ _ h => h) (Or.inl ⟨by rfl, fun _ _ => by go_simp⟩) hHeld ?_
            dsimp only [Act.put]
            refine wpAnyL_take (i := 6) (v := .int .i64 (k : Int)) (C := [6, 10, 11, 12, 13, 14, 15, 16, 17]) rfl (by kernel_rfl) (fun _ _ _ h => h) (Or.inl ⟨by rfl, fun _ _ => by go_simp⟩) hHeld ?_
            dsimp only [Act.put]
            refine wpAnyL_take (i := 7) (v := .int .i64 (k : Int)) (C := [7, 8, 9, 10, 11, 12, 13, 14, 15, 16, 17]) rfl (by kernel_rfl) (fun _ _ _ h => h) (Or.inl ⟨by rfl, fun _ _ => by go_simp⟩) hHeld ?_
            dsimp only [Act.put]
            refine wpAnyL_take (i := 8) (v := .pointer (some ⟨Y7, k, none⟩)) (C := [8, 9, 10, 11, 12, 13, 14, 15, 16, 17]) rfl (by kernel_rfl) (fun _ _ _ h => h) (Or.inl ⟨by rfl, fun _ _ => by go_simp; intro hq; exact absurd hq (by omega)⟩) hHeld ?_
            dsimp only [Act.put]
            refine wpAnyL_two (i := 5) (j := 9) (by kernel_rfl) rfl rfl (fun K hK => ?_) (fun K hK => ?_)
            · rw [if_pos (by rfl)]
              go_simp
              refine hK.out _ _ (fun _ => trivial) ?_
              clear hK K
              try dsimp only [Act.put]
              refine wpAnyL_one (i := 9) (by kernel_rfl) rfl (fun K hK => ?_)
              rw [if_pos (by rfl)]
              go_simp
              refine hK.out _ _ (fun _ => trivial) ?_
              clear hK K
              try dsimp only [Act.put]
              refine wpAnyL_one (i := 10) (by kernel_rfl) rfl (fun K hK => ?_)
              rw [if_pos (by rfl)]
              go_simp
              go_wp2_with (go_at_call 46; refine (HCW.out _ hT0).mono ?_; rintro e w7 ⟨b9, c9, rfl, o9, g9, k9⟩)
              have hT5 : Below wr.heap.size wr w7 := hT0.trans (g9.mono hT0.size)
              refine hK.out _ _ (fun _ => trivial) ?_
              clear hK K
              try dsimp only [Act.put]
              refine wpAnyL_take (i := 11) (v := .tuple #[.agg #[.slice b9 (n + 1) c9], .bool true]) (C := [11, 12, 13, 14, 15, 16, 17]) rfl (by kernel_rfl) (fun _ _ _ h => h) (Or.inl ⟨by rfl, fun _ _ => by go_simp⟩) hHeld ?_
              dsimp only [Act.put]
              refine wpAnyL_take (i := 12) (v := .agg #[.slice b9 (n + 1) c9]) (C := [12, 14, 15, 16, 17]) rfl (by kernel_rfl) (fun _ _ _ h => h) (Or.inl ⟨by rfl, fun _ _ => by go_simp⟩) hHeld ?_
              dsimp only [Act.put]
              refine wpAnyL_take (i := 14) (v := .pointer (some ⟨X, 0, none⟩)) (C := [14, 15, 16, 17]) rfl (by kernel_rfl) (fun _ _ _ h => h) (Or.inl ⟨by rfl, fun _ _ => by go_simp⟩) hHeld ?_
              dsimp only [Act.put]
              refine wpAnyL_take (i := 15) (v := .pointer (some ⟨X, 0, none⟩)) (C := [15, 16, 17]) rfl (by kernel_rfl) (fun _ _ _ h => h) (Or.inl ⟨by rfl, fun _ _ => by go_simp⟩) hHeld ?_
              dsimp only [Act.put]
              refine wpAnyL_take (i := 16) (v := .pointer (some ⟨X, 0, none⟩)) (C := [16, 17]) rfl (by kernel_rfl) (fun _ _ _ h => h) (Or.inl ⟨by rfl, fun _ _ => by go_simp⟩) hHeld ?_
              dsimp only [Act.put]
              have hX7 := HXR.out _ hT5
              have y0 := box_cell hX7 0
              have f0 := box_free hX7 0
              have hX9 := box_set hX7 0 (.slice b9 (n + 1) c9)
              have hwd := hT0.size
              have h97 := g9.size
              have o10 := o9.set X 0 (.slice b9 (n + 1) c9) (by omega)
              have K9 : Hid (KR X wc (w7.setCell ⟨X, 0, none⟩ (.slice b9 (n + 1) c9))) := (HKR.out.trans (KR.of_below hT5)).set _ _
              have hsz9 : (w7.setCell ⟨X, 0, none⟩ (.slice b9 (n + 1) c9)).heap.size = w7.heap.size := by simp [World.setCell]
              have hlw : lo ≤ Wd.heap.size := by have := HCR.out; omega
              have hXw : X < Wd.heap.size := by omega
              have hw9 : w7.heap.size ≤ (w7.setCell ⟨X, 0, none⟩ (.slice b9 (n + 1) c9)).heap.size := by omega
              have hX9 : (w7.setCell ⟨X, 0, none⟩ (.slice b9 (n + 1) c9)).heap[X]? = some (.cells #[.slice b9 (n + 1) c9, .int .i64 ((nj : Nat) : Int)] 50) := by simpa using hX9
              clear hX7 o9 g9 hT5
              refine wpAnyL_two (i := 13) (j := 17) (by kernel_rfl) rfl rfl (fun K hK => ?_) (fun K hK => ?_)
              · rw [if_pos (by rfl)]
                go_simp
                refine hK.out _ _ (fun _ => trivial) ?_
                clear hK K
                try dsimp only [Act.put]
                refine wpAnyL_one (i := 17) (by kernel_rfl) rfl (fun K hK => ?_)
                rw [if_pos (by rfl)]
                go_simp
                refine hK.out _ _ (fun _ => trivial) ?_
                clear hK K y0 f0
                refine wpAnyL_done (by kernel_rfl) ?_
                generalize w7.setCell ⟨X, 0, none⟩ (.slice b9 (n + 1) c9) = W9 at *
                go_wp2_with fail
                go_meet
                case rel => exact ⟨b9, c9, Wd.heap.size, w7.heap.size, hX9, o10, hlw, hXw, hw9, k9, K9.out⟩
              · rw [if_pos (by rfl)]
                go_simp
                refine hK.out _ _ (fun _ => trivial) ?_
                clear hK K y0 f0
                try dsimp only [Act.put]
                generalize w7.setCell ⟨X, 0, none⟩ (.slice b9 (n + 1) c9) = W9 at *
                refine wpAnyL_one (i := 13) (by kernel_rfl) rfl (fun K hK => ?_)
                rw [if_pos (by rfl)]
                go_simp
                refine hK.out _ _ (fun _ => trivial) ?_
                clear hK K
                refine wpAnyL_done (by kernel_rfl) ?_
                go_wp2_with fail
                go_meet
                case rel => exact ⟨b9, c9, Wd.heap.size, w7.heap.size, hX9, o10, hlw, hXw, hw9, k9, K9.out⟩
            · rw [if_pos (by rfl)]
              go_simp
              refine hK.out _ _ (fun _ => trivial) ?_
              clear hK K
              try dsimp only [Act.put]
              refine wpAnyL_one (i := 5) (by kernel_rfl) rfl (fun K hK => ?_)
              rw [if_pos (by rfl)]
              go_simp
              refine hK.out _ _ (fun _ => trivial) ?_
              clear hK K
              try dsimp only [Act.put]
              refine wpAnyL_one (i := 10) (by kernel_rfl) rfl (fun K hK => ?_)
              rw [if_pos (by rfl)]
              go_simp
              go_wp2_with (go_at_call 46; refine (HCW.out _ hT0).mono ?_; rintro e w7 ⟨b9, c9, rfl, o9, g9, k9⟩)
              have hT5 : Below wr.heap.size wr w7 := hT0.trans (g9.mono hT0.size)
              refine hK.out _ _ (fun _ => trivial) ?_
              clear hK K
              try dsimp only [Act.put]
              refine wpAnyL_take (i := 11) (v := .tuple #[.agg #[.slice b9 (n + 1) c9], .bool true]) (C := [11, 12, 13, 14, 15, 16, 17]) rfl (by kernel_rfl) (fun _ _ _ h => h) (Or.inl ⟨by rfl, fun _ _ => by go_simp⟩) hHeld ?_
              dsimp only [Act.put]
              refine wpAnyL_take (i := 12) (v := .agg #[.slice b9 (n + 1) c9]) (C := [12, 14, 15, 16, 17]) rfl (by kernel_rfl) (fun _ _ _ h => h) (Or.inl ⟨by rfl, fun _ _ => by go_simp⟩) hHeld ?_
              dsimp only [Act.put]
              refine wpAnyL_take (i := 14) (v := .pointer (some ⟨X, 0, none⟩)) (C := [14, 15, 16, 17]) rfl (by kernel_rfl) (fun _ _ _ h => h) (Or.inl ⟨by rfl, fun _ _ => by go_simp⟩) hHeld ?_
              dsimp only [Act.put]
              refine wpAnyL_take (i := 15) (v := .pointer (some ⟨X, 0, none⟩)) (C := [15, 16, 17]) rfl (by kernel_rfl) (fun _ _ _ h => h) (Or.inl ⟨by rfl, fun _ _ => by go_simp⟩) hHeld ?_
              dsimp only [Act.put]
              refine wpAnyL_take (i := 16) (v := .pointer (some ⟨X, 0, none⟩)) (C := [16, 17]) rfl (by kernel_rfl) (fun _ _ _ h => h) (Or.inl ⟨by rfl, fun _ _ => by go_simp⟩) hHeld ?_
              dsimp only [Act.put]
              have hX7 := HXR.out _ hT5
              have y0 := box_cell hX7 0
              have f0 := box_free hX7 0
              have hX9 := box_set hX7 0 (.slice b9 (n + 1) c9)
              have hwd := hT0.size
              have h97 := g9.size
              have o10 := o9.set X 0 (.slice b9 (n + 1) c9) (by omega)
              have K9 : Hid (KR X wc (w7.setCell ⟨X, 0, none⟩ (.slice b9 (n + 1) c9))) := (HKR.out.trans (KR.of_below hT5)).set _ _
              have hsz9 : (w7.setCell ⟨X, 0, none⟩ (.slice b9 (n + 1) c9)).heap.size = w7.heap.size := by simp [World.setCell]
              have hlw : lo ≤ Wd.heap.size := by have := HCR.out; omega
              have hXw : X < Wd.heap.size := by omega
              have hw9 : w7.heap.size ≤ (w7.setCell ⟨X, 0, none⟩ (.slice b9 (n + 1) c9)).heap.size := by omega
              have hX9 : (w7.setCell ⟨X, 0, none⟩ (.slice b9 (n + 1) c9)).heap[X]? = some (.cells #[.slice b9 (n + 1) c9, .int .i64 ((nj : Nat) : Int)] 50) := by simpa using hX9
              clear hX7 o9 g9 hT5
              refine wpAnyL_two (i := 13) (j := 17) (by kernel_rfl) rfl rfl (fun K hK => ?_) (fun K hK => ?_)
              · rw [if_pos (by rfl)]
                go_simp
                refine hK.out _ _ (fun _ => trivial) ?_
                clear hK K
                try dsimp only [Act.put]
                refine wpAnyL_one (i := 17) (by kernel_rfl) rfl (fun K hK => ?_)
                rw [if_pos (by rfl)]
                go_simp
                refine hK.out _ _ (fun _ => trivial) ?_
                clear hK K y0 f0
                refine wpAnyL_done (by kernel_rfl) ?_
                generalize w7.setCell ⟨X, 0, none⟩ (.slice b9 (n + 1) c9) = W9 at *
                go_wp2_with fail
                go_meet
                case rel => exact ⟨b9, c9, Wd.heap.size, w7.heap.size, hX9, o10, hlw, hXw, hw9, k9, K9.out⟩
              · rw [if_pos (by rfl)]
                go_simp
                refine hK.out _ _ (fun _ => trivial) ?_
                clear hK K y0 f0
                try dsimp only [Act.put]
                generalize w7.setCell ⟨X, 0, none⟩ (.slice b9 (n + 1) c9) = W9 at *
                refine wpAnyL_one (i := 13) (by kernel_rfl) rfl (fun K hK => ?_)
                rw [if_pos (by rfl)]
                go_simp
                refine hK.out _ _ (fun _ => trivial) ?_
                clear hK K
                refine wpAnyL_done (by kernel_rfl) ?_
                go_wp2_with fail
                go_meet
                case rel => exact ⟨b9, c9, Wd.heap.size, w7.heap.size, hX9, o10, hlw, hXw, hw9, k9, K9.out⟩
          case rest =>
          obtain ⟨b9, c9, l4, h4, hX9, o10, hl4, hX4, hh4, k9, K9⟩ := hcut
          have HC4 := hid (And.intro hl4 (And.intro hX4 (And.intro hh4 k9)))
          have K9 := hid K9
          clear hl4 hh4 k9 e6 e7 HCW HXR H7R
          have y1 := box_cell hX9 1
          have f1 := box_free hX9 1
          have hwr : IntKind.i64.wrap ((nj : Int) + 1) = ((nj + 1 : Nat) : Int) := by rw [IntKind.wrap_i64]; have := HLN.out; omega
          have hX10 := box_set hX9 1 (.int .i64 ((nj + 1 : Nat) : Int))
          have o11 := o10.set X 1 (.int .i64 ((nj + 1 : Nat) : Int)) (Or.inl hX4)
          have K10 := hid (K9.out.set 1 (.int .i64 ((nj + 1 : Nat) : Int)))
          have hsz10 : (wc.setCell ⟨X, 1, none⟩ (.int .i64 ((nj + 1 : Nat) : Int))).heap.size = wc.heap.size := by simp [World.setCell]
          have HFIN : Hid (((wc.setCell ⟨X, 1, none⟩ (.int .i64 ((nj + 1 : Nat) : Int))).heap[X]? = some (.cells #[.slice b9 (n + 1) c9, .int .i64 ((nj + 1 : Nat) : Int)] 50)) ∧ OwnK l4 h4 b9 (S0 ++ [y]) (wc.setCell ⟨X, 1, none⟩ (.int .i64 ((nj + 1 : Nat) : Int))) ∧ lo ≤ l4 ∧ X < l4 ∧ h4 ≤ (wc.setCell ⟨X, 1, none⟩ (.int .i64 ((nj + 1 : Nat) : Int))).heap.size ∧ n + 1 ≤ c9) := ⟨by simpa using hX10, o11, HC4.out.1, hX4, by have := HC4.out.2.2.1; omega, HC4.out.2.2.2⟩
          clear hX10 o11 hX9 o10 K9 HC4 hX4
          go_wp2_with fail
          go_roundw
          case rel => exact ⟨j + 1, b9, c9, l4, h4, HJ.out, by have := HLN.out; go_num, by rw [HSTEP.out]; exact HFIN.out.1, by rw [HSTEP.out]; exact HFIN.out.2.1, HFIN.out.2.2.1, Or.inl HFIN.out.2.2.2.1, HFIN.out.2.2.2.2.1, HFIN.out.2.2.2.2.2, K10.out⟩
          case measure => have := HJ.out; simp [intOf]; omega
      · obtain rfl : j = l.length := by omega
        rw [List.take_length] at hXr HOR
        have HF := hid (HUP.out _ hkr)
        have hl1 : ∀ y : Ly, (S0 ++ [y]).length = n + 1 := fun y => by rw [List.length_append, HNN.out]; rfl
        have HE : Hid (MW lo X (S0 ++ [(cpZ S0 B z l).1]) (cpZ S0 B z l).2 wr) := ⟨p2, c2, l3, h3, by rw [hl1]; exact hXr, HOR.out, hl3, hXo3, hh3, by rw [hl1]; exact hc3⟩
        clear hkr hXr hOr
        go_wp2_with fail
        go_end0
        exact ⟨rfl, HE.out, HF.out⟩
end Go.Proofs.Ytlifhakgboekfab
namespace Go.Proofs.Ytlifhakgboekfab
set_option maxRecDepth 100000
open Go Go.ChangeShapes Go.WideShapes Go.ChangeAt Go.RowKit
set_option maxHeartbeats 8000000 in
theorem madeLike_any (a b : Option Addr) (c d : Nat) (A B : List Ly) (p : Option Addr) (cp : Nat) (l : List Int) (w : World) (hA : Mr a c A w) (hB : Mr b d B w) (hgA : GoodK A) (hgB : GoodK B) (hI : Is w.heap.size p l w) (hl : ∀ x ∈ l, 0 ≤ x ∧ x ≤ 15) (hs : l.Pairwise (· < ·)) (hln : l.length ≤ 1048576) :
    Calls Try.prog 22 #[.agg #[.slice a A.length c], .agg #[.slice b B.length d], .slice p l.length cp] w fun e w' => ∃ q r, e = .returned (.agg #[.slice q (copK A B l).length r, .int .i64 ((copN A B l : Nat) : Int)]) ∧ OwnK w.heap.size w'.heap.size q (copK A B l) w' ∧ Below w.heap.size w w' ∧ (copK A B l).length ≤ r := by
  obtain ⟨S0, z, hAz⟩ := good_snoc hgA
  obtain ⟨⟨k0, k1, k2⟩, hz⟩ := alloc3 w (.cells #[.slice a A.length c] 29) (.cells #[.slice b B.length d] 29) (.cells #[.slice none 0 0, .int .i64 0] 50)
  have b0 : Below w.heap.size w (((w.alloc (.cells #[.slice a A.length c] 29)).alloc (.cells #[.slice b B.length d] 29)).alloc (.cells #[.slice none 0 0, .int .i64 0] 50)) := ((boxB _ _).trans ((boxB _ _).mono (boxB _ _).size)).trans ((boxB _ _).mono ((boxB _ _).trans ((boxB _ _).mono (boxB _ _).size)).size)
  generalize hW : (((w.alloc (.cells #[.slice a A.length c] 29)).alloc (.cells #[.slice b B.length d] 29)).alloc (.cells #[.slice none 0 0, .int .i64 0] 50)) = W at *
  have HX : Hid (∀ v, Below W.heap.size W v → v.cell? ⟨w.heap.size, 0, none⟩ = some (.slice a A.length c) ∧ v.cell? ⟨w.heap.size + 1, 0, none⟩ = some (.slice b B.length d)) := fun v g => ⟨box_cell ((g.block _ (by omega)).trans k0) 0, box_cell ((g.block _ (by omega)).trans k1) 0⟩
  have HZ : Hid (∀ v, Below W.heap.size W v → v.heap[w.heap.size + 1 + 1]? = some (.cells #[.slice none 0 0, .int .i64 0] 50)) := fun v g => (g.block _ (by omega)).trans k2
  have HU : Hid (∀ v, Below W.heap.size W v → Below w.heap.size w v) := fun v g => b0.trans (g.mono b0.size)
  have HA : Hid (∀ v, Below W.heap.size W v → Mr a c A v) := fun v g => hA.on (HU.out v g)
  have HB : Hid (∀ v, Below W.heap.size W v → Mr b d B v) := fun v g => hB.on (HU.out v g)
  have B0 : Hid (Below W.heap.size W W) := Below.refl _ _
  have HZW : Hid (W.heap.size = w.heap.size + 1 + 1 + 1) := hz
  obtain ⟨x0, x1⟩ := HX.out _ B0.out
  have HCL : Hid (Calls Try.prog 34 #[.slice a A.length c] W fun e w' => CpK A W e w') := copyLayers_any a c A W (good_small hgA) (HA.out _ B0.out).ys
  have HCF : Hid (∀ (X : Nat) (v : World), W.heap.size ≤ X → MW W.heap.size X A 0 v → Below W.heap.size W v → Calls Try.prog 35 #[.pointer (some ⟨X, 0, none⟩), .agg #[.slice b B.length d], .slice p l.length cp] v fun e w' => e = .returned (.tuple #[]) ∧ MW W.heap.size X (copK A B l) (copN A B l) w' ∧ Below W.heap.size v w') := fun X v h1 h2 h3 => by
    rw [hAz] at h2 hgA
    have h := copyFrom_any W.heap.size X S0 z S0.length b d B p cp l W v rfl hgA hgB h2 (Nat.le_refl _) h1 h3 (HB.out _ B0.out) ((hI.below b0).mono b0.size) hl hs hln
    rw [hAz, (copK_snoc S0 z B l).1, (copK_snoc S0 z B l).2]
    exact h
  have HLA : Hid (A.length ≤ 1048576) := by have := hgA.2.1; show A.length ≤ _; omega
  clear hA hB k0 k1 k2 b0 hz HA HB hI hgA hgB hl hs hln hAz
  go_enter Try.func22, Try.ntmps22
  go_wp2_with fail
  clear hW
  refine HCL.out.mono ?_
  rintro e w1 ⟨v, L, rfl, hm, hK, g1⟩
  have B1 : Hid (Below W.heap.size W w1) := g1
  obtain ⟨a2, c2, rfl, hO, hc2⟩ := hK.own
  rw [hm] at hO
  have hL : L.length = A.length := by rw [← hm, List.length_map]
  rw [hL] at hc2 ⊢
  have hsz := g1.size
  clear g1 hK hm hL HCL x0 x1
  have b2 := boxB w1 (.cells #[.slice a2 A.length c2, .int .i64 0] 50)
  have k2 := heap_last w1 (.cells #[.slice a2 A.length c2, .int .i64 0] 50)
  have z2 : (w1.alloc (.cells #[.slice a2 A.length c2, .int .i64 0] 50)).heap.size = w1.heap.size + 1 := heap_size _ _
  have B2 : Hid (Below W.heap.size W (w1.alloc (.cells #[.slice a2 A.length c2, .int .i64 0] 50))) := B1.out.trans (b2.mono B1.out.size)
  have HMW : Hid (MW W.heap.size w1.heap.size A 0 (w1.alloc (.cells #[.slice a2 A.length c2, .int .i64 0] 50))) := ⟨a2, c2, W.heap.size, w1.heap.size, k2, hO.on b2, Nat.le_refl _, Or.inr (Nat.le_refl _), by omega, hc2⟩
  have HCF1 := hid (HCF.out w1.heap.size _ hsz HMW.out B2.out)
  obtain ⟨x0, x1⟩ := HX.out _ B2.out
  clear b2 k2 hO HCF hc2 z2 HMW
  go_wp2_with fail
  generalize w1.alloc (.cells #[.slice a2 A.length c2, .int .i64 0] 50) = w2 at *
  refine HCF1.out.mono ?_
  rintro e w3 ⟨rfl, hMW, g3⟩
  have B3 : Hid (Below W.heap.size W w3) := B2.out.trans g3
  obtain ⟨p3, c3, l3, h3, hX3, hO3, hl3, hXo, hh3, hc3⟩ := hMW
  have HO3 := hid hO3
  have HC3 := hid (And.intro hl3 (And.intro hh3 hc3))
  obtain ⟨nv, hnv⟩ : ∃ nv, (copK A B l).length = nv := ⟨_, rfl⟩
  obtain ⟨kv, hkv⟩ : ∃ kv, copN A B l = kv := ⟨_, rfl⟩
  rw [hnv, hkv] at hX3
  have HNV := hid (And.intro hnv hkv)
  clear hnv hkv
  have y0 := box_cell hX3 0
  have y1 := box_cell hX3 1
  have hz3 := HZ.out _ B3.out
  have q0 := box_cell hz3 0
  have q1 := box_cell hz3 1
  have f0 := box_free hz3 0
  have f1 := box_free hz3 1
  have hzf := box_set (box_set hz3 0 (.slice p3 nv c3)) 1 (.int .i64 (kv : Int))
  have hzw := HZW.out
  have o5 := (hO3.set (w.heap.size + 1 + 1) 0 (.slice p3 nv c3) (by omega)).set (w.heap.size + 1 + 1) 1 (.int .i64 (kv : Int)) (by omega)
  have BF : Hid (Below w.heap.size w ((w3.setCell ⟨w.heap.size + 1 + 1, 0, none⟩ (.slice p3 nv c3)).setCell ⟨w.heap.size + 1 + 1, 1, none⟩ (.int .i64 (kv : Int)))) := setB (setB (HU.out _ B3.out) (w.heap.size + 1 + 1) 0 (by omega) _) (w.heap.size + 1 + 1) 1 (by omega) _
  have HO5 := hid o5
  have hs5 : ((w3.setCell ⟨w.heap.size + 1 + 1, 0, none⟩ (.slice p3 nv c3)).setCell ⟨w.heap.size + 1 + 1, 1, none⟩ (.int .i64 (kv : Int))).heap.size = w3.heap.size := by simp [World.setCell]
  clear g3 hO3 o5 hz3 hX3 HCF1 hl3 hXo hc3
  clear x0 x1
  go_wp2_with fail
  generalize (w3.setCell ⟨w.heap.size + 1 + 1, 0, none⟩ (.slice p3 nv c3)).setCell ⟨w.heap.size + 1 + 1, 1, none⟩ (.int .i64 (kv : Int)) = W5 at *
  have e0 : W5.cell? ⟨w.heap.size + 1 + 1, 0, none⟩ = some (.slice p3 nv c3) := box_cell hzf 0
  have e1 : W5.cell? ⟨w.heap.size + 1 + 1, 1, none⟩ = some (.int .i64 (kv : Int)) := box_cell hzf 1
  refine bodyPost_ret (v := .agg #[.slice p3 nv c3, .int .i64 (kv : Int)]) (by simp [results, Try.results22, go_sem, e0, e1]) rfl ?_
  exact ⟨p3, c3, by rw [HNV.out.1, HNV.out.2], (HO5.out.low (by have := HC3.out; omega)).high (by have := HC3.out; omega) (Nat.le_refl _), BF.out, HC3.out.2.2⟩
end Go.Proofs.Ytlifhakgboekfab
namespace Go.Proofs.Ytlifhakgboekfab
set_option maxRecDepth 100000
open Go Go.ChangeShapes Go.WideShapes Go.ChangeAt Go.RowKit
def CopOk (A B : List Ly) (l : List Int) : Prop := GoodK A ∧ GoodK B ∧ RiseOk l
instance (A B : List Ly) (l : List Int) : Decidable (CopOk A B l) := by unfold CopOk; infer_instance
/-- what CopyBlocks answers -/
def cpbK (A B : List Ly) (l : List Int) : List Ly × Bool := if CopOk A B l then (copK A B l, true) else ([], false)
def COut (o : List Ly × Bool) (w : World) (e : Ending) (w' : World) : Prop := ∃ b c, e = .returned (.tuple #[.agg #[.slice b o.1.length c], .bool o.2]) ∧ Ys w'.heap.size b o.1 w' ∧ Below w.heap.size w w'
def COwn (o : List Ly × Bool) (w : World) (e : Ending) (w' : World) : Prop := ∃ b c, e = .returned (.tuple #[.agg #[.slice b o.1.length c], .bool o.2]) ∧ OwnK w.heap.size w'.heap.size b o.1 w' ∧ Below w.heap.size w w'
theorem off_in {B R : Nat} {p : Option Addr} {l : List Int} {w : World} (h : Is B p l w) (hR : B ≤ R) : OffR R l.length p := fun h0 o f e => by
  obtain ⟨b, off, e1, hb, _⟩ := h.cell h0
  rw [e1] at e
  injection e with e
  injection e with e _ _
  omega
theorem RowK.low {lo lo' R : Nat} {L : List (Ly × LA)} {w : World} (h : RowK lo R L w) (g : lo' ≤ lo) : RowK lo' R L w := ⟨Nat.le_trans g h.r0, h.row, h.fit⟩
theorem belowSet {lo : Nat} {w v : World} (h : Below lo w v) (X : Nat) (u : Value) (hX : lo ≤ X) : Below lo w (v.setCell ⟨X, 0, none⟩ u) := setB h X 0 hX u
set_option maxHeartbeats 8000000 in
theorem scopy_any (a b : Option Addr) (c d : Nat) (A B : List Ly) (p : Option Addr) (cp : Nat) (l : List Int) (w : World) (hA : Mr a c A w) (hB : Mr b d B w) (hln : l.length ≤ 1048576) (hI : Is w.heap.size p l w) :
    Calls Try.prog 5 #[.agg #[.slice a A.length c], .agg #[.slice b B.length d], .slice p l.length cp] w (COut (cpbK A B l) w) := by
  obtain ⟨⟨k0, k1, k2⟩, hz⟩ := alloc3 w (.cells #[.slice a A.length c] 29) (.cells #[.slice b B.length d] 29) (.cells #[.slice none 0 0] 29)
  have b0 : Below w.heap.size w (((w.alloc (.cells #[.slice a A.length c] 29)).alloc (.cells #[.slice b B.length d] 29)).alloc (.cells #[.slice none 0 0] 29)) := ((boxB _ _).trans ((boxB _ _).mono (boxB _ _).size)).trans ((boxB _ _).mono ((boxB _ _).trans ((boxB _ _).mono (boxB _ _).size)).size)
  generalize hW : (((w.alloc (.cells #[.slice a A.length c] 29)).alloc (.cells #[.slice b B.length d] 29)).alloc (.cells #[.slice none 0 0] 29)) = W at *
  have HX : Hid (∀ v, Below W.heap.size W v → v.cell? ⟨w.heap.size, 0, none⟩ = some (.slice a A.length c) ∧ v.cell? ⟨w.heap.size + 1, 0, none⟩ = some (.slice b B.length d)) := fun v g => ⟨box_cell ((g.block _ (by omega)).trans k0) 0, box_cell ((g.block _ (by omega)).trans k1) 0⟩
  have HZ : Hid (∀ v, Below W.heap.size W v → v.heap[w.heap.size + 1 + 1]? = some (.cells #[.slice none 0 0] 29)) := fun v g => (g.block _ (by omega)).trans k2
  have HU : Hid (∀ v, Below W.heap.size W v → Below w.heap.size w v) := fun v g => b0.trans (g.mono b0.size)
  have HA : Hid (∀ v, Below W.heap.size W v → Mr a c A v) := fun v g => hA.on (HU.out v g)
  have HB : Hid (∀ v, Below W.heap.size W v → Mr b d B v) := fun v g => hB.on (HU.out v g)
  have B0 : Hid (Below W.heap.size W W) := Below.refl _ _
  have HZW : Hid (W.heap.size = w.heap.size + 1 + 1 + 1) := hz
  obtain ⟨x0, x1⟩ := HX.out _ B0.out
  have HU3 : Hid (∀ v, Below W.heap.size W v → ∀ u, Below w.heap.size w (v.setCell ⟨w.heap.size + 1 + 1, 0, none⟩ u)) := fun v g u => setB (HU.out v g) (w.heap.size + 1 + 1) 0 (by have := HZW.out; omega) u
  have HIL : Hid (∀ v, Below W.heap.size W v → Is v.heap.size p l v) := fun v g => (hI.below (HU.out v g)).mono (HU.out v g).size
  have HIW := hid hI
  have HNO : Hid (¬ CopOk A B l → cpbK A B l = ([], false)) := fun h => if_neg h
  have HYES : Hid (CopOk A B l → cpbK A B l = (copK A B l, true)) := fun h => if_pos h
  have HG1 : Hid (∀ v, Below W.heap.size W v → Calls Try.prog 15 #[.agg #[.slice a A.length c]] v fun e w' => e = .returned (.bool (goodK A)) ∧ Below v.heap.size v w') := fun v g => (HA.out v g).sgood
  have HG2 : Hid (∀ v, Below W.heap.size W v → Calls Try.prog 15 #[.agg #[.slice b B.length d]] v fun e w' => e = .returned (.bool (goodK B)) ∧ Below v.heap.size v w') := fun v g => (HB.out v g).sgood
  have HRI : Hid (∀ v, Below W.heap.size W v → Calls Try.prog 16 #[.slice p l.length cp, .int .i64 0, .int .i64 15] v fun e w' => e = .returned (.bool (decide (RiseOk l))) ∧ w' = v) := fun v g => l1Rising_any p cp l v hln (HIL.out v g)
  have HLN := hid hln
  clear hA hB k0 k1 k2 b0 hz hI hln
  go_enter Try.func5, Try.ntmps5
  go_wp2_with fail
  clear hW
  refine (HG1.out _ B0.out).mono ?_
  rintro e w1 ⟨rfl, g1⟩
  have B1 : Hid (Below W.heap.size W w1) := B0.out.trans (g1.mono B0.out.size)
  clear g1 x0 x1
  obtain ⟨x0, x1⟩ := HX.out _ B1.out
  by_cases hgA : GoodK A
  case neg =>
    have E0 := hid (HNO.out (fun h => hgA h.1))
    rw [goodK_no hgA]
    clear hgA HNO HYES
    have z0 := box_cell (HZ.out _ B1.out) 0
    have f0 := box_free (HZ.out _ B1.out) 0
    have e0 : (w1.setCell ⟨w.heap.size + 1 + 1, 0, none⟩ (.slice none 0 0)).cell? ⟨w.heap.size + 1 + 1, 0, none⟩ = some (.slice none 0 0) := World.cell?_setCell_same _ _ _ z0
    have HB7 := hid (HU3.out _ B1.out (.slice none 0 0))
    go_wp2_with fail
    generalize w1.setCell ⟨w.heap.size + 1 + 1, 0, none⟩ (.slice none 0 0) = XX at *
    refine bodyPost_ret (v := .tuple #[.agg #[.slice none 0 0], .bool false]) (by simp [results, Try.results5, go_sem, e0]) rfl ?_
    rw [E0.out]
    exact ⟨none, 0, rfl, fun h0 => absurd h0 (by simp), HB7.out⟩
  rw [goodK_iff.2 hgA]
  have GA := hid hgA
  clear hgA
  go_wp2_with fail
  refine (HG2.out _ B1.out).mono ?_
  rintro e w2 ⟨rfl, g2⟩
  have B2 : Hid (Below W.heap.size W w2) := B1.out.trans (g2.mono B1.out.size)
  clear g2 x0 x1
  obtain ⟨x0, x1⟩ := HX.out _ B2.out
  by_cases hgB : GoodK B
  case neg =>
    have E0 := hid (HNO.out (fun h => hgB h.2.1))
    rw [goodK_no hgB]
    clear hgB HNO HYES
    have z0 := box_cell (HZ.out _ B2.out) 0
    have f0 := box_free (HZ.out _ B2.out) 0
    have e0 : (w2.setCell ⟨w.heap.size + 1 + 1, 0, none⟩ (.slice none 0 0)).cell? ⟨w.heap.size + 1 + 1, 0, none⟩ = some (.slice none 0 0) := World.cell?_setCell_same _ _ _ z0
    have HB7 := hid (HU3.out _ B2.out (.slice none 0 0))
    go_wp2_with fail
    generalize w2.setCell ⟨w.heap.size + 1 + 1, 0, none⟩ (.slice none 0 0) = XX at *
    refine bodyPost_ret (v := .tuple #[.agg #[.slice none 0 0], .bool false]) (by simp [results, Try.results5, go_sem, e0]) rfl ?_
    rw [E0.out]
    exact ⟨none, 0, rfl, fun h0 => absurd h0 (by simp), HB7.out⟩
  rw [goodK_iff.2 hgB]
  have GB := hid hgB
  clear hgB
  go_wp2_with fail
  refine (HRI.out _ B2.out).mono ?_
  rintro e w3 ⟨rfl, rfl⟩
  by_cases hr : RiseOk l
  case neg =>
    have E0 := hid (HNO.out (fun h => hr h.2.2))
    rw [decide_eq_false hr]
    clear hr HNO HYES
    have z0 := box_cell (HZ.out _ B2.out) 0
    have f0 := box_free (HZ.out _ B2.out) 0
    have e0 : (w3.setCell ⟨w.heap.size + 1 + 1, 0, none⟩ (.slice none 0 0)).cell? ⟨w.heap.size + 1 + 1, 0, none⟩ = some (.slice none 0 0) := World.cell?_setCell_same _ _ _ z0
    have HB7 := hid (HU3.out _ B2.out (.slice none 0 0))
    go_wp2_with fail
    generalize w3.setCell ⟨w.heap.size + 1 + 1, 0, none⟩ (.slice none 0 0) = XX at *
    refine bodyPost_ret (v := .tuple #[.agg #[.slice none 0 0], .bool false]) (by simp [results, Try.results5, go_sem, e0]) rfl ?_
    rw [E0.out]
    exact ⟨none, 0, rfl, fun h0 => absurd h0 (by simp), HB7.out⟩
  rw [decide_eq_true hr]
  have E0 := hid (HYES.out ⟨GA.out, GB.out, hr⟩)
  have hin := rise_in hr
  obtain ⟨n, hn⟩ : ∃ n, A.length = n + 1 := ⟨A.length - 1, by have := GA.out.1; omega⟩
  obtain ⟨nb, hnb⟩ : ∃ nb, B.length = nb + 1 := ⟨B.length - 1, by have := GB.out.1; omega⟩
  have HO : Hid (∀ v, Below W.heap.size W v → Calls Try.prog 18 #[.agg #[.slice a (n + 1) c]] v fun e w' => ∃ R cv L, e = .returned (.agg #[.slice (some ⟨R, 0, none⟩) (n + 1) cv]) ∧ L.map (·.1) = A ∧ RowK v.heap.size R L w' ∧ n + 1 ≤ cv ∧ Below v.heap.size v w') := fun v g => l7OwnR_any a c A n v GA.out hn (HA.out v g).ys
  have HC := hid (cop_any W b d n A B l GA.out hn GB.out (HB.out _ B0.out) hin HLN.out)
  have hgo := copK_good GA.out GB.out hin
  have HF : Hid (∀ (lo R cv : Nat) (L : List (Ly × LA)) (v : World), L.map (·.1) = copK A B l → RowK lo R L v → Calls Try.prog 18 #[.agg #[.slice (some ⟨R, 0, none⟩) (n + 1) cv]] v fun e w' => ∃ b9 c9, e = .returned (.agg #[.slice b9 (n + 1) c9]) ∧ Ys w'.heap.size b9 (copK A B l) w' ∧ Below v.heap.size v w') := fun lo R cv L v h1 h2 => by
    have hy := h2.ys
    rw [h1] at hy
    refine (l7OwnR_any (some ⟨R, 0, none⟩) cv _ n v hgo.1 (by rw [hgo.2.1, hn]) hy).mono fun e w' h => ?_
    obtain ⟨R9, c9, L9, e1, e2, e3, _, e5⟩ := h
    have hy9 := e3.ys
    rw [e2] at hy9
    exact ⟨_, _, e1, hy9, e5⟩
  have HDONE : Hid (∀ b8 c8 XX, Ys XX.heap.size b8 (copK A B l) XX → Below w.heap.size w XX → COut (cpbK A B l) w (.returned (.tuple #[.agg #[.slice b8 (n + 1) c8], .bool true])) XX) := fun b8 c8 XX h1 h2 => by
    rw [E0.out]
    refine ⟨b8, c8, ?_, h1, h2⟩
    rw [hgo.2.1, hn]
  rw [hn, hnb] at HX
  rw [hn] at x0
  rw [hnb] at x1
  try rw [hn]
  try rw [hnb]
  rw [hnb] at HC
  clear hr hin HNO HYES hgo E0 HA HB hn hnb HRI HG1 HG2
  go_upto_region 3 with fail
  have hT0 : Below W.heap.size W w3.drew := B2.out.trans ((Below.refl _ _).drew.mono B2.out.size)
  refine wp_region_L (fun v : World => Below W.heap.size W v) 10 (by kernel_rfl) ?_
  generalize w3.drew = Wd at *
  have hHeld := hT0
  refine wpAnyL_take (i := 0) (v := .agg #[.slice a (n + 1) c]) (C := [0, 1, 4, 5, 6, 7, 9, 10]) rfl (by kernel_rfl) (fun _ _ _ h => h) (Or.inl ⟨by rfl, fun u hu => by obtain ⟨h1, h2⟩ := HX.out u hu; go_simp⟩) hHeld ?_
  dsimp only [Act.put]
  refine wpAnyL_take (i := 2) (v := .agg #[.slice b (nb + 1) d]) (C := [2, 4, 5, 6, 7, 9, 10]) rfl (by kernel_rfl) (fun _ _ _ h => h) (Or.inl ⟨by rfl, fun u hu => by obtain ⟨h1, h2⟩ := HX.out u hu; go_simp⟩) hHeld ?_
  dsimp only [Act.put]
  refine wpAnyL_take (i := 3) (v := .slice p l.length cp) (C := [3, 4, 5, 6, 7, 9, 10]) rfl (by kernel_rfl) (fun _ _ _ h => h) (Or.inl ⟨by rfl, fun _ _ => by go_simp⟩) hHeld ?_
  dsimp only [Act.put]
  refine wpAnyL_two (i := 1) (j := 8) (by kernel_rfl) rfl rfl (fun K hK => ?_) (fun K hK => ?_)
  · rw [if_pos (by rfl)]
    go_simp
    go_wp2_with (go_at_call 18; refine (HO.out _ hHeld).mono ?_; rintro e u1 ⟨R, cv, L, rfl, hLm, hrow, hcv, gg⟩)
    have hb1 : Below W.heap.size W u1 := hHeld.trans (gg.mono hHeld.size)
    have hR0 : W.heap.size ≤ R := Nat.le_trans hHeld.size hrow.r0
    have hRl := hrow.row.lt
    have hrow := hrow.low hHeld.size
    have hT1 : Below W.heap.size W u1 := hb1
    refine hK.out _ _ (fun _ => hT1) ?_
    clear hK K hHeld
    have hHeld := hT1
    try dsimp only [Act.put]
    refine wpAnyL_two (i := 4) (j := 8) (by kernel_rfl) rfl rfl (fun K hK => ?_) (fun K hK => ?_)
    · rw [if_pos (by rfl)]
      go_simp
      have hoff : OffR R l.length p := off_in HIW.out (by have := HZW.out; omega)
      have HCx := HC.out _ _ _ cp _ p _ (Nat.le_refl _) hLm hcv hrow hHeld (HIL.out _ hHeld) hoff
      go_wp2_with (go_at_call 17; refine HCx.mono ?_; rintro e u2 ⟨L2, rfl, hLm2, hrow2, hkr, hb2⟩)
      have hRl := Nat.lt_of_lt_of_le hRl hkr.size
      clear hrow
      have hrow := hrow2
      clear hrow2 hkr hoff HCx
      have hT2 : Below W.heap.size W u2 := hb2
      refine hK.out _ _ (fun _ => hT2) ?_
      clear hK K hHeld
      have hHeld := hT2
      try dsimp only [Act.put]
      refine wpAnyL_take (i := 5) (v := .tuple #[.agg #[.slice (some ⟨R, 0, none⟩) (n + 1) cv], .int .i64 (copN A B l : Nat)]) (C := [5, 6, 7, 9, 10]) rfl (by kernel_rfl) (fun _ _ _ h => h) (Or.inl ⟨by rfl, fun _ _ => by go_simp⟩) hHeld ?_
      dsimp only [Act.put]
      refine wpAnyL_take (i := 6) (v := .agg #[.slice (some ⟨R, 0, none⟩) (n + 1) cv]) (C := [6, 9, 10]) rfl (by kernel_rfl) (fun _ _ _ h => h) (Or.inl ⟨by rfl, fun _ _ => by go_simp⟩) hHeld ?_
      dsimp only [Act.put]
      refine wpAnyL_take (i := 7) (v := .int .i64 (copN A B l : Nat)) (C := [7, 10]) rfl (by kernel_rfl) (fun _ _ _ h => h) (Or.inl ⟨by rfl, fun _ _ => by go_simp⟩) hHeld ?_
      dsimp only [Act.put]
      refine wpAnyL_one (i := 8) (by kernel_rfl) rfl (fun K hK => ?_)
      rw [if_pos (by rfl)]
      go_simp
      have gb := boxB u2 (.cells #[.slice none 0 0] 29)
      have hbx := heap_last u2 (.cells #[.slice none 0 0] 29)
      have hT3 : Below W.heap.size W (u2.alloc (.cells #[.slice none 0 0] 29)) := hHeld.trans (gb.mono hHeld.size)
      have hrow_n := hrow.on gb
      clear hrow
      have hrow := hrow_n
      clear hrow_n
      have hRl2 := Nat.lt_of_lt_of_le hRl gb.size
      have hbo : u2.heap.size < (u2.alloc (.cells #[.slice none 0 0] 29)).heap.size := by rw [heap_size]; omega
      have hbw : W.heap.size ≤ u2.heap.size := hHeld.size
      have hne : u2.heap.size ≠ R := fun e => by have := hRl; omega
      refine hK.out _ _ (fun _ => hT3) ?_
      clear hK K hHeld
      have hHeld := hT3
      clear gb
      try dsimp only [Act.put]
      generalize hW3 : u2.alloc (.cells #[.slice none 0 0] 29) = u3 at *
      generalize hBx : u2.heap.size = Bx at *
      clear hRl
      have hRl := hRl2
      clear hRl2
      have hc0 := box_cell hbx 0
      have hf0 := box_free hbx 0
      have hbx2 := box_set hbx 0 (.slice (some ⟨R, 0, none⟩) (n + 1) cv)
      have hro2 := hrow.box hne hbx (.slice (some ⟨R, 0, none⟩) (n + 1) cv)
      have hbe := belowSet hHeld Bx (.slice (some ⟨R, 0, none⟩) (n + 1) cv) hbw
      refine wpAnyL_one (i := 9) (by kernel_rfl) rfl (fun K hK => ?_)
      rw [if_pos (by rfl)]
      go_simp
      refine hK.out _ _ (fun _ => hbe) ?_
      clear hK K hHeld
      have hHeld := hbe
      try dsimp only [Act.put]
      refine wpAnyL_one (i := 10) (by kernel_rfl) rfl (fun K hK => ?_)
      rw [if_pos (by rfl)]
      go_simp
      refine hK.out _ _ (fun h => absurd rfl h) ?_
      clear hK K hHeld
      refine wpAnyL_done (by kernel_rfl) ?_
      generalize (u3.setCell ⟨Bx, 0, none⟩ (.slice (some ⟨R, 0, none⟩) (n + 1) cv)) = W7 at *
      have c7 := box_cell hbx2 0
      have HFN := hid (HF.out _ _ cv _ _ hLm2 hro2)
      have HB7 := hid hbe
      clear hc0 hf0 hbx2 hro2 hbe hrow hLm2
      go_wp2_with fail
      refine HFN.out.mono ?_
      rintro e W8 ⟨b8, c8, rfl, hY8, g8⟩
      have B8 := HB7.out.trans (g8.mono HB7.out.size)
      have hz8 := HZ.out _ B8
      have y8 := box_cell hz8 0
      have f8 := box_free hz8 0
      have q8 := box_set hz8 0 (.slice b8 (n + 1) c8)
      have e0 := box_cell q8 0
      have HY9 := hid (ys_set hY8 hz8 (.slice b8 (n + 1) c8))
      have HB9 := hid (HU3.out _ B8 (.slice b8 (n + 1) c8))
      clear hz8 q8 hY8 B8 g8
      go_wp2_with fail
      generalize W8.setCell ⟨w.heap.size + 1 + 1, 0, none⟩ (.slice b8 (n + 1) c8) = XX at *
      refine bodyPost_ret (v := .tuple #[.agg #[.slice b8 (n + 1) c8], .bool true]) (by simp [results, Try.results5, go_sem, e0]) rfl ?_
      exact HDONE.out _ _ _ HY9.out HB9.out
    · rw [if_pos (by rfl)]
      go_simp
      have gb := boxB u1 (.cells #[.slice none 0 0] 29)
      have hbx := heap_last u1 (.cells #[.slice none 0 0] 29)
      have hT2 : Below W.heap.size W (u1.alloc (.cells #[.slice none 0 0] 29)) := hHeld.trans (gb.mono hHeld.size)
      have hrow_n := hrow.on gb
      clear hrow
      have hrow := hrow_n
      clear hrow_n
      have hRl2 := Nat.lt_of_lt_of_le hRl gb.size
      have hbo : u1.heap.size < (u1.alloc (.cells #[.slice none 0 0] 29)).heap.size := by rw [heap_size]; omega
      have hbw : W.heap.size ≤ u1.heap.size := hHeld.size
      have hne : u1.heap.size ≠ R := fun e => by have := hRl; omega
      refine hK.out _ _ (fun _ => hT2) ?_
      clear hK K hHeld
      have hHeld := hT2
      clear gb
      try dsimp only [Act.put]
      generalize hW2 : u1.alloc (.cells #[.slice none 0 0] 29) = u2 at *
      generalize hBx : u1.heap.size = Bx at *
      clear hRl
      have hRl := hRl2
      clear hRl2
      refine wpAnyL_one (i := 4) (by kernel_rfl) rfl (fun K hK => ?_)
      rw [if_pos (by rfl)]
      go_simp
      have hoff : OffR R l.length p := off_in HIW.out (by have := HZW.out; omega)
      have HCx := HC.out _ _ _ cp _ p _ (Nat.le_refl _) hLm hcv hrow hHeld (HIL.out _ hHeld) hoff
      go_wp2_with (go_at_call 17; refine HCx.mono ?_; rintro e u3 ⟨L2, rfl, hLm2, hrow2, hkr, hb3⟩)
      have hbx := (hkr.block _ hbo hne).trans hbx
      have hRl := Nat.lt_of_lt_of_le hRl hkr.size
      clear hrow
      have hrow := hrow2
      clear hrow2 hkr hoff HCx
      have hT3 : Below W.heap.size W u3 := hb3
      refine hK.out _ _ (fun _ => hT3) ?_
      clear hK K hHeld
      have hHeld := hT3
      try dsimp only [Act.put]
      refine wpAnyL_take (i := 5) (v := .tuple #[.agg #[.slice (some ⟨R, 0, none⟩) (n + 1) cv], .int .i64 (copN A B l : Nat)]) (C := [5, 6, 7, 9, 10]) rfl (by kernel_rfl) (fun _ _ _ h => h) (Or.inl ⟨by rfl, fun _ _ => by go_simp⟩) hHeld ?_
      dsimp only [Act.put]
      refine wpAnyL_take (i := 6) (v := .agg #[.slice (some ⟨R, 0, none⟩) (n + 1) cv]) (C := [6, 9, 10]) rfl (by kernel_rfl) (fun _ _ _ h => h) (Or.inl ⟨by rfl, fun _ _ => by go_simp⟩) hHeld ?_
      dsimp only [Act.put]
      refine wpAnyL_take (i := 7) (v := .int .i64 (copN A B l : Nat)) (C := [7, 10]) rfl (by kernel_rfl) (fun _ _ _ h => h) (Or.inl ⟨by rfl, fun _ _ => by go_simp⟩) hHeld ?_
      dsimp only [Act.put]
      have hc0 := box_cell hbx 0
      have hf0 := box_free hbx 0
      have hbx2 := box_set hbx 0 (.slice (some ⟨R, 0, none⟩) (n + 1) cv)
      have hro2 := hrow.box hne hbx (.slice (some ⟨R, 0, none⟩) (n + 1) cv)
      have hbe := belowSet hHeld Bx (.slice (some ⟨R, 0, none⟩) (n + 1) cv) hbw
      refine wpAnyL_one (i := 9) (by kernel_rfl) rfl (fun K hK => ?_)
      rw [if_pos (by rfl)]
      go_simp
      refine hK.out _ _ (fun _ => hbe) ?_
      clear hK K hHeld
      have hHeld := hbe
      try dsimp only [Act.put]
      refine wpAnyL_one (i := 10) (by kernel_rfl) rfl (fun K hK => ?_)
      rw [if_pos (by rfl)]
      go_simp
      refine hK.out _ _ (fun h => absurd rfl h) ?_
      clear hK K hHeld
      refine wpAnyL_done (by kernel_rfl) ?_
      generalize (u3.setCell ⟨Bx, 0, none⟩ (.slice (some ⟨R, 0, none⟩) (n + 1) cv)) = W7 at *
      have c7 := box_cell hbx2 0
      have HFN := hid (HF.out _ _ cv _ _ hLm2 hro2)
      have HB7 := hid hbe
      clear hc0 hf0 hbx2 hro2 hbe hrow hLm2
      go_wp2_with fail
      refine HFN.out.mono ?_
      rintro e W8 ⟨b8, c8, rfl, hY8, g8⟩
      have B8 := HB7.out.trans (g8.mono HB7.out.size)
      have hz8 := HZ.out _ B8
      have y8 := box_cell hz8 0
      have f8 := box_free hz8 0
      have q8 := box_set hz8 0 (.slice b8 (n + 1) c8)
      have e0 := box_cell q8 0
      have HY9 := hid (ys_set hY8 hz8 (.slice b8 (n + 1) c8))
      have HB9 := hid (HU3.out _ B8 (.slice b8 (n + 1) c8))
      clear hz8 q8 hY8 B8 g8
      go_wp2_with fail
      generalize W8.setCell ⟨w.heap.size + 1 + 1, 0, none⟩ (.slice b8 (n + 1) c8) = XX at *
      refine bodyPost_ret (v := .tuple #[.agg #[.slice b8 (n + 1) c8], .bool true]) (by simp [results, Try.results5, go_sem, e0]) rfl ?_
      exact HDONE.out _ _ _ HY9.out HB9.out
  · rw [if_pos (by rfl)]
    go_simp
    have gb := boxB Wd (.cells #[.slice none 0 0] 29)
    have hbx := heap_last Wd (.cells #[.slice none 0 0] 29)
    have hT1 : Below W.heap.size W (Wd.alloc (.cells #[.slice none 0 0] 29)) := hHeld.trans (gb.mono hHeld.size)
    have hbo : Wd.heap.size < (Wd.alloc (.cells #[.slice none 0 0] 29)).heap.size := by rw [heap_size]; omega
    have hbw : W.heap.size ≤ Wd.heap.size := hHeld.size
    refine hK.out _ _ (fun _ => hT1) ?_
    clear hK K hHeld
    have hHeld := hT1
    clear gb
    try dsimp only [Act.put]
    generalize hW1 : Wd.alloc (.cells #[.slice none 0 0] 29) = u1 at *
    generalize hBx : Wd.heap.size = Bx at *
    refine wpAnyL_one (i := 1) (by kernel_rfl) rfl (fun K hK => ?_)
    rw [if_pos (by rfl)]
    go_simp
    go_wp2_with (go_at_call 18; refine (HO.out _ hHeld).mono ?_; rintro e u2 ⟨R, cv, L, rfl, hLm, hrow, hcv, gg⟩)
    have hb2 : Below W.heap.size W u2 := hHeld.trans (gg.mono hHeld.size)
    have hR0 : W.heap.size ≤ R := Nat.le_trans hHeld.size hrow.r0
    have hRl := hrow.row.lt
    have hne : Bx ≠ R := fun e => by have := hrow.r0; omega
    have hbx := (gg.block _ hbo).trans hbx
    have hbo := Nat.lt_of_lt_of_le hbo gg.size
    have hrow := hrow.low hHeld.size
    have hT2 : Below W.heap.size W u2 := hb2
    refine hK.out _ _ (fun _ => hT2) ?_
    clear hK K hHeld
    have hHeld := hT2
    try dsimp only [Act.put]
    refine wpAnyL_one (i := 4) (by kernel_rfl) rfl (fun K hK => ?_)
    rw [if_pos (by rfl)]
    go_simp
    have hoff : OffR R l.length p := off_in HIW.out (by have := HZW.out; omega)
    have HCx := HC.out _ _ _ cp _ p _ (Nat.le_refl _) hLm hcv hrow hHeld (HIL.out _ hHeld) hoff
    go_wp2_with (go_at_call 17; refine HCx.mono ?_; rintro e u3 ⟨L2, rfl, hLm2, hrow2, hkr, hb3⟩)
    have hbx := (hkr.block _ hbo hne).trans hbx
    have hRl := Nat.lt_of_lt_of_le hRl hkr.size
    clear hrow
    have hrow := hrow2
    clear hrow2 hkr hoff HCx
    have hT3 : Below W.heap.size W u3 := hb3
    refine hK.out _ _ (fun _ => hT3) ?_
    clear hK K hHeld
    have hHeld := hT3
    try dsimp only [Act.put]
    refine wpAnyL_take (i := 5) (v := .tuple #[.agg #[.slice (some ⟨R, 0, none⟩) (n + 1) cv], .int .i64 (copN A B l : Nat)]) (C := [5, 6, 7, 9, 10]) rfl (by kernel_rfl) (fun _ _ _ h => h) (Or.inl ⟨by rfl, fun _ _ => by go_simp⟩) hHeld ?_
    dsimp only [Act.put]
    refine wpAnyL_take (i := 6) (v := .agg #[.slice (some ⟨R, 0, none⟩) (n + 1) cv]) (C := [6, 9, 10]) rfl (by kernel_rfl) (fun _ _ _ h => h) (Or.inl ⟨by rfl, fun _ _ => by go_simp⟩) hHeld ?_
    dsimp only [Act.put]
    refine wpAnyL_take (i := 7) (v := .int .i64 (copN A B l : Nat)) (C := [7, 10]) rfl (by kernel_rfl) (fun _ _ _ h => h) (Or.inl ⟨by rfl, fun _ _ => by go_simp⟩) hHeld ?_
    dsimp only [Act.put]
    have hc0 := box_cell hbx 0
    have hf0 := box_free hbx 0
    have hbx2 := box_set hbx 0 (.slice (some ⟨R, 0, none⟩) (n + 1) cv)
    have hro2 := hrow.box hne hbx (.slice (some ⟨R, 0, none⟩) (n + 1) cv)
    have hbe := belowSet hHeld Bx (.slice (some ⟨R, 0, none⟩) (n + 1) cv) hbw
    refine wpAnyL_one (i := 9) (by kernel_rfl) rfl (fun K hK => ?_)
    rw [if_pos (by rfl)]
    go_simp
    refine hK.out _ _ (fun _ => hbe) ?_
    clear hK K hHeld
    have hHeld := hbe
    try dsimp only [Act.put]
    refine wpAnyL_one (i := 10) (by kernel_rfl) rfl (fun K hK => ?_)
    rw [if_pos (by rfl)]
    go_simp
    refine hK.out _ _ (fun h => absurd rfl h) ?_
    clear hK K hHeld
    refine wpAnyL_done (by kernel_rfl) ?_
    generalize (u3.setCell ⟨Bx, 0, none⟩ (.slice (some ⟨R, 0, none⟩) (n + 1) cv)) = W7 at *
    have c7 := box_cell hbx2 0
    have HFN := hid (HF.out _ _ cv _ _ hLm2 hro2)
    have HB7 := hid hbe
    clear hc0 hf0 hbx2 hro2 hbe hrow hLm2
    go_wp2_with fail
    refine HFN.out.mono ?_
    rintro e W8 ⟨b8, c8, rfl, hY8, g8⟩
    have B8 := HB7.out.trans (g8.mono HB7.out.size)
    have hz8 := HZ.out _ B8
    have y8 := box_cell hz8 0
    have f8 := box_free hz8 0
    have q8 := box_set hz8 0 (.slice b8 (n + 1) c8)
    have e0 := box_cell q8 0
    have HY9 := hid (ys_set hY8 hz8 (.slice b8 (n + 1) c8))
    have HB9 := hid (HU3.out _ B8 (.slice b8 (n + 1) c8))
    clear hz8 q8 hY8 B8 g8
    go_wp2_with fail
    generalize W8.setCell ⟨w.heap.size + 1 + 1, 0, none⟩ (.slice b8 (n + 1) c8) = XX at *
    refine bodyPost_ret (v := .tuple #[.agg #[.slice b8 (n + 1) c8], .bool true]) (by simp [results, Try.results5, go_sem, e0]) rfl ?_
    exact HDONE.out _ _ _ HY9.out HB9.out
end Go.Proofs.Ytlifhakgboekfab
namespace Go.Proofs.Ytlifhakgboekfab
set_option maxRecDepth 100000
open Go Go.ChangeShapes Go.WideShapes Go.ChangeAt Go.RowKit
theorem field_made (x y : Value) (w : World) : (Instr.field 50 (.agg #[x, y]) 0).run Try.prog w = .ok (.agg #[x]) w := by kernel_rfl
theorem field_read (x : Value) (w : World) : (Instr.field 48 (.agg #[x]) 0).run Try.prog w = .ok (.agg #[x]) w := by kernel_rfl
set_option maxHeartbeats 2000000 in
theorem areRising_any (a : Option Addr) (cap : Nat) (l : List Int) (w : World) (hn : l.length ≤ 1048576) (hI : Is w.heap.size a l w) :
    Calls Try.prog 21 #[.slice a l.length cap] w fun e w' => e = .returned (.bool (decide (RiseOk l))) ∧ w' = w := by
  have HI := hid hI
  clear hI
  obtain ⟨o, ho⟩ : ∃ o, decide (RiseOk l) = o := ⟨_, rfl⟩
  have HNO : Hid (¬ RiseOk l → o = false) := fun h => ho.symm.trans (decide_eq_false h)
  have HYE : Hid (RiseOk l → o = true) := fun h => ho.symm.trans (decide_eq_true h)
  rw [ho]
  clear ho
  go_enter Try.func21, Try.ntmps21
  go_wp2_with fail
  go_loopw [3, 8] (fun s i wr => ∃ k : Nat, k ≤ l.length ∧ i = .int .i64 k ∧ s = .int .i64 (aheadI l k) ∧ (∀ j (h : j < l.length), j < k → blOk l j l[j]) ∧ wr = w) (fun _ i _ => l.length - (intOf i).toNat)
  case atStart => exact ⟨0, Nat.zero_le _, rfl, rfl, (fun _ _ h => absurd h (Nat.not_lt_zero _)), rfl⟩
  case round =>
    obtain ⟨k, hk, rfl, rfl, hall, hwr⟩ := hrel
    subst hwr
    have HALL := hid hall
    clear hall
    by_cases hlt : k < l.length
    · obtain ⟨b, off, rfl, hb, hc⟩ := HI.out.cell (by omega)
      have c0 := hc k hlt
      have HN : Hid (¬ blOk l k l[k] → o = false) := fun g => HNO.out (fun h => g (h k hlt))
      have HY : Hid (blOk l k l[k] → ∀ j (h : j < l.length), j < k + 1 → blOk l j l[j]) := fun g j hj hjk => by
        by_cases e : j = k
        · subst e; exact g
        · exact HALL.out j hj (by omega)
      have HA := hid (aheadI_at l k hlt)
      unfold blOk at HN HY
      clear hc HALL
      generalize l[k] = x at *
      generalize aheadI l k = ah at *
      by_cases h1 : x ≤ ah
      · have d1 : decide (x ≤ ah) = true := decide_eq_true h1
        have E := hid (HN.out (fun g => by omega))
        clear HN HY
        go_wp2_with fail
        go_ret
        exact ⟨by rw [E.out] <;> rfl, rfl⟩
      have d1 : decide (x ≤ ah) = false := decide_eq_false h1
      by_cases h2 : 0 ≤ x ∧ x ≤ 15
      case neg =>
        have E := hid (HN.out (fun g => h2 g.2))
        have HC := hid (fun u => isBlock_no x u h2)
        clear HN HY h2
        go_wp2_with fail
        refine (HC.out _).mono ?_
        rintro e w7 ⟨rfl, rfl⟩
        go_wp2_with fail
        go_ret
        exact ⟨by rw [E.out] <;> rfl, rfl⟩
      have HY2 := hid (HY.out ⟨by omega, h2.1, h2.2⟩)
      have HC := hid (fun u => isBlock_yes x u h2)
      clear HN HY h2
      go_wp2_with fail
      refine (HC.out _).mono ?_
      rintro e w7 ⟨rfl, rfl⟩
      go_wp2_with fail
      go_roundw
      case rel => exact ⟨k + 1, by omega, by go_num, by rw [HA.out], HY2.out, by first | rfl | trivial⟩
      case measure => simp [intOf]; omega
    · obtain rfl : k = l.length := by omega
      have E := hid (HYE.out (fun j h => HALL.out j h h))
      go_wp2_with fail
      go_ret
      exact ⟨by rw [E.out] <;> rfl, rfl⟩
set_option maxHeartbeats 8000000 in
theorem icopy_any (a b : Option Addr) (c d : Nat) (A B : List Ly) (p : Option Addr) (cp : Nat) (l : List Int) (w : World) (hA : Mr a c A w) (hB : Mr b d B w) (hln : l.length ≤ 1048576) (hI : Is w.heap.size p l w) :
    Calls Try.prog 8 #[.agg #[.slice a A.length c], .agg #[.slice b B.length d], .slice p l.length cp] w (COwn (cpbK A B l) w) := by
  obtain ⟨⟨k0, k1, k2⟩, hz⟩ := alloc3 w (.cells #[.slice a A.length c] 29) (.cells #[.slice b B.length d] 29) (.cells #[.slice none 0 0] 29)
  have b0 : Below w.heap.size w (((w.alloc (.cells #[.slice a A.length c] 29)).alloc (.cells #[.slice b B.length d] 29)).alloc (.cells #[.slice none 0 0] 29)) := ((boxB _ _).trans ((boxB _ _).mono (boxB _ _).size)).trans ((boxB _ _).mono ((boxB _ _).trans ((boxB _ _).mono (boxB _ _).size)).size)
  generalize hW : (((w.alloc (.cells #[.slice a A.length c] 29)).alloc (.cells #[.slice b B.length d] 29)).alloc (.cells #[.slice none 0 0] 29)) = W at *
  have HX : Hid (∀ v, Below W.heap.size W v → v.cell? ⟨w.heap.size, 0, none⟩ = some (.slice a A.length c) ∧ v.cell? ⟨w.heap.size + 1, 0, none⟩ = some (.slice b B.length d)) := fun v g => ⟨box_cell ((g.block _ (by omega)).trans k0) 0, box_cell ((g.block _ (by omega)).trans k1) 0⟩
  have HZ : Hid (∀ v, Below W.heap.size W v → v.heap[w.heap.size + 1 + 1]? = some (.cells #[.slice none 0 0] 29)) := fun v g => (g.block _ (by omega)).trans k2
  have HU : Hid (∀ v, Below W.heap.size W v → Below w.heap.size w v) := fun v g => b0.trans (g.mono b0.size)
  have HA : Hid (∀ v, Below W.heap.size W v → Mr a c A v) := fun v g => hA.on (HU.out v g)
  have HB : Hid (∀ v, Below W.heap.size W v → Mr b d B v) := fun v g => hB.on (HU.out v g)
  have B0 : Hid (Below W.heap.size W W) := Below.refl _ _
  have HZW : Hid (W.heap.size = w.heap.size + 1 + 1 + 1) := hz
  obtain ⟨x0, x1⟩ := HX.out _ B0.out
  have HU3 : Hid (∀ v, Below W.heap.size W v → ∀ u, Below w.heap.size w (v.setCell ⟨w.heap.size + 1 + 1, 0, none⟩ u)) := fun v g u => setB (HU.out v g) (w.heap.size + 1 + 1) 0 (by have := HZW.out; omega) u
  have HIL : Hid (∀ v, Below W.heap.size W v → Is v.heap.size p l v) := fun v g => (hI.below (HU.out v g)).mono (HU.out v g).size
  have HIW := hid hI
  have HNO : Hid (¬ CopOk A B l → cpbK A B l = ([], false)) := fun h => if_neg h
  have HYES : Hid (CopOk A B l → cpbK A B l = (copK A B l, true)) := fun h => if_pos h
  have HAG : Hid (Calls Try.prog 20 #[.agg #[.slice a A.length c], .agg #[.slice b B.length d]] W fun e w' => e = .returned (.bool (goodK A && goodK B)) ∧ Below W.heap.size W w') := areGood_any a b c d A B W (HA.out _ B0.out) (HB.out _ B0.out)
  have HRI : Hid (∀ v, Below W.heap.size W v → Calls Try.prog 21 #[.slice p l.length cp] v fun e w' => e = .returned (.bool (decide (RiseOk l))) ∧ w' = v) := fun v g => areRising_any p cp l v hln (HIL.out v g)
  have HML : Hid (GoodK A → GoodK B → RiseOk l → ∀ v, Below W.heap.size W v → Calls Try.prog 22 #[.agg #[.slice a A.length c], .agg #[.slice b B.length d], .slice p l.length cp] v fun e w' => ∃ q r, e = .returned (.agg #[.slice q (copK A B l).length r, .int .i64 ((copN A B l : Nat) : Int)]) ∧ OwnK v.heap.size w'.heap.size q (copK A B l) w' ∧ Below v.heap.size v w' ∧ (copK A B l).length ≤ r) := fun h1 h2 h3 v g => madeLike_any a b c d A B p cp l v (HA.out v g) (HB.out v g) h1 h2 (HIL.out v g) (rise_in h3) (rise_pw h3) hln
  clear hA hB k0 k1 k2 b0 hz hI hln HA HB
  go_enter Try.func8, Try.ntmps8
  go_wp2_with fail
  clear hW
  refine HAG.out.mono ?_
  rintro e w1 ⟨rfl, g1⟩
  have B1 : Hid (Below W.heap.size W w1) := B0.out.trans (g1.mono B0.out.size)
  clear g1 x0 x1 HAG
  obtain ⟨x0, x1⟩ := HX.out _ B1.out
  by_cases hg : GoodK A ∧ GoodK B
  case neg =>
    have E0 := hid (HNO.out (fun h => hg ⟨h.1, h.2.1⟩))
    have eg : (goodK A && goodK B) = false := by
      by_cases h : GoodK A
      · rw [goodK_no (fun h2 => hg ⟨h, h2⟩), Bool.and_false]
      · rw [goodK_no h, Bool.false_and]
    rw [eg]
    clear hg HNO HYES eg HML HRI
    have z0 := box_cell (HZ.out _ B1.out) 0
    have f0 := box_free (HZ.out _ B1.out) 0
    have e0 : (w1.setCell ⟨w.heap.size + 1 + 1, 0, none⟩ (.slice none 0 0)).cell? ⟨w.heap.size + 1 + 1, 0, none⟩ = some (.slice none 0 0) := World.cell?_setCell_same _ _ _ z0
    have HB7 := hid (HU3.out _ B1.out (.slice none 0 0))
    go_wp2_with fail
    generalize w1.setCell ⟨w.heap.size + 1 + 1, 0, none⟩ (.slice none 0 0) = XX at *
    refine bodyPost_ret (v := .tuple #[.agg #[.slice none 0 0], .bool false]) (by simp [results, Try.results8, go_sem, e0]) rfl ?_
    rw [E0.out]
    exact ⟨none, 0, rfl, Or.inl rfl, HB7.out⟩
  rw [goodK_iff.2 hg.1, goodK_iff.2 hg.2, Bool.true_and]
  have HG := hid hg
  clear hg
  go_wp2_with fail
  refine (HRI.out _ B1.out).mono ?_
  rintro e w2 ⟨rfl, rfl⟩
  by_cases hr : RiseOk l
  case neg =>
    have E0 := hid (HNO.out (fun h => hr h.2.2))
    rw [decide_eq_false hr]
    clear hr HNO HYES HML HRI
    have z0 := box_cell (HZ.out _ B1.out) 0
    have f0 := box_free (HZ.out _ B1.out) 0
    have e0 : (w2.setCell ⟨w.heap.size + 1 + 1, 0, none⟩ (.slice none 0 0)).cell? ⟨w.heap.size + 1 + 1, 0, none⟩ = some (.slice none 0 0) := World.cell?_setCell_same _ _ _ z0
    have HB7 := hid (HU3.out _ B1.out (.slice none 0 0))
    go_wp2_with fail
    generalize w2.setCell ⟨w.heap.size + 1 + 1, 0, none⟩ (.slice none 0 0) = XX at *
    refine bodyPost_ret (v := .tuple #[.agg #[.slice none 0 0], .bool false]) (by simp [results, Try.results8, go_sem, e0]) rfl ?_
    rw [E0.out]
    exact ⟨none, 0, rfl, Or.inl rfl, HB7.out⟩
  rw [decide_eq_true hr]
  have E0 := hid (HYES.out ⟨HG.out.1, HG.out.2, hr⟩)
  have HM1 := hid (HML.out HG.out.1 HG.out.2 hr _ B1.out)
  clear hr HNO HYES HML HRI
  generalize hV : copK A B l = V at *
  generalize hN : copN A B l = kn at *
  clear hV hN
  go_wp2_with fail
  refine HM1.out.mono ?_
  rintro e w3 ⟨q, r, rfl, hO, g3, hr⟩
  have B3 : Hid (Below W.heap.size W w3) := B1.out.trans (g3.mono B1.out.size)
  have hzw := HZW.out
  have hs1 := B1.out.size
  have hs3 := g3.size
  have hz3 := HZ.out _ B3.out
  have q0 := box_cell hz3 0
  have f0 := box_free hz3 0
  have e0 : (w3.setCell ⟨w.heap.size + 1 + 1, 0, none⟩ (.slice q V.length r)).cell? ⟨w.heap.size + 1 + 1, 0, none⟩ = some (.slice q V.length r) := World.cell?_setCell_same _ _ _ q0
  have HB7 := hid (HU3.out _ B3.out (.slice q V.length r))
  have HO7 : Hid (OwnK w2.heap.size w3.heap.size q V (w3.setCell ⟨w.heap.size + 1 + 1, 0, none⟩ (.slice q V.length r))) := hO.set (w.heap.size + 1 + 1) 0 (.slice q V.length r) (by omega)
  have hs7 : (w3.setCell ⟨w.heap.size + 1 + 1, 0, none⟩ (.slice q V.length r)).heap.size = w3.heap.size := by simp [World.setCell]
  have hf1 := field_made (.slice q V.length r) (.int .i64 ((kn : Nat) : Int))
  have hf2 := field_read (.slice q V.length r)
  clear g3 hO HM1 x0 x1 hz3
  go_wp2_with fail
  generalize w3.setCell ⟨w.heap.size + 1 + 1, 0, none⟩ (.slice q V.length r) = XX at *
  refine bodyPost_ret (v := .tuple #[.agg #[.slice q V.length r], .bool true]) (by simp [results, Try.results8, go_sem, e0]) rfl ?_
  rw [E0.out]
  exact ⟨q, r, rfl, (HO7.out.low (by omega)).high (by omega) (Nat.le_refl _), HB7.out⟩
end Go.Proofs.Ytlifhakgboekfab
