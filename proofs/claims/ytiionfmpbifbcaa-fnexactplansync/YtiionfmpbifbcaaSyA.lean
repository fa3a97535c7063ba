/- Lists of numbers of one's own. -/
import Derived.Test.YtiionfmpbifbcaaSyIa
import Derived.Test.YtiionfmpbifbcaaHA
import Derived.Laws.AppendOwn
namespace Go.Proofs.Ytiionfmpbifbcaa
set_option maxRecDepth 100000
open Go Go.ChangeShapes Go.WideShapes Go.ChangeAt Go.RowKit
theorem ivals_snoc (l : List Int) (n : Int) : ivals (l ++ [n]) = ivals l ++ [.int .i64 n] := by simp [ivals]
theorem ivals_app (l m : List Int) : ivals (l ++ m) = ivals l ++ ivals m := by simp [ivals]
theorem ivals_len (l : List Int) : (ivals l).length = l.length := by simp [ivals]
/-- one number in a box of its own, read as a list -/
theorem irow_one (w : World) (n : Int) : Is (w.alloc (.cells #[.int .i64 n] 3)).heap.size (some ⟨w.heap.size, 0, none⟩) [n] (w.alloc (.cells #[.int .i64 n] 3)) := by
  refine ⟨fun _ => ⟨w.heap.size, 0, rfl, by simp, fun i hi j hj => ?_⟩⟩
  have hi' : i = 0 := by simpa using hi
  subst hi'
  obtain rfl : j = 0 := by omega
  rw [box_cell (heap_last _ _)]
  rfl
/-- a list of one's own that may grow -/
def AL (lo : Nat) (v : Value) (l : List Int) (w : World) : Prop := w.ownsRow lo 3 1 v l.length (ivals l)
theorem AL.nil (lo : Nat) (w : World) : AL lo (.slice none 0 0) [] w := World.ownsRow_nil _ _ _ _
theorem AL.below {lo : Nat} {v : Value} {l : List Int} {w w' : World} (h : AL lo v l w) (g : Below w.heap.size w w') : AL lo v l w' := rw_below h g
theorem AL.mono {lo lo' : Nat} {v : Value} {l : List Int} {w : World} (h : AL lo v l w) (g : lo' ≤ lo) : AL lo' v l w := rw_mono h g
theorem AL.own {lo : Nat} {v : Value} {l : List Int} {w : World} (h : AL lo v l w) : ∃ b c, v = .slice b l.length c ∧ OwnI lo w.heap.size b l w ∧ l.length ≤ c := by
  obtain ⟨b, c, e, ho⟩ := own_ints h
  subst e
  exact ⟨b, c, rfl, ho, (rw_cap h).1⟩
theorem AL.form {lo : Nat} {v : Value} {l : List Int} {w : World} (h : AL lo v l w) : (v = .slice none 0 0 ∧ l = []) ∨ ∃ R c, v = .slice (some ⟨R, 0, none⟩) l.length c ∧ l.length ≤ c ∧ lo ≤ R := by
  have h9 : w.ownsRow lo 3 1 v l.length (ivals l) := h
  rcases h9.2 with ⟨e, h0⟩ | ⟨g, cap, cur, e, h1, _, h2, _⟩
  · exact Or.inl ⟨e, List.eq_nil_of_length_eq_zero h0⟩
  · subst e
    exact Or.inr ⟨g, cap, rfl, (rw_cap h9).1, h1⟩
/-- other numbers are appended -/
theorem AL.app {lo : Nat} {v : Value} {l : List Int} {w : World} (h : AL lo v l w) (hlo : lo ≤ w.heap.size) (a : Option Addr) (c : Nat) (m : List Int) (hI : Is w.heap.size a m w) (hm : l.length + m.length ≤ 10000) :
    ∃ v' w', (∀ ty, (Builtin.append_ #[34, 34] ty #[v, .slice a m.length c]).run Try.prog w = .ok v' w') ∧ AL lo v' (l ++ m) w' ∧ Below lo w w' ∧ w.grownBy w' v.ownBlock ∧ (v'.ownBlock = v.ownBlock ∨ v'.ownBlock = some w.heap.size) := by
  obtain ⟨v', w', h1, h2, h3, h4⟩ := app_int w lo v l.length (ivals l) h a c m hI hm hlo
  refine ⟨v', w', h1, ?_, below_of_grown h3 hlo (fun k hk => (World.ownsRow.lt h k hk).1), h3, h4⟩
  unfold AL
  rw [List.length_append, ivals_app]
  exact h2
/-- one number is appended -/
theorem AL.push {lo : Nat} {v : Value} {l : List Int} {w : World} (h : AL lo v l w) (hlo : lo ≤ w.heap.size) (n : Int) (hm : l.length + 1 ≤ 10000) :
    ∃ v' w', (∀ ty, (Builtin.append_ #[34, 34] ty #[v, .slice (some ⟨w.heap.size, 0, none⟩) 1 1]).run Try.prog (w.alloc (.cells #[.int .i64 n] 3)) = .ok v' w') ∧ AL lo v' (l ++ [n]) w' ∧ Below lo w w' ∧ w.heap.size < w'.heap.size ∧ (w.alloc (.cells #[.int .i64 n] 3)).grownBy w' v.ownBlock ∧ (v'.ownBlock = v.ownBlock ∨ v'.ownBlock = some (w.heap.size + 1)) := by
  have hb := boxB w (.cells #[.int .i64 n] 3)
  obtain ⟨v', w', h1, h2, h3, h4, h5⟩ := (h.below hb).app (Nat.le_trans hlo hb.size) (some ⟨w.heap.size, 0, none⟩) 1 [n] (irow_one w n) hm
  refine ⟨v', w', h1, h2, (hb.mono hlo).trans h3, ?_, h4, ?_⟩
  · have := h3.size; rw [heap_size] at this; omega
  · rw [heap_size] at h5; exact h5
/-- a list and a truth value, in memory of one's own -/
def LOut (V : List Int) (ok : Bool) (w : World) (e : Ending) (w' : World) : Prop := ∃ b c, e = .returned (.tuple #[.slice b V.length c, .bool ok]) ∧ OwnI w.heap.size w'.heap.size b V w' ∧ Below w.heap.size w w'
theorem LOut.no {w w' : World} (g : Below w.heap.size w w') : LOut [] false w (.returned (.tuple #[.slice none 0 0, .bool false])) w' := ⟨none, 0, rfl, Or.inl rfl, g⟩
theorem LOut.yes {V : List Int} {w w' : World} {v : Value} (h : AL w.heap.size v V w') (g : Below w.heap.size w w') : LOut V true w (.returned (.tuple #[v, .bool true])) w' := by
  obtain ⟨b, c, rfl, ho, _⟩ := h.own
  exact ⟨b, c, rfl, ho, g⟩
/-- a list written out with nothing in it -/
theorem AL.lit (w : World) : AL w.heap.size (.slice (some ⟨w.heap.size, 0, none⟩) 0 0) [] (w.alloc (.cells #[] 3)) := by
  have := World.ownsRow_made w (base := w.heap.size) (e := 3) (size := 1) #[] 0 (Nat.le_refl _) (by unfold maxLen; omega) rfl
  exact this
theorem is_take {B : Nat} {a : Option Addr} {l : List Int} {w : World} (h : Is B a l w) (k : Nat) : Is B a (l.take k) w := by
  refine ⟨fun h0 => ?_⟩
  have h0' : 0 < l.length := by simp at h0; omega
  obtain ⟨b, off, e, hb, hc⟩ := GSl.cell h (by simpa using h0')
  refine ⟨b, off, e, hb, fun i hi j hj => ?_⟩
  have hi' : i < l.length := by simp at hi; omega
  rw [hc i (by simpa using hi') j hj]
  simp
theorem is_drop {B b off : Nat} {l : List Int} {w : World} (h : Is B (some ⟨b, off, none⟩) l w) (k : Nat) : Is B (some ⟨b, off + k, none⟩) (l.drop k) w := by
  refine ⟨fun h0 => ?_⟩
  have h0' : 0 < l.length := by simp at h0; omega
  obtain ⟨b', off', e, hb, hc⟩ := GSl.cell h (by simpa using h0')
  injection e with e; injection e with e1 e2 _
  subst e1; subst e2
  refine ⟨b, off + k, rfl, hb, fun i hi j hj => ?_⟩
  have hi' : k + i < l.length := by simp at hi; omega
  obtain rfl : j = 0 := by omega
  have := hc (k + i) (by simpa using hi') 0 (by omega)
  rw [show off + k + i * 1 + 0 = off + (k + i) * 1 + 0 from by omega, this]
  simp
theorem is_nil (B : Nat) (a : Option Addr) (w : World) : Is B a [] w := ⟨fun h => absurd h (by simp)⟩
set_option maxHeartbeats 1000000 in
theorem to_capI (a : Option Addr) (cap : Nat) (l : List Int) (w : World) (hn : l.length ≤ 1048576) (hI : Is w.heap.size a l w) :
    Calls Try.prog 80 #[.slice a l.length cap] w fun e w' => ∃ b c, e = .returned (.slice b l.length c) ∧ OwnI w.heap.size w'.heap.size b l w' ∧ Below w.heap.size w w' ∧ l.length ≤ c := by
  have HI : Hid (Is w.heap.size a l w) := hI
  clear hI
  have hmk := make_ints l.length hn
  have hr0 := IRow.made w l.length
  generalize madeCells (Value.int .i64 0).cells l.length = M at *
  have HR : Hid (IRow w.heap.size (List.replicate l.length 0) (w.alloc (.cells M 3))) := hr0
  clear hr0
  go_enter Try.func80, Try.ntmps80
  go_wp2
  go_loopw [4] (fun i wr => ∃ (k : Nat) (ys : List Int), k ≤ l.length ∧ i = .int .i64 k ∧ ys.length = l.length ∧ ys.take k = l.take k ∧ IRow w.heap.size ys wr ∧ Below w.heap.size w wr) (fun i _ => l.length - (intOf i).toNat)
  case atStart => exact ⟨0, List.replicate l.length 0, Nat.zero_le _, rfl, by simp, rfl, HR.out, (Below.refl _ _).alloc (Nat.le_refl _) _⟩
  case round =>
    obtain ⟨k, ys, hk, rfl, hy, htk, hrow, hbel⟩ := hrel
    have HROW : Hid (IRow w.heap.size ys wr) := hrow
    have HBEL : Hid (Below w.heap.size w wr) := hbel
    have HTK : Hid (ys.take k = l.take k) := htk
    by_cases hlt : k < l.length
    · obtain ⟨b, off, rfl, hb, hc⟩ := HI.out.cell (by omega)
      have x0 := (hbel.cell (p := ⟨b, off + k, none⟩) hb).trans (hc k hlt)
      have y0 := hrow.cell k (by omega)
      have f0 := hrow.free k (by omega)
      clear hrow hbel htk hc
      go_wp2
      go_roundw
      case rel =>
        refine ⟨k + 1, ys.set k l[k], by omega, by go_num, by simpa using hy, ?_, HROW.out.set k (by omega) _, HBEL.out.setCell (Nat.le_refl _) _⟩
        have hky : k < ys.length := by omega
        rw [take_snoc _ k (by simpa using hky), take_snoc l k hlt, List.take_set_of_le (Nat.le_refl _), HTK.out, List.getElem_set_self]
      case measure => simp [intOf]; omega
    · obtain rfl : k = l.length := by omega
      rw [List.take_length, List.take_of_length_le (by omega)] at htk
      subst htk
      clear hrow hbel
      go_wp2
      go_ret
      have hO : OwnI w.heap.size wr.heap.size (some ⟨w.heap.size, 0, none⟩) ys wr := Or.inr ⟨_, Nat.le_refl _, HROW.out.lt, rfl, HROW.out⟩
      first
        | exact ⟨_, _, rfl, hO, HBEL.out, Nat.le_refl _⟩
        | exact ⟨_, _, ⟨rfl, rfl⟩, hO, HBEL.out, Nat.le_refl _⟩
        | exact ⟨_, _, ⟨⟨rfl, rfl⟩, rfl⟩, hO, HBEL.out, Nat.le_refl _⟩
end Go.Proofs.Ytiionfmpbifbcaa
