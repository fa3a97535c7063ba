/- Numbers that are owned, at whatever place of their row. -/
import Derived.Test.YtghhjjblmmhcgaaJGood
namespace Go.Proofs.Ytghhjjblmmhcgaa
set_option maxRecDepth 100000
open Go Go.ChangeShapes Go.WideShapes Go.ChangeAt Go.RowKit
/-- numbers that are owned in blocks lo .. hi - 1 (or none), behind others of the same row -/
def OwnJ (lo hi : Nat) (a : Option Addr) (l : List Int) (w : World) : Prop := l = [] ∨ ∃ R off pre, lo ≤ R ∧ R < hi ∧ a = some ⟨R, off, none⟩ ∧ pre.length = off ∧ IRow R (pre ++ l) w
theorem OwnJ.out {lo hi l2 h2 : Nat} {a : Option Addr} {l : List Int} {w w' : World} (h : OwnJ lo hi a l w) (g : Out l2 h2 w w') (hd : hi ≤ l2 ∨ h2 ≤ lo) : OwnJ lo hi a l w' := by
  rcases h with h | ⟨R, off, pre, h1, h3, e, hp, hr⟩
  · exact Or.inl h
  · exact Or.inr ⟨R, off, pre, h1, h3, e, hp, hr.same g.size (g.block R hr.lt (by omega))⟩
theorem OwnJ.below {lo hi : Nat} {a : Option Addr} {l : List Int} {w w' : World} (h : OwnJ lo hi a l w) (g : Below w.heap.size w w') : OwnJ lo hi a l w' := by
  rcases h with h | ⟨R, off, pre, h1, h3, e, hp, hr⟩
  · exact Or.inl h
  · exact Or.inr ⟨R, off, pre, h1, h3, e, hp, hr.below g⟩
theorem OwnJ.mono {lo lo' hi hi' : Nat} {a : Option Addr} {l : List Int} {w : World} (h : OwnJ lo hi a l w) (g : lo' ≤ lo) (g2 : hi ≤ hi') : OwnJ lo' hi' a l w := by
  rcases h with h | ⟨R, off, pre, h1, h3, e, hp, hr⟩
  · exact Or.inl h
  · exact Or.inr ⟨R, off, pre, by omega, by omega, e, hp, hr⟩
theorem OwnI.toJ {lo hi : Nat} {a : Option Addr} {l : List Int} {w : World} (h : OwnI lo hi a l w) : OwnJ lo hi a l w := by
  rcases h with h | ⟨R, h1, h3, e, hr⟩
  · exact Or.inl h
  · exact Or.inr ⟨R, 0, [], h1, h3, e, rfl, hr⟩
theorem OwnJ.is {lo hi : Nat} {a : Option Addr} {l : List Int} {w : World} (h : OwnJ lo hi a l w) : Is w.heap.size a l w := by
  rcases h with rfl | ⟨R, off, pre, h1, h3, rfl, hp, hr⟩
  · exact ⟨fun h0 => absurd h0 (by simp)⟩
  · have := is_drop (hr.sl hr.lt) off
    rw [Nat.zero_add, ← hp, List.drop_left] at this
    rw [← hp]
    exact this
set_option maxHeartbeats 1000000 in
theorem markIntS_off (R off cap k0 : Nat) (pre l : List Int) (w : World) (hn : l.length ≤ 1048576) (k1 : 1 ≤ k0) (k2 : k0 ≤ 4611686018427387904) (hp : pre.length = off) (hR : IRow R (pre ++ l) w) :
    Calls Try.prog 15 #[.slice (some ⟨R, off, none⟩) l.length cap, .int .i64 k0] w fun e w' => e = .returned (.int .i64 (k0 + l.length : Nat)) ∧ IRow R (pre ++ imarks l.length k0) w' ∧ But R w w' := by
  have HR := hid hR
  have HP := hid hp
  clear hR hp
  go_enter Try.func15, Try.ntmps15
  go_wp2
  go_loopw [1, 5] (fun t i wr => ∃ (j : Nat) (ys : List Int), j ≤ l.length ∧ i = .int .i64 j ∧ t = .int .i64 (k0 + j : Nat) ∧ ys.length = l.length ∧ ys.take j = (imarks l.length k0).take j ∧ IRow R (pre ++ ys) wr ∧ But R w wr) (fun _ i _ => l.length - (intOf i).toNat)
  case atStart => exact ⟨0, l, Nat.zero_le _, rfl, rfl, rfl, rfl, HR.out, But.refl _ _⟩
  case round =>
    obtain ⟨j, ys, hj, rfl, rfl, hy, htk, hrow, hbut⟩ := hrel
    have HROW := hid hrow
    have HBUT := hid hbut
    have HTK := hid htk
    by_cases hlt : j < l.length
    · have hl2 : off + j < (pre ++ ys).length := by rw [List.length_append, HP.out]; omega
      have y0 := hrow.cell (off + j) hl2
      have f0 := hrow.free (off + j) hl2
      have HS : Hid (IRow R (pre ++ ys.set j ((k0 + j : Nat) : Int)) (wr.setCell ⟨R, off + j, none⟩ (.int .i64 ((k0 + j : Nat) : Int)))) := by
        have := hrow.set (off + j) hl2 ((k0 + j : Nat) : Int)
        rw [List.set_append_right _ _ (by rw [HP.out]; omega), show off + j - pre.length = j from by rw [HP.out]; omega] at this
        exact this
      clear hrow hbut htk
      generalize (pre ++ ys)[off + j] = yd at *
      clear hl2
      go_wp2
      go_roundw
      case rel =>
        refine ⟨j + 1, ys.set j ((k0 + j : Nat) : Int), by omega, by go_num, by go_num, by simpa using hy, ?_, HS.out, HBUT.out.setCell _ _⟩
        have hjy : j < ys.length := by omega
        have hjm : j < (imarks l.length k0).length := by rw [imarks_len]; exact hlt
        rw [take_snoc _ j (by simpa using hjy), take_snoc _ j hjm, List.take_set_of_le (Nat.le_refl _), HTK.out, List.getElem_set_self, imarks_at]
      case measure => simp [intOf]; omega
    · obtain rfl : j = l.length := by omega
      clear hrow hbut
      go_wp2
      go_ret
      rw [List.take_of_length_le (by omega), List.take_of_length_le (by rw [imarks_len]; omega)] at htk
      subst htk
      exact ⟨rfl, HROW.out, HBUT.out⟩
theorem mark_ownJ (lo hi : Nat) (a : Option Addr) (c : Nat) (l : List Int) (w : World) (hn : l.length ≤ 1048576) (k0 : Nat) (k1 : 1 ≤ k0) (k2 : k0 ≤ 4611686018427387904) (h : OwnJ lo hi a l w) :
    Calls Try.prog 15 #[.slice a l.length c, .int .i64 k0] w fun e w' => e = .returned (.int .i64 (k0 + l.length : Nat)) ∧ OwnJ lo hi a (imarks l.length k0) w' ∧ Out lo hi w w' := by
  rcases h with rfl | ⟨R, off, pre, h1, h3, rfl, hp, hr⟩
  · exact (markIntS_none a c k0 w).mono fun e w' ⟨he, hb⟩ => ⟨he, Or.inl rfl, by subst hb; exact Out.refl _ _ _⟩
  · exact (markIntS_off R off c k0 pre l w hn k1 k2 hp hr).mono fun e w' ⟨he, hrow, hb⟩ => ⟨he, Or.inr ⟨R, off, pre, h1, h3, rfl, hp, hrow⟩, Out.ofBut hb h1 h3⟩
theorem held_ownJ (lo hi : Nat) (a : Option Addr) (c n : Nat) (w : World) (hn : n ≤ 1048576) (h : OwnJ lo hi a (imarks n 1) w) :
    Calls Try.prog 16 #[.slice a n c, .int .i64 1] w fun e w' => e = .returned (.int .i64 (1 + n : Nat)) ∧ Below w.heap.size w w' :=
  heldIntS_row a c 1 n w hn (by omega) (by omega) h.is
/-- a list and a truth value, in memory of one's own -/
def JOut (V : List Int) (ok : Bool) (w : World) (e : Ending) (w' : World) : Prop := ∃ b c, e = .returned (.tuple #[.slice b V.length c, .bool ok]) ∧ OwnJ w.heap.size w'.heap.size b V w' ∧ Below w.heap.size w w' ∧ V.length ≤ c
theorem JOut.no {w w' : World} (g : Below w.heap.size w w') : JOut [] false w (.returned (.tuple #[.slice none 0 0, .bool false])) w' := ⟨none, 0, rfl, Or.inl rfl, g, Nat.le_refl _⟩
theorem JOut.yes {V : List Int} {w w' : World} {v : Value} (h : AL w.heap.size v V w') (g : Below w.heap.size w w') : JOut V true w (.returned (.tuple #[v, .bool true])) w' := by
  obtain ⟨b, c, rfl, ho, hc⟩ := h.own
  exact ⟨b, c, rfl, ho.toJ, g, hc⟩
theorem JOut.row {V : List Int} {R n : Nat} {w w' : World} (h : IRow R V w') (hR : w.heap.size ≤ R) (g : Below w.heap.size w w') (hn : V.length = n) : JOut V true w (.returned (.tuple #[.slice (some ⟨R, 0, none⟩) n n, .bool true])) w' :=
  ⟨some ⟨R, 0, none⟩, n, by rw [hn], Or.inr ⟨R, 0, [], hR, h.lt, rfl, rfl, h⟩, g, by omega⟩
end Go.Proofs.Ytghhjjblmmhcgaa
