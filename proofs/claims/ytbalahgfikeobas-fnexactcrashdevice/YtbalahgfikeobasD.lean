/- Devices that are owned: the helpers' contracts over them. -/
import Derived.Test.YtbalahgfikeobasO
import Derived.Test.YtbalahgfikeobasOut
namespace Go.Proofs.Ytbalahgfikeobas
set_option maxRecDepth 100000
open Go.ChangeShapes Go.WideShapes Go.ChangeAt Go.RowKit
/-- a device's zones, owned in blocks lo .. hi - 1 (or none) -/
def Own (lo hi : Nat) (a : Option Addr) (zs : List Zn) (w : World) : Prop := zs = [] ∨ ∃ R, lo ≤ R ∧ R < hi ∧ a = some ⟨R, 0, none⟩ ∧ ZRow R zs w
theorem Own.out {lo hi l2 h2 : Nat} {a : Option Addr} {zs : List Zn} {w w' : World} (h : Own lo hi a zs w) (g : Out l2 h2 w w') (hd : hi ≤ l2 ∨ h2 ≤ lo) : Own lo hi a zs w' := by
  rcases h with h | ⟨R, h1, h3, e, hr⟩
  · exact Or.inl h
  · exact Or.inr ⟨R, h1, h3, e, hr.same g.size (g.block R hr.lt (by omega))⟩
theorem Own.below {lo hi : Nat} {a : Option Addr} {zs : List Zn} {w w' : World} (h : Own lo hi a zs w) (g : Below w.heap.size w w') : Own lo hi a zs w' := by
  rcases h with h | ⟨R, h1, h3, e, hr⟩
  · exact Or.inl h
  · exact Or.inr ⟨R, h1, h3, e, hr.below g⟩
theorem Own.zs {lo hi : Nat} {a : Option Addr} {zs : List Zn} {w : World} (h : Own lo hi a zs w) : Zs w.heap.size a zs w := by
  rcases h with rfl | ⟨R, h1, h3, rfl, hr⟩
  · exact ⟨fun h0 => absurd h0 (by simp)⟩
  · exact hr.sl hr.lt
theorem mark_own (lo hi : Nat) (a : Option Addr) (c : Nat) (zs : List Zn) (w : World) (hn : zs.length ≤ 1048576) (h : Own lo hi a zs w) :
    Calls Try.prog 13 #[.agg #[.slice a zs.length c], .int .i64 1] w fun e w' => e = .returned (.int .i64 (1 + 3 * zs.length : Nat)) ∧ Own lo hi a (marks zs.length 1) w' ∧ Out lo hi w w' := by
  rcases h with rfl | ⟨R, h1, h3, rfl, hr⟩
  · exact (markDevice_none a c 1 w).mono fun e w' ⟨he, hb⟩ => ⟨he, Or.inl rfl, Out.ofBelow hb⟩
  · exact (markDevice_row R c 1 zs w hn (by omega) (by omega) hr).mono fun e w' ⟨he, hrow, hb⟩ => ⟨he, Or.inr ⟨R, h1, h3, rfl, hrow⟩, Out.ofBut hb h1 h3⟩
theorem held_own (lo hi : Nat) (a : Option Addr) (c n : Nat) (w : World) (hn : n ≤ 1048576) (h : Own lo hi a (marks n 1) w) :
    Calls Try.prog 14 #[.agg #[.slice a n c], .int .i64 1] w fun e w' => e = .returned (.int .i64 (1 + 3 * n : Nat)) ∧ Below w.heap.size w w' :=
  heldDevice_row a c 1 n w hn (by omega) (by omega) h.zs
theorem to_own (a : Option Addr) (cap : Nat) (zs : List Zn) (w : World) (hn : zs.length ≤ 1048576) (hZ : Zs w.heap.size a zs w) :
    Calls Try.prog 10 #[.agg #[.slice a zs.length cap]] w fun e w' => ∃ b c, e = .returned (.agg #[.slice b zs.length c]) ∧ Own w.heap.size w'.heap.size b zs w' ∧ Below w.heap.size w w' :=
  (toDevice_any a cap zs w hn hZ).mono fun _ _ ⟨R, hR, he, hrow, hb⟩ => ⟨_, _, he, Or.inr ⟨R, hR, hrow.lt, rfl, hrow⟩, hb⟩
end Go.Proofs.Ytbalahgfikeobas
