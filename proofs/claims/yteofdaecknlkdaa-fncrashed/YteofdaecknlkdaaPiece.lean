/- Walks of the cursor's texts. -/
import Derived.Test.YteofdaecknlkdaaCur
import Derived.Test.YteofdaecknlkdaaGRow
namespace Go.Proofs.Yteofdaecknlkdaa
set_option maxRecDepth 100000
open Go.ChangeShapes Go.WideShapes Go.ChangeAt Go.RowKit
set_option maxHeartbeats 1000000 in
theorem of_any (zs : List ByteArray) (kz L B N len cap c : Nat) (a : Option Addr) (w : World) (hkz : zs.length = kz) (z1 : 1 ≤ zs.length) (z2 : zs.length ≤ 1000) (hL : L < w.heap.size) (hLB : L ≠ B)
    (hz : ∀ i, i < zs.length → w.cell? ⟨L, i, none⟩ = some (.string (zs.getD i ByteArray.empty))) (hN : N ≤ 999998) (hC : Cur B N (.slice a len cap) w) (hK : Code B len cap a w) :
    Calls Try.prog 51 #[.pointer (some ⟨B, 0, none⟩), .slice (some ⟨L, 0, none⟩) kz c] w fun e w' => ∃ i : Nat, i < zs.length ∧ e = .returned (.string (zs.getD i ByteArray.empty)) ∧ Cur B (N + 2) (.slice a len cap) w' ∧ But B w w' := by
  subst hkz
  have HC : Hid (Cur B N (.slice a len cap) w) := hC
  have HK : Hid (Code B len cap a w) := hK
  have HZ : Hid (∀ i, i < zs.length → w.cell? ⟨L, i, none⟩ = some (.string (zs.getD i ByteArray.empty))) := hz
  clear hC hK hz
  go_enter Try.func51, Try.ntmps51
  go_wp2_with fail
  refine (pick_any _ B N len cap a _ (by omega) (by omega) hN HC.out HK.out).mono ?_
  rintro e w1 ⟨v, rfl, v0, v1, hC1, hB1⟩
  have hcell : w1.cell? ⟨L, v.toNat, none⟩ = some (.string (zs.getD v.toNat ByteArray.empty)) := (hB1.cell L v.toNat hL hLB).trans (HZ.out v.toNat (by omega))
  have HR : Hid (Cur B (N + 2) (.slice a len cap) w1 ∧ But B w w1) := ⟨hC1, hB1⟩
  have hvl : v.toNat < zs.length := by omega
  clear hC1 hB1
  generalize hzv : zs.getD v.toNat ByteArray.empty = z at hcell
  have HZV : Hid (zs.getD v.toNat ByteArray.empty = z) := hzv
  clear hzv
  go_wp2
  go_ret
  exact ⟨v.toNat, hvl, by rw [HZV.out]; rfl, HR.out.1, HR.out.2⟩
def pieces : List ByteArray := [⟨#[97]⟩, ⟨#[98, 99]⟩, ⟨#[97, 32, 112, 105, 101, 99, 101]⟩, ⟨#[116, 119, 101, 110, 116, 121, 32, 98, 121, 116, 101, 115, 32, 105, 110, 32, 97, 108, 108, 46]⟩, ⟨#[]⟩, ⟨#[116, 119, 101, 110, 116, 121, 32, 98, 121, 116, 101, 115, 32, 97, 110, 100, 32, 111, 110, 101, 46]⟩]
theorem pieces_small : ∀ i, i < 6 → (pieces.getD i ByteArray.empty).size ≤ 21
  | 0, _ => by decide
  | 1, _ => by decide
  | 2, _ => by decide
  | 3, _ => by decide
  | 4, _ => by decide
  | 5, _ => by decide
  | n + 6, h => by omega
theorem pieces_at (w : World) : ∀ i, i < 6 → (w.alloc (.cells (pieces.map Value.string).toArray 9)).cell? ⟨w.heap.size, i, none⟩ = some (.string (pieces.getD i ByteArray.empty)) := fun i hi => by
  rw [World.cell?_alloc_new]
  match i, hi with
  | 0, _ => rfl
  | 1, _ => rfl
  | 2, _ => rfl
  | 3, _ => rfl
  | 4, _ => rfl
  | 5, _ => rfl
  | n + 6, h => omega
set_option maxHeartbeats 1000000 in
theorem piece_any (B N len cap : Nat) (a : Option Addr) (w : World) (hN : N ≤ 999998) (hC : Cur B N (.slice a len cap) w) (hK : Code B len cap a w) :
    Calls Try.prog 34 #[.pointer (some ⟨B, 0, none⟩)] w fun e w' => ∃ s : ByteArray, e = .returned (.string s) ∧ s.size ≤ 21 ∧ Cur B (N + 2) (.slice a len cap) w' ∧ But B w w' := by
  have HC : Hid (∀ o, Cur B N (.slice a len cap) (w.alloc o)) := fun o => hC.alloc o
  have HK : Hid (∀ o, Code B len cap a (w.alloc o)) := fun o => hK.but ((But.refl B w).alloc o) (Nat.le_refl _) (Nat.le_of_lt hC.lt)
  have hlt := hC.lt
  clear hC hK
  go_enter Try.func34, Try.ntmps34
  go_wp2_with fail
  refine (of_any pieces 6 w.heap.size B N len cap 6 a _ rfl (by decide) (by decide) (by simp) (by omega) (pieces_at w) hN (HC.out _) (HK.out _)).mono ?_
  rintro e w1 ⟨i, hi, rfl, hC1, hB1⟩
  have hsm := pieces_small i hi
  have HR : Hid (Cur B (N + 2) (.slice a len cap) w1 ∧ But B w w1) := ⟨hC1, ((But.refl B w).alloc _).trans hB1⟩
  clear hC1 hB1
  generalize pieces.getD i ByteArray.empty = s at *
  go_wp2
  go_ret
  exact ⟨s, rfl, hsm, HR.out.1, HR.out.2⟩
end Go.Proofs.Yteofdaecknlkdaa
