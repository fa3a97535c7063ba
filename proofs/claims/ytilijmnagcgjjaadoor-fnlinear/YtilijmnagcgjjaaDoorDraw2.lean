/- Walks of the two drawn texts and of a number of bytes. -/
import Derived.Test.YtilijmnagcgjjaaDoorDraw
namespace Go.Proofs.YtilijmnagcgjjaaDoor
set_option maxRecDepth 100000
open Go.ChangeShapes Go.WideShapes Go.ChangeAt Go.RowKit
set_option maxHeartbeats 2000000 in
theorem drawUnlike_any (len cap : Nat) (a : Option Addr) (w : World) (hK : Code w.heap.size len cap a w) :
    Calls Tryd.prog 4 #[.slice a len cap] w fun e w' => ∃ s t : ByteArray, s.size ≤ 401 ∧ t.size ≤ 401 ∧ e = .returned (.tuple #[.string s, .string t]) ∧ Below w.heap.size w w' := by
  have HK : Hid (Code w.heap.size len cap a w) := hK
  clear hK
  go_enter Tryd.func4, Tryd.ntmps4
  go_wp2_with fail
  refine (text_any w.heap.size 0 len cap a _ (by omega) (Cur.start _ 41 w) (HK.out.start _)).mono ?_
  rintro e w1 ⟨s, hs, rfl, hC1, hB1⟩
  have HC1 : Hid (Cur w.heap.size 100 (.slice a len cap) w1) := hC1.mono (by omega)
  have HB1 : Hid (But w.heap.size (w.alloc (.cells #[.slice a len cap, .int .i64 0, .int .u64 0] 41)) w1) := hB1
  clear hC1 hB1
  go_wp2_with fail
  refine (one_any _ w.heap.size 100 len cap a _ (by omega) (by omega) (by omega) HC1.out ((HK.out.start _).but HB1.out (Nat.le_refl _) (by simp))).mono ?_
  rintro e w2 ⟨v, rfl, hC2, hB2⟩
  have HC2 : Hid (Cur w.heap.size 102 (.slice a len cap) w2) := hC2
  have HB2 : Hid (But w.heap.size (w.alloc (.cells #[.slice a len cap, .int .i64 0, .int .u64 0] 41)) w2) := HB1.out.trans hB2
  clear hC2 hB2 HC1 HB1
  have HK2 : Hid (Code w.heap.size len cap a w2) := (HK.out.start _).but HB2.out (Nat.le_refl _) (by simp)
  have hlt2 := HC2.out.lt
  cases v
  · have hr0 := ByteRow.made w2 s.size
    have hmk := make_bytes s.size (by omega)
    generalize madeCells (Value.int .u8 0).cells s.size = M at *
    have HR : Hid (ByteRow w2.heap.size (List.replicate s.size 0) (w2.alloc (.cells M 5))) := hr0
    clear hr0
    go_wp2
    go_loopw [23] (fun i wr => ∃ (k : Nat) (l : List UInt8), k ≤ s.size ∧ i = .int .i64 k ∧ l.length = s.size ∧ ByteRow w2.heap.size l wr ∧ Cur w.heap.size (102 + 2 * k) (.slice a len cap) wr ∧ Code w.heap.size len cap a wr ∧ But w.heap.size (w.alloc (.cells #[.slice a len cap, .int .i64 0, .int .u64 0] 41)) wr) (fun i _ => s.size - (intOf i).toNat)
    case atStart => exact ⟨0, List.replicate s.size 0, Nat.zero_le _, rfl, by simp, HR.out, HC2.out.alloc _, HK2.out.but ((But.refl w.heap.size _).alloc _) (Nat.le_refl _) (by omega), HB2.out.alloc _⟩
    case round =>
      obtain ⟨k, l, hk, rfl, hl, hrow, hcur, hcode, hbut⟩ := hrel
      by_cases hkm : k < s.size
      · have HROW : Hid (ByteRow w2.heap.size l wr) := hrow
        have HCUR : Hid (Cur w.heap.size (102 + 2 * k) (.slice a len cap) wr) := hcur
        have HCODE : Hid (Code w.heap.size len cap a wr) := hcode
        have HBUT : Hid (But w.heap.size (w.alloc (.cells #[.slice a len cap, .int .i64 0, .int .u64 0] 41)) wr) := hbut
        have hltr := hrow.lt
        clear hrow hcur hcode hbut
        go_wp2_with fail
        refine (pick_any _ w.heap.size (102 + 2 * k) len cap a _ (by omega) (by omega) (by omega) HCUR.out HCODE.out).mono ?_
        rintro e w3 ⟨y, rfl, y0, y1, hC3, hB3⟩
        obtain ⟨x, rfl⟩ := byte_of y y0 (by omega)
        have hsz3 := hB3.size
        have hrow3 := HROW.out.but hB3 (by omega)
        have hcell := hrow3.cell k (by omega)
        obtain ⟨y, hcell⟩ : ∃ y : Int, w3.cell? ⟨w2.heap.size, k, none⟩ = some (.int .u8 y) := ⟨_, hcell⟩
        have hfree := hrow3.free k (by omega)
        have HROW3 : Hid (ByteRow w2.heap.size l w3) := hrow3
        have HCUR3 : Hid (Cur w.heap.size (102 + 2 * k + 2) (.slice a len cap) w3) := hC3
        have HCODE3 : Hid (Code w.heap.size len cap a w3) := HCODE.out.but hB3 (Nat.le_refl _) (by omega)
        have HBUT3 : Hid (But w.heap.size (w.alloc (.cells #[.slice a len cap, .int .i64 0, .int .u64 0] 41)) w3) := HBUT.out.trans hB3
        clear hrow3 hC3 hB3 HROW HCUR HCODE HBUT
        go_wp2
        go_roundw
        case rel => exact ⟨k + 1, l.set k x, by omega, by go_num, by simp; omega, HROW3.out.set k (by omega) x, (HCUR3.out.mono (by omega)).setOther (by omega) _ _, HCODE3.out.but ((But.refl w2.heap.size _).setCell k _) (by omega) (by omega), HBUT3.out.setNew (by simp; omega) _ _⟩
        case measure => simp [intOf]; omega
      · have hback := hrow.drew.back (P := Tryd.prog) (n := s.size) (cap := s.size) hl.symm 22 9 Tryd.underlying22 Tryd.underlying5 Tryd.underlying9
        have HBUT : Hid (Below w.heap.size w wr) := hbut.done
        clear hcur hcode hbut hrow
        go_wp2
        go_region
        all_goals go_wp2
        all_goals go_ret2
        all_goals exact ⟨s, ⟨l.toArray⟩, hs, by show l.toArray.size ≤ 401; simp; omega, rfl, HBUT.out.drew⟩
  · go_wp2_with fail
    refine (text_any w.heap.size 102 len cap a _ (by omega) HC2.out HK2.out).mono ?_
    rintro e w3 ⟨t, ht, rfl, hC, hB⟩
    have HB : Hid (Below w.heap.size w w3) := (HB2.out.trans hB).done
    clear hC hB
    go_wp2
    go_ret2
    exact ⟨s, t, hs, ht, rfl, HB.out⟩
set_option maxHeartbeats 1000000 in
theorem numberOf_any (B len cap : Nat) (a : Option Addr) (w : World) (hK : Code B len cap a w) :
    Calls Tryd.prog 8 #[.slice a len cap] w fun e w' => (∃ n : Int, 0 ≤ n ∧ n < 1000003 ∧ e = .returned (.int .i64 n)) ∧ w' = w := by
  have hsm := hK.small
  have HK : Hid (Code B len cap a w) := hK
  clear hK
  go_enter Tryd.func8, Tryd.ntmps8
  go_wp2
  go_loop [3, 8] (fun t i => ∃ (k : Nat) (n : Int), k ≤ len ∧ 0 ≤ n ∧ n < 1000003 ∧ i = .int .i64 k ∧ t = .int .i64 n) (fun _ i => len - (intOf i).toNat)
  case atStart => exact ⟨0, 0, Nat.zero_le _, by omega, by omega, rfl, rfl⟩
  case round =>
    obtain ⟨k, n, hk, n0, n1, rfl, rfl⟩ := hrel
    by_cases hlt : k < len
    · obtain ⟨b, off, rfl, hb, hcells⟩ := HK.out.cell (by omega)
      obtain ⟨z, z0, z1, hz⟩ := hcells k hlt
      clear hcells
      go_wp2
      go_round
      case rel => exact ⟨k + 1, (31 * n + z) % 1000003, by omega, by omega, by omega, by go_num, by go_num⟩
      case measure => simp [intOf]; omega
    · go_wp2
      go_ret
      exact ⟨⟨n, n0, n1, rfl⟩, rfl⟩
end Go.Proofs.YtilijmnagcgjjaaDoor
