/- Walks of the model's l7At and ReadAt. -/
import Derived.Test.YtmbkdollakbigaaKFind
namespace Go.Proofs.Ytmbkdollakbigaa
set_option maxRecDepth 100000
open Go Go.ChangeShapes Go.WideShapes Go.ChangeAt Go.RowKit
theorem str_eq {s t : ByteArray} (h : s = t) : Value.string s = .string t := by rw [h]
set_option maxHeartbeats 6000000 in
theorem l7At_any (a : Option Addr) (cap : Nat) (S : List Ly) (n : Nat) (x : Int) (w : World) (hn : S.length ≤ 1048576) (hcap : S.length ≤ cap) (hlt : n < S.length) (hL : ∀ k (h : k < S.length), S[k].bl.length ≤ 1048576 ∧ S[k].dt.length = S[k].bl.length) (hG : Ys w.heap.size a S w) :
    Calls Try.prog 20 #[.agg #[.slice a S.length cap], .int .i64 n, .int .i64 x] w fun e w' => e = .returned (.string (atL S x (n + 1))) ∧ Below w.heap.size w w' := by
  have HB := hid (Bx.start w (.cells #[.slice a S.length cap] 31))
  have HG := hid ((hG.below HB.out.below).mono HB.out.below.size)
  have HL := hid hL
  clear hG hL
  generalize hW : w.alloc (.cells #[.slice a S.length cap] 31) = W at *
  have x0 : W.cell? ⟨w.heap.size, 0, none⟩ = some (.slice a S.length cap) := box_cell HB.out.box 0
  obtain ⟨b, off, rfl, hb, hcl⟩ := HG.out (by omega)
  have HCL := hid hcl
  clear hcl HG
  have hwr1 : IntKind.i64.wrap ((n : Int) + 1) = ((n + 1 : Nat) : Int) := by rw [IntKind.wrap_i64]; omega
  have hcut : n + 1 ≤ cap := by omega
  go_enter Try.func20, Try.ntmps20
  go_wp2_with fail
  clear hW x0
  go_loopw [7, 18] (fun s i wr => ∃ k : Nat, k ≤ n + 1 ∧ i = .int .i64 k ∧ s = .string (atL S x k) ∧ Below W.heap.size W wr) (fun _ i _ => n + 1 - (intOf i).toNat)
  case atStart => exact ⟨0, Nat.zero_le _, rfl, rfl, Below.refl _ _⟩
  case round =>
    obtain ⟨k, hk, rfl, rfl, hbel⟩ := hrel
    have HBEL := hid hbel
    have HBW : Hid (Below w.heap.size w wr) := HB.out.below.trans (hbel.mono HB.out.below.size)
    have hszr := hbel.size
    by_cases hkl : k < n + 1
    · have hks : k < S.length := by omega
      obtain ⟨p, c, q, d, c0, c1, c2, hI, hS⟩ := HCL.out k hks
      have kc : ∀ o, wr.cell? ⟨b, o, none⟩ = W.cell? ⟨b, o, none⟩ := fun o => hbel.cell (p := ⟨b, o, none⟩) hb
      rw [← kc] at c0 c1 c2
      have hm := HL.out k hks
      have hI' := (hI.below hbel).mono hszr
      have hS' := (hS.below hbel).mono hszr
      have HE := hid (atL_at S x k hks)
      clear kc hI hS hbel
      generalize hs : S[k] = s at *
      obtain ⟨m, bl, dt⟩ := s
      simp only at c0 c1 c2 hm hI' hS' HE
      have hbx := boxB wr (.cells #[.int .i64 m, .slice p bl.length c, .slice q dt.length d] 64)
      have HB1 := hid (HBEL.out.trans (hbx.mono hszr))
      have HI1 : Hid (Is (wr.alloc (.cells #[.int .i64 m, .slice p bl.length c, .slice q dt.length d] 64)).heap.size p bl (wr.alloc (.cells #[.int .i64 m, .slice p bl.length c, .slice q dt.length d] 64))) := (hI'.below hbx).mono hbx.size
      have HS1 : Hid (Ss (wr.alloc (.cells #[.int .i64 m, .slice p bl.length c, .slice q dt.length d] 64)).heap.size q dt (wr.alloc (.cells #[.int .i64 m, .slice p bl.length c, .slice q dt.length d] 64))) := (hS'.below hbx).mono hbx.size
      have y1 : (wr.alloc (.cells #[.int .i64 m, .slice p bl.length c, .slice q dt.length d] 64)).cell? ⟨wr.heap.size, 1, none⟩ = some (.slice p bl.length c) := box_cell (heap_last _ _) 1
      have y2 : (wr.alloc (.cells #[.int .i64 m, .slice p bl.length c, .slice q dt.length d] 64)).cell? ⟨wr.heap.size, 2, none⟩ = some (.slice q dt.length d) := box_cell (heap_last _ _) 2
      clear hbx hI' hS' hs
      have hbl := hm.1
      have HDL := hid hm.2
      clear hm
      generalize hT : atL S x k = T at *
      go_wp2_with fail
      generalize wr.alloc (.cells #[.int .i64 m, .slice p bl.length c, .slice q dt.length d] 64) = W1 at *
      clear hT c0 c1 c2
      go_loopw [7, 25] (fun s i wi => ∃ j : Nat, j ≤ bl.length ∧ i = .int .i64 j ∧ s = .string (atB bl dt x T j) ∧ wi = W1) (fun _ i _ => bl.length - (intOf i).toNat)
      case atStart => exact ⟨0, Nat.zero_le _, rfl, rfl, rfl⟩
      case round =>
        obtain ⟨j, hj, rfl, rfl, hwi⟩ := hrel
        subst hwi
        by_cases hjl : j < bl.length
        · have hjd : j < dt.length := by have := HDL.out; omega
          obtain ⟨b1, off1, rfl, hb1, hc1⟩ := HI1.out.cell (by omega)
          obtain ⟨b2, off2, rfl, hb2, hc2⟩ := HS1.out.cell (by omega)
          have e1 := hc1 j hjl
          have e2 := hc2 j hjd
          have HYES := hid (atB_yes bl dt x T j hjl hjd)
          have HNO := hid (atB_no bl dt x T j hjl)
          clear hc1 hc2
          generalize bl[j] = u at *
          generalize dt[j] = D at *
          by_cases hx : u = x
          · have d1 : (u == x) = true := beq_iff_eq.2 hx
            have d2 : decide (u = x) = true := decide_eq_true hx
            have HZ := hid (HYES.out hx)
            clear HYES HNO hx
            go_wp2_with fail
            go_roundw
            case rel => exact ⟨j + 1, by omega, by go_num, str_eq HZ.out, by trivial⟩
            case measure => simp [intOf]; omega
          · have d1 : (u == x) = false := beq_eq_false_iff_ne.2 hx
            have d2 : decide (u = x) = false := decide_eq_false hx
            have HZ := hid (HNO.out hx)
            clear HYES HNO hx
            go_wp2_with fail
            go_roundw
            case rel => exact ⟨j + 1, by omega, by go_num, str_eq HZ.out, by trivial⟩
            case measure => simp [intOf]; omega
        · have hjj : j = bl.length := by omega
          subst hjj
          go_wp2_with fail
          go_roundw
          case rel => exact ⟨k + 1, by omega, by go_num, str_eq HE.out.symm, HB1.out⟩
          case measure => simp [intOf]; omega
    · have hkk : k = n + 1 := by omega
      subst hkk
      clear hbel
      go_wp2_with fail
      go_ret
      exact ⟨rfl, HBW.out⟩
end Go.Proofs.Ytmbkdollakbigaa
