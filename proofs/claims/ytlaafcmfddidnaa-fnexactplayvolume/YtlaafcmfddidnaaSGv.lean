/- Walks of the model's l6Blocks, GoodVolume, l6Mark. -/
import Derived.Test.YtlaafcmfddidnaaVBase
import Derived.Test.YtlaafcmfddidnaaVPlain
import Derived.Test.YtlaafcmfddidnaaIn
namespace Go.Proofs.Ytlaafcmfddidnaa
set_option maxRecDepth 100000
open Go.ChangeShapes Go.WideShapes Go.ChangeAt Go.RowKit G00541
set_option maxHeartbeats 2000000 in
theorem l6Mark_any (aB aL : Option Addr) (kB kL : Nat) (B : List ByteArray) (F : Int) (L : List Rc) (s : Int) (w : World) (hn : L.length ≤ 1048576) (hL : Rs w.heap.size aL L w) :
    Calls Try.prog 34 #[.agg #[.slice aB B.length kB, .int .i64 F, .slice aL L.length kL, .int .i64 s]] w fun e w' => e = .returned (.int .i64 (markF F L)) ∧ Below w.heap.size w w' := by
  have HB := hid (boxB w (.cells #[.slice aB B.length kB, .int .i64 F, .slice aL L.length kL, .int .i64 s] 27))
  have HL : Hid (Rs w.heap.size aL L w) := hL
  clear hL
  go_enter Try.func34, Try.ntmps34
  go_wp2_with fail
  generalize w.alloc (.cells #[.slice aB B.length kB, .int .i64 F, .slice aL L.length kL, .int .i64 s] 27) = W at *
  go_loopw [3, 11] (fun t i wr => ∃ k : Nat, k ≤ L.length ∧ i = .int .i64 k ∧ t = .int .i64 (markF F (L.take k)) ∧ Below w.heap.size w wr) (fun _ i _ => L.length - (intOf i).toNat)
  case atStart => exact ⟨0, Nat.zero_le _, rfl, rfl, HB.out⟩
  case round =>
    obtain ⟨k, hk, rfl, rfl, hbel⟩ := hrel
    have HBEL := hid hbel
    clear hbel
    by_cases hlt : k < L.length
    · obtain ⟨b, off, rfl, hb, hcells⟩ := HL.out.cell (by omega)
      obtain ⟨c0, c1, c2, c3⟩ := hcells k hlt
      have hb' : ∀ o, wr.cell? ⟨b, o, none⟩ = w.cell? ⟨b, o, none⟩ := fun o => HBEL.out.cell (p := ⟨b, o, none⟩) hb
      rw [← hb'] at c0 c1 c2 c3
      clear hcells hb'
      have HB1 := hid (HBEL.out.alloc HBEL.out.size (.cells #[.int .i64 L[k].kind, .int .i64 L[k].place, .int .i64 L[k].long, .string (str L[k].data)] 58))
      by_cases h3 : L[k].kind = 3
      · have hd3 : (L[k].kind == 3) = true := by rw [h3]; rfl
        have hd3' : decide (L[k].kind = 3) = true := decide_eq_true h3
        have HMK := hid (markF_snoc_yes F L k hlt h3)
        clear h3
        generalize markF F (L.take k) = m at *
        generalize L[k].kind = rk at *
        generalize L[k].place = rp at *
        generalize L[k].long = rn at *
        generalize str L[k].data = rd at *
        go_wp2_with fail
        go_roundw
        case rel => exact ⟨k + 1, by omega, by go_num, by rw [HMK.out], HB1.out⟩
        case measure => simp [intOf]; omega
      · have HMK := hid (markF_snoc_no F L k hlt h3)
        have hd3 : (L[k].kind == 3) = false := beq_eq_false_iff_ne.2 h3
        have hd3' : decide (L[k].kind = 3) = false := decide_eq_false h3
        clear h3
        generalize markF F (L.take k) = m at *
        generalize L[k].kind = rk at *
        generalize L[k].place = rp at *
        generalize L[k].long = rn at *
        generalize str L[k].data = rd at *
        go_wp2_with fail
        go_roundw
        case rel => exact ⟨k + 1, by omega, by go_num, by rw [HMK.out], HB1.out⟩
        case measure => simp [intOf]; omega
    · obtain rfl : k = L.length := by omega
      have HG := hid (markF_all F L)
      rw [HG.out]
      go_wp2_with fail
      go_ret
      exact ⟨rfl, HBEL.out⟩
end Go.Proofs.Ytlaafcmfddidnaa
