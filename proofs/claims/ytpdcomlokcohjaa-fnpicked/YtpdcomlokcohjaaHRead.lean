/- Walks of the model's l5Live, l5There, LiveIn, FreeSegs. -/
import Derived.Test.YtpdcomlokcohjaaSGh
namespace Go.Proofs.Ytpdcomlokcohjaa
set_option maxRecDepth 100000
open Go.ChangeShapes Go.WideShapes Go.ChangeAt Go.RowKit G00541
theorem boxB (w : World) (o : Obj) : Below w.heap.size w (w.alloc o) := (Below.refl _ _).alloc (Nat.le_refl _) _
theorem cnt_step (v : List Bool) (n : Nat) (h : n < v.length) : (v.take (n + 1)).countP id = (v.take n).countP id + (if v[n] then 1 else 0) := by
  rw [List.take_succ_eq_append_getElem h, List.countP_append]
  cases v[n] <;> simp
theorem ret_i {a b : Int} (h : a = b) : Ending.returned (.int .i64 a) = .returned (.int .i64 b) := by rw [h]
set_option maxHeartbeats 1000000 in
theorem l5Live_any (aS aL : Option Addr) (kS kL nS : Nat) (L : List (List Bool)) (k : Nat) (w : World) (hk : k < L.length) (hm : L.length ≤ 1048576) (hb : L[k].length ≤ 1048576) (hV : Vs w.heap.size aL L w) :
    Calls Try.prog 39 #[.agg #[.slice aS nS kS, .slice aL L.length kL], .int .i64 k] w fun e w' => e = .returned (.int .i64 ((L[k].countP id : Nat) : Int)) ∧ Below w.heap.size w w' := by
  have HB : Hid (Below w.heap.size w (w.alloc (.cells #[.slice aS nS kS, .slice aL L.length kL] 26))) := boxB w _
  obtain ⟨b', off', rfl, hb', hcv⟩ := hV (by omega)
  obtain ⟨p', c', c2, hJ⟩ := hcv k hk
  rw [← HB.out.cell (p := ⟨b', off' + k, none⟩) hb'] at c2
  have HJ := hid (hJ.below HB.out)
  have y1 : (w.alloc (.cells #[.slice aS nS kS, .slice (some ⟨b', off', none⟩) L.length kL] 26)).cell? ⟨w.heap.size, 1, none⟩ = some (.slice (some ⟨b', off', none⟩) L.length kL) := by go_simp
  clear hJ hcv
  generalize hv : L[k] = v at *
  clear hv
  generalize hW : w.alloc (.cells #[.slice aS nS kS, .slice (some ⟨b', off', none⟩) L.length kL] 26) = W at *
  go_enter Try.func39, Try.ntmps39
  go_wp2_with fail
  go_loopw [5, 14] (fun u i wr => ∃ n : Nat, n ≤ v.length ∧ i = .int .i64 n ∧ u = .int .i64 (((v.take n).countP id : Nat) : Int) ∧ wr = W) (fun _ i _ => v.length - (intOf i).toNat)
  case atStart => exact ⟨0, Nat.zero_le _, rfl, rfl, rfl⟩
  case round =>
    obtain ⟨n, hn, rfl, rfl, rfl⟩ := hrel
    clear hW y1 c2
    by_cases hi : n < v.length
    · obtain ⟨bq, oq, rfl, hbq, hcq⟩ := HJ.out.cell (by omega)
      have x1 := hcq n hi
      have HST := hid (cnt_step v n hi)
      have hc1 : (v.take n).countP id ≤ n := Nat.le_trans List.countP_le_length (by simp; omega)
      clear hcq
      generalize v[n] = t at *
      generalize (v.take n).countP id = q at *
      cases t
      · go_wp2_with fail
        go_roundw
        case rel => exact ⟨n + 1, by omega, by go_num, by rw [HST.out]; rfl, by trivial⟩
        case measure => simp [intOf]; omega
      · go_wp2_with fail
        go_roundw
        case rel => exact ⟨n + 1, by omega, by go_num, by rw [HST.out]; go_num, by trivial⟩
        case measure => simp [intOf]; omega
    · have HT : Hid ((v.take n).countP id = v.countP id) := by
        show (v.take n).countP id = v.countP id
        rw [List.take_of_length_le (by omega)]
      go_wp2_with fail
      go_ret
      exact ⟨ret_i (by rw [HT.out]), HB.out⟩
set_option maxHeartbeats 1000000 in
theorem l5There_any (aS aL : Option Addr) (kS kL : Nat) (S : List Sg) (L : List (List Bool)) (k : Int) (w : World) (hG : Gs w.heap.size aS S w) (hV : Vs w.heap.size aL L w) :
    Calls Try.prog 35 #[.agg #[.slice aS S.length kS, .slice aL L.length kL], .int .i64 k] w fun e w' => e = .returned (.bool (goodH S L && decide (0 ≤ k ∧ k < S.length))) ∧ Below w.heap.size w w' := by
  have HB : Hid (Below w.heap.size w (w.alloc (.cells #[.slice aS S.length kS, .slice aL L.length kL] 26))) := boxB w _
  have y0 : (w.alloc (.cells #[.slice aS S.length kS, .slice aL L.length kL] 26)).cell? ⟨w.heap.size, 0, none⟩ = some (.slice aS S.length kS) := by go_simp
  have y1 : (w.alloc (.cells #[.slice aS S.length kS, .slice aL L.length kL] 26)).cell? ⟨w.heap.size, 1, none⟩ = some (.slice aL L.length kL) := by go_simp
  have hsz : w.heap.size < (w.alloc (.cells #[.slice aS S.length kS, .slice aL L.length kL] 26)).heap.size := by simp
  have HC := hid (sgoodH_any aS aL kS kL S L _ ((hG.below HB.out).mono HB.out.size) ((hV.below HB.out).mono HB.out.size))
  clear hG hV
  generalize hW : w.alloc (.cells #[.slice aS S.length kS, .slice aL L.length kL] 26) = W at *
  generalize goodH S L = g at *
  have HE : Hid (∀ x y, x = y → Ending.returned (.bool x) = .returned (.bool y)) := fun _ _ h => by rw [h]
  cases g
  · go_enter Try.func35, Try.ntmps35
    go_wp2_with fail
    refine HC.out.mono ?_
    rintro e w2 ⟨rfl, hb2⟩
    have HB2 := hid (HB.out.trans (hb2.mono HB.out.size))
    clear hb2 hW y0 y1
    go_wp2_with fail
    go_ret
    exact ⟨rfl, HB2.out⟩
  · by_cases h0 : 0 ≤ k
    · have hd0 : decide (0 ≤ k) = true := decide_eq_true h0
      go_enter Try.func35, Try.ntmps35
      go_wp2_with fail
      refine HC.out.mono ?_
      rintro e w2 ⟨rfl, hb2⟩
      have HB2 := hid (HB.out.trans (hb2.mono HB.out.size))
      rw [← hb2.cell (p := ⟨w.heap.size, 0, none⟩) hsz] at y0
      clear hb2 hW y1
      go_wp2_with fail
      go_ret
      exact ⟨by simp [h0], HB2.out⟩
    · have hd0 : decide (0 ≤ k) = false := decide_eq_false h0

      go_enter Try.func35, Try.ntmps35
      go_wp2_with fail
      refine HC.out.mono ?_
      rintro e w2 ⟨rfl, hb2⟩
      have HB2 := hid (HB.out.trans (hb2.mono HB.out.size))
      clear hb2 hW y0 y1
      go_wp2_with fail
      go_ret
      exact ⟨ret_b2 (by rw [decide_eq_false (by omega)]; rfl), HB2.out⟩
end Go.Proofs.Ytpdcomlokcohjaa
