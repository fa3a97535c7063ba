/- The program's small functions over masks: the closure that looks at a bit, the first that has it, a copy, one deleted. -/
import Derived.Test.YtnjeeeccfhpolaaPGl
import Derived.Deep.RegionWith
import Derived.Laws.Cover3
namespace Go.Proofs.Ytnjeeeccfhpolaa
set_option maxRecDepth 100000
open Go Go.ChangeShapes Go.WideShapes Go.ChangeAt Go.RowKit
set_option maxHeartbeats 400000 in
theorem itself_any (m : Int) (w : World) : Calls Try.prog 54 #[.int .i64 m] w fun e w' => e = .returned (.int .i64 m) ∧ w' = w := by
  go_enter Try.func54, Try.ntmps54
  go_wp2
  go_ret
  exact ⟨rfl, rfl⟩
set_option maxHeartbeats 400000 in
theorem unlikeMasks_any (x y : Int) (w : World) (hx : okI x) (hy : okI y) : Calls Try.prog 55 #[.int .i64 x, .int .i64 y] w fun e w' => e = .returned (.int .i64 (unI x y)) ∧ w' = w := by
  obtain ⟨a, rfl, ha⟩ := hx.nat
  obtain ⟨b, rfl, hb⟩ := hy.nat
  have h := i64_xor a b (by omega) (by omega)
  unfold unI
  rw [Int.toNat_natCast, Int.toNat_natCast]
  go_enter Try.func55, Try.ntmps55
  go_wp2
  go_ret
  exact ⟨rfl, rfl⟩
set_option maxHeartbeats 600000 in
theorem hasI_any (BM BB : Nat) (m : Int) (b : Nat) (w : World) (hm : okI m) (hb : b < 64) (h1 : w.cell? ⟨BM, 0, none⟩ = some (.func (.func 54) #[] #[])) (h2 : w.cell? ⟨BB, 0, none⟩ = some (.int .i64 b)) :
    Calls Try.prog 68 #[.int .i64 m, .pointer (some ⟨BM, 0, none⟩), .pointer (some ⟨BB, 0, none⟩)] w fun e w' => e = .returned (.bool (hasI b m)) ∧ Below w.heap.size w w' := by
  obtain ⟨k, rfl, hk⟩ := hm.nat
  have HH := hid (fun v => hasBit_any k b (by omega) hb v)
  have HT := hid (fun v => itself_any (k : Int) v)
  have hv : hasI b (k : Int) = k.testBit b := by unfold hasI; rw [Int.toNat_natCast]
  rw [hv]
  generalize k.testBit b = x at *
  have d1 : w.drew.cell? ⟨BM, 0, none⟩ = some (.func (.func 54) #[] #[]) := h1
  have d2 : w.drew.cell? ⟨BB, 0, none⟩ = some (.int .i64 b) := h2
  clear hm hv
  go_enter Try.func68, Try.ntmps68
  go_wp2_with fail
  go_quiet (first | (go_at_call 54; exact Calls.quiet_of_same (HT.out _)) | (go_at_call 64; exact Calls.quiet_of_same (HH.out _)))
  all_goals
    go_wp2_with fail
    go_ret
    exact ⟨rfl, belowN _ _⟩
/-- the first mask that has a bit, as a number -/
def ixI (b : Nat) (L : List Int) : Int := if L.findIdx (hasI b) < L.length then (L.findIdx (hasI b) : Int) else -1
theorem ixI_yes {b : Nat} {L : List Int} {k : Nat} (hk : k < L.length) (h1 : hasI b L[k] = true) (h2 : ∀ j (hj : j < L.length), j < k → hasI b L[j] = false) : ixI b L = (k : Int) := by
  have e : L.findIdx (hasI b) = k := by
    rw [List.findIdx_eq hk]
    exact ⟨h1, fun j hj => h2 j (by omega) hj⟩
  unfold ixI
  rw [e, if_pos hk]
theorem ixI_no {b : Nat} {L : List Int} (h : ∀ j (hj : j < L.length), hasI b L[j] = false) : ixI b L = -1 := by
  have e : L.findIdx (hasI b) = L.length := List.findIdx_eq_length.2 (fun x hx => by
    obtain ⟨i, hi, rfl⟩ := List.getElem_of_mem hx
    exact h i hi)
  unfold ixI
  rw [e, if_neg (Nat.lt_irrefl _)]
theorem ret_iv {a b : Int} (h : a = b) : Ending.returned (.int .i64 a) = .returned (.int .i64 b) := by rw [h]
set_option maxHeartbeats 1000000 in
theorem indexI_any (BM BB : Nat) (a : Option Addr) (cap : Nat) (L : List Int) (b : Nat) (w : World) (hn : L.length ≤ 1048576) (hok : ∀ x ∈ L, okI x) (hb : b < 64) (hB1 : BM < w.heap.size) (hB2 : BB < w.heap.size) (h1 : w.cell? ⟨BM, 0, none⟩ = some (.func (.func 54) #[] #[])) (h2 : w.cell? ⟨BB, 0, none⟩ = some (.int .i64 b)) (hZ : Is w.heap.size a L w) :
    Calls Try.prog 69 #[.slice a L.length cap, .func (.func 68) #[] #[.pointer (some ⟨BM, 0, none⟩), .pointer (some ⟨BB, 0, none⟩)]] w fun e w' => e = .returned (.int .i64 (ixI b L)) ∧ Below w.heap.size w w' := by
  have HZ := hid hZ
  have HC : Hid (∀ v (m : Int), okI m → Below w.heap.size w v → Calls Try.prog 68 #[.int .i64 m, .pointer (some ⟨BM, 0, none⟩), .pointer (some ⟨BB, 0, none⟩)] v fun e w' => e = .returned (.bool (hasI b m)) ∧ Below v.heap.size v w') := fun v m hm g => hasI_any BM BB m b v hm hb ((g.cell (p := ⟨BM, 0, none⟩) hB1).trans h1) ((g.cell (p := ⟨BB, 0, none⟩) hB2).trans h2)
  have HOK := hid hok
  clear hZ h1 h2 hB1 hB2 hok
  go_enter Try.func69, Try.ntmps69
  go_wp2_with fail
  go_loopw [8] (fun i wr => ∃ k : Nat, k ≤ L.length ∧ i = .int .i64 k ∧ (∀ j (h : j < L.length), j < k → hasI b L[j] = false) ∧ Below w.heap.size w wr) (fun i _ => L.length - (intOf i).toNat)
  case atStart => exact ⟨0, Nat.zero_le _, rfl, (fun _ _ h => absurd h (Nat.not_lt_zero _)), Below.refl _ _⟩
  case round =>
    obtain ⟨k, hk, rfl, hall, hbel⟩ := hrel
    have HALL := hid hall
    have HBEL := hid hbel
    clear hall
    by_cases hlt : k < L.length
    · obtain ⟨b0, off, rfl, hb0, hc⟩ := HZ.out.cell (by omega)
      have x0 := (hbel.cell (p := ⟨b0, off + k, none⟩) hb0).trans (hc k hlt)
      have HCk := hid (HC.out wr L[k] (HOK.out _ (List.getElem_mem hlt)) hbel)
      have HY : Hid (hasI b L[k] = true → ixI b L = (k : Int)) := fun g => ixI_yes hlt g HALL.out
      have HN : Hid (hasI b L[k] = false → ∀ j (h : j < L.length), j < k + 1 → hasI b L[j] = false) := fun g j hj hjk => by
        by_cases e : j = k
        · subst e; exact g
        · exact HALL.out j hj (by omega)
      clear hc hbel HALL
      generalize L[k] = m at *
      generalize hasI b m = x at *
      go_wp2_with fail
      refine HCk.out.mono ?_
      rintro e w2 ⟨rfl, g2⟩
      have HB2 : Hid (Below w.heap.size w w2) := HBEL.out.trans (g2.mono HBEL.out.size)
      clear g2 HCk
      cases x
      · go_wp2_with fail
        go_roundw
        case rel => exact ⟨k + 1, by omega, by go_num, HN.out (by first | rfl | trivial), HB2.out⟩
        case measure => simp [intOf]; omega
      · go_wp2_with fail
        go_ret
        exact ⟨ret_iv (HY.out (by first | rfl | trivial)).symm, HB2.out⟩
    · have HE : Hid (ixI b L = -1) := ixI_no (fun j hj => HALL.out j hj (by omega))
      clear hbel
      go_wp2
      go_ret
      exact ⟨ret_iv HE.out.symm, HBEL.out⟩
set_option maxHeartbeats 1000000 in
theorem cloneI_any (a : Option Addr) (cap : Nat) (L : List Int) (w : World) (hn : L.length ≤ 1048576) (hZ : Is w.heap.size a L w) :
    Calls Try.prog 67 #[.slice a L.length cap] w fun e w' => ∃ v, e = .returned v ∧ GL KI w.heap.size v L w' ∧ Below w.heap.size w w' := by
  cases a with
  | none =>
    have hL : L = [] := by
      cases L with
      | nil => rfl
      | cons x l => obtain ⟨b, off, e, -⟩ := hZ.cell (by simp); cases e
    subst hL
    clear hZ
    have hnl : ∀ W, (binOp .eql 40 (.slice none 0 cap) (.slice none 0 0)).run Try.prog W = .ok (.bool true) W := fun W => by simp [binOp, run_equal_slice_nil W 40 3 none 0 cap Try.underlying40]
    go_enter Try.func67, Try.ntmps67
    go_wp2_with fail
    go_ret
    exact ⟨_, rfl, GL.nil _ _ _, Below.refl _ _⟩
  | some ad =>
    have g0 := boxB w (.cells #[] 3)
    obtain ⟨v, w1, r0', o0, g1, -⟩ := (GL.lit KI w).app KI.ok g0.size (some ad) cap L ((hZ.below g0).mono g0.size) (by simp; omega)
    have r0 : ∀ ty, (Builtin.append_ #[40, 40] ty #[.slice (some ⟨w.heap.size, 0, none⟩) 0 0, .slice (some ad) L.length cap]).run Try.prog (w.alloc (.cells #[] 3)) = .ok v w1 := r0'
    have HO := hid o0
    have HB := hid (g0.trans g1)
    have hnl : ∀ W, (binOp .eql 40 (.slice (some ad) L.length cap) (.slice none 0 0)).run Try.prog W = .ok (.bool false) W := fun W => by simp [binOp, run_equal_slice_nil W 40 3 (some ad) L.length cap Try.underlying40]
    clear r0' o0 g1 hZ g0
    go_enter Try.func67, Try.ntmps67
    go_wp2_with (at_builtin; refine wpList_append_run rfl (.tmp 5) (.tmp 6) 40 rfl _ _ rfl rfl _ _ r0 ?_)
    go_ret
    exact ⟨_, rfl, HO.out, HB.out⟩
theorem gl_al {lo : Nat} {v : Value} {l : List Int} {w : World} : GL KI lo v l w ↔ AL lo v l w := by
  have e : gvals KI l = ivals l := ivals_flat l
  unfold GL AL
  rw [e]
  exact Iff.rfl
end Go.Proofs.Ytnjeeeccfhpolaa
