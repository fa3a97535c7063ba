/- Walks of the program's withoutBlocks, withStretch, noPlaces. -/
import Derived.Test.YtgipkpldlkmdkaaAr
import Derived.WalkKit
namespace Go.Proofs.Ytgipkpldlkmdkaa
set_option maxRecDepth 100000
open Go Go.ChangeShapes Go.WideShapes Go.ChangeAt Go.RowKit G00541
/-- blocks at .. at + k - 1 have no place -/
def cutF (f : Nat → Int) (p k : Nat) : Nat → Int := fun b => if p ≤ b ∧ b < p + k then -1 else f b
theorem cutF_zero (f : Nat → Int) (p : Nat) : cutF f p 0 = f := by
  funext b; unfold cutF; rw [if_neg (by omega)]
theorem cutF_step (f : Nat → Int) (p k : Nat) : upd (cutF f p k) (p + k) (-1) = cutF f p (k + 1) := by
  funext b
  unfold upd cutF
  by_cases e : b = p + k
  · rw [if_pos e, if_pos (by omega)]
  · rw [if_neg e]
    by_cases g : p ≤ b ∧ b < p + k
    · rw [if_pos g, if_pos (by omega)]
    · rw [if_neg g, if_neg (by omega)]
set_option maxHeartbeats 1000000 in
theorem without_any (f : Nat → Int) (p n : Nat) (w : World) (h : p + n ≤ 16) (h1 : 1 ≤ n) :
    Calls Try.prog 50 #[.agg (arr f), .int .i64 p, .int .i64 n] w fun e w' => e = .returned (.agg (arr (cutF f p n))) ∧ Below w.heap.size w w' := by
  have hsl := fun W => slice_ar w.heap.size p n h h1 _ _ rfl rfl W
  have HA : Hid (Ar w.heap.size f ((w.alloc (.cells (arr f) 61)).alloc (.cells (arr fun _ => 0) 61))) := (Ar.new w f 61).alloc _
  have HZ : Hid (Ar (w.heap.size + 1) (fun _ => 0) ((w.alloc (.cells (arr f) 61)).alloc (.cells (arr fun _ => 0) 61))) := by
    have := Ar.new (w.alloc (.cells (arr f) 61)) (fun _ => 0) 61
    rw [heap_size] at this
    exact this
  go_enter Try.func50, Try.ntmps50
  go_wp2
  go_loopw [19] (fun i wr => ∃ k : Nat, k ≤ n ∧ i = .int .i64 k ∧ Ar w.heap.size (cutF f p k) wr ∧ Ar (w.heap.size + 1) (fun _ => 0) wr ∧ Below w.heap.size w wr) (fun i _ => n - (intOf i).toNat)
  case atStart => exact ⟨0, Nat.zero_le _, rfl, by rw [cutF_zero]; exact HA.out, HZ.out, ((Below.refl _ _).alloc (Nat.le_refl _) _).alloc (by simp) _⟩
  case round =>
    obtain ⟨k, hk, rfl, ha, hz, hbel⟩ := hrel
    have HA1 : Hid (Ar w.heap.size (cutF f p k) wr) := ha
    have HZ1 : Hid (Ar (w.heap.size + 1) (fun _ => 0) wr) := hz
    have HBEL : Hid (Below w.heap.size w wr) := hbel
    by_cases hlt : k < n
    · have y0 := ha.cell (p + k) (by omega)
      have f0 := ha.free (p + k)
      clear ha hz hbel HA HZ
      go_wp2
      go_roundw
      case rel => exact ⟨k + 1, by omega, by go_num, by rw [← cutF_step]; exact HA1.out.set _ _, HZ1.out.same (Below.heap_setCell _ _ _ _ (by show w.heap.size + 1 ≠ w.heap.size; omega)), HBEL.out.setCell (Nat.le_refl _) _⟩
      case measure => simp [intOf]; omega
    · obtain rfl : k = n := by omega
      clear ha hz hbel HA HZ
      go_wp2_with (first | refine wpList_load_ar HA1.out rfl _ rfl rfl ?_ | (refine wpList_store_ar HZ1.out rfl _ _ rfl rfl rfl ?_; intro w9 ha9 hb9))
      have hld := loadv_ar ha9.out
      have HB9 : Hid (Below w.heap.size w w9) := HBEL.out.trans (hb9.out.below (by omega) (HBEL.out.size))
      refine bodyPost_ret (v := .agg (arr (cutF f p k))) ?_ rfl ⟨rfl, HB9.out⟩
      rw [results_cell rfl]
      simp [asAddr, Act.put, Result.andThen, hld]
/-- the first k blocks of a stretch have its places -/
def putF (f : Nat → Int) (x : Sx) (k : Nat) : Nat → Int := fun b => if x.at_ ≤ b ∧ (b : Int) < x.at_ + k then x.place + (b - x.at_) else f b
theorem putF_zero (f : Nat → Int) (x : Sx) : putF f x 0 = f := by
  funext b; unfold putF; rw [if_neg (by omega)]
theorem putF_step (f : Nat → Int) (x : Sx) (p k : Nat) (hp : x.at_ = p) (v : Int) (hv : v = x.place + k) : upd (putF f x k) (p + k) v = putF f x (k + 1) := by
  funext b
  unfold upd putF
  by_cases e : b = p + k
  · rw [if_pos e, if_pos (by omega)]; omega
  · rw [if_neg e]
    by_cases g : x.at_ ≤ b ∧ (b : Int) < x.at_ + k
    · rw [if_pos g, if_pos (by omega)]
    · rw [if_neg g, if_neg (by omega)]
set_option maxHeartbeats 1000000 in
theorem with_any (f : Nat → Int) (p n : Nat) (c : Int) (w : World) (h : p + n ≤ 16) (h1 : 1 ≤ n) (hc0 : 0 ≤ c) (hc1 : c ≤ 10000) :
    Calls Try.prog 43 #[.agg (arr f), .agg #[.int .i64 p, .int .i64 n, .int .i64 c]] w fun e w' => e = .returned (.agg (arr (putF f ⟨p, n, c⟩ n))) ∧ Below w.heap.size w w' := by
  have hsl := fun W => slice_ar w.heap.size p n h h1 _ _ rfl rfl W
  have HA : Hid (Ar w.heap.size f (((w.alloc (.cells (arr f) 61)).alloc (.cells #[.int .i64 p, .int .i64 n, .int .i64 c] 36)).alloc (.cells (arr fun _ => 0) 61))) := ((Ar.new w f 61).alloc _).alloc _
  have HZ : Hid (Ar (w.heap.size + 2) (fun _ => 0) (((w.alloc (.cells (arr f) 61)).alloc (.cells #[.int .i64 p, .int .i64 n, .int .i64 c] 36)).alloc (.cells (arr fun _ => 0) 61))) := by
    have := Ar.new ((w.alloc (.cells (arr f) 61)).alloc (.cells #[.int .i64 p, .int .i64 n, .int .i64 c] 36)) (fun _ => 0) 61
    rw [heap_size, heap_size] at this
    exact this
  have HC : Hid ((((w.alloc (.cells (arr f) 61)).alloc (.cells #[.int .i64 p, .int .i64 n, .int .i64 c] 36)).alloc (.cells (arr fun _ => 0) 61)).heap[w.heap.size + 1]? = some (.cells #[.int .i64 p, .int .i64 n, .int .i64 c] 36)) := heap_mid3 _ _ _ _
  go_enter Try.func43, Try.ntmps43
  go_wp2
  go_loopw [20] (fun i wr => ∃ k : Nat, k ≤ n ∧ i = .int .i64 k ∧ Ar w.heap.size (putF f ⟨p, n, c⟩ k) wr ∧ Ar (w.heap.size + 2) (fun _ => 0) wr ∧ wr.heap[w.heap.size + 1]? = some (.cells #[.int .i64 p, .int .i64 n, .int .i64 c] 36) ∧ Below w.heap.size w wr) (fun i _ => n - (intOf i).toNat)
  case atStart => exact ⟨0, Nat.zero_le _, rfl, by rw [putF_zero]; exact HA.out, HZ.out, HC.out, (((Below.refl _ _).alloc (Nat.le_refl _) _).alloc (by simp) _).alloc (by simp; omega) _⟩
  case round =>
    obtain ⟨k, hk, rfl, ha, hz, hc, hbel⟩ := hrel
    have HA1 : Hid (Ar w.heap.size (putF f ⟨p, n, c⟩ k) wr) := ha
    have HZ1 : Hid (Ar (w.heap.size + 2) (fun _ => 0) wr) := hz
    have HC1 : Hid (wr.heap[w.heap.size + 1]? = some (.cells #[.int .i64 p, .int .i64 n, .int .i64 c] 36)) := hc
    have HBEL : Hid (Below w.heap.size w wr) := hbel
    by_cases hlt : k < n
    · have y0 := ha.cell (p + k) (by omega)
      have f0 := ha.free (p + k)
      have c2 : wr.cell? ⟨w.heap.size + 1, 2, none⟩ = some (.int .i64 c) := by unfold World.cell?; rw [hc]; rfl
      clear ha hz hbel hc HA HZ HC
      go_wp2
      go_roundw
      case rel => exact ⟨k + 1, by omega, by go_num, by rw [← putF_step f ⟨p, n, c⟩ p k rfl (c + k) rfl]; exact HA1.out.set _ _, HZ1.out.same (Below.heap_setCell _ _ _ _ (by show w.heap.size + 2 ≠ w.heap.size; omega)), (Below.heap_setCell _ _ _ _ (by show w.heap.size + 1 ≠ w.heap.size; omega)).trans HC1.out, HBEL.out.setCell (Nat.le_refl _) _⟩
      case measure => simp [intOf]; omega
    · obtain rfl : k = n := by omega
      clear ha hz hbel hc HA HZ HC
      go_wp2_with (first | refine wpList_load_ar HA1.out rfl _ rfl rfl ?_ | (refine wpList_store_ar HZ1.out rfl _ _ rfl rfl rfl ?_; intro w9 ha9 hb9))
      have hld := loadv_ar ha9.out
      have HB9 : Hid (Below w.heap.size w w9) := HBEL.out.trans (hb9.out.below (by omega) (HBEL.out.size))
      refine bodyPost_ret (v := .agg (arr (putF f ⟨p, k, c⟩ k))) ?_ rfl ⟨rfl, HB9.out⟩
      rw [results_cell rfl]
      simp [asAddr, Act.put, Result.andThen, hld]
set_option maxHeartbeats 1000000 in
theorem none_any (w : World) : Calls Try.prog 33 #[] w fun e w' => e = .returned (.agg (arr fun _ => -1)) ∧ Below w.heap.size w w' := by
  have h0 : (cutF (fun _ => 0) 0 16) = fun b => if b < 16 then -1 else 0 := by
    funext b; unfold cutF
    by_cases h : b < 16
    · rw [if_pos (by omega), if_pos h]
    · rw [if_neg (by omega), if_neg h]
  have h1 : arr (cutF (fun _ => 0) 0 16) = arr (fun _ => -1) := arr_ext _ _ fun b hb => by rw [h0]; simp only; rw [if_pos hb]
  have HC : Hid (∀ v, Calls Try.prog 50 #[.agg (arr fun _ => 0), .int .i64 0, .int .i64 16] v fun e w' => e = .returned (.agg (arr fun _ => -1)) ∧ Below v.heap.size v w') := fun v => by
    have := without_any (fun _ => 0) 0 16 v (by decide) (by decide)
    rw [h1] at this
    exact this
  clear h0 h1
  have HA : Hid (Ar w.heap.size (fun _ => 0) ((w.alloc (.cells (arr fun _ => 0) 61)).alloc (.cells (arr fun _ => 0) 61))) := (Ar.new w _ 61).alloc _
  have HZ : Hid (Ar (w.heap.size + 1) (fun _ => 0) ((w.alloc (.cells (arr fun _ => 0) 61)).alloc (.cells (arr fun _ => 0) 61))) := by
    have := Ar.new (w.alloc (.cells (arr fun _ => 0) 61)) (fun _ => 0) 61
    rw [heap_size] at this
    exact this
  go_enter Try.func33, Try.ntmps33
  go_wp2_with (first | refine wpList_load_ar HZ.out rfl _ rfl rfl ?_ | fail)
  refine (HC.out _).mono ?_
  rintro e w1 ⟨rfl, b1⟩
  have HA1 : Hid (Ar w.heap.size (fun _ => 0) w1) := HA.out.below b1
  have HB1 : Hid (Below w.heap.size w w1) := (((Below.refl _ _).alloc (Nat.le_refl _) _).alloc (by simp) _).trans (b1.mono (by simp; omega))
  clear HA HZ HC b1
  go_wp2_with (refine wpList_store_ar HA1.out rfl _ _ rfl rfl rfl ?_; intro w9 ha9 hb9)
  have hld := loadv_ar ha9.out
  have HB9 : Hid (Below w.heap.size w w9) := HB1.out.trans (hb9.out.below (by omega) (HB1.out.size))
  refine bodyPost_ret (v := .agg (arr fun _ => -1)) ?_ rfl ⟨rfl, HB9.out⟩
  rw [results_cell rfl]
  simp [asAddr, Act.put, Result.andThen, hld]
end Go.Proofs.Ytgipkpldlkmdkaa
