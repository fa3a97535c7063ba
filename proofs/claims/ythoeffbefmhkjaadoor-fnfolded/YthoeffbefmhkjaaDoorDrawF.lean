/- Walks of the drawn records. -/
import Derived.Test.YthoeffbefmhkjaaDoorDrawS
import Derived.Test.YthoeffbefmhkjaaDoorDrawU
namespace Go.Proofs.YthoeffbefmhkjaaDoor
set_option maxRecDepth 100000
open Go.ChangeShapes Go.WideShapes Go.ChangeAt Go.RowKit G00541
set_option maxHeartbeats 1000000 in
theorem drawFoldRecords_any (len cap : Nat) (a : Option Addr) (w : World) (hK : Code w.heap.size len cap a w) :
    Calls Tryd.prog 20 #[.slice a len cap] w fun e w' => ∃ (l : List Rc) (b : Option Addr) (c : Nat), e = .returned (.slice b l.length c) ∧ l.length ≤ 64 ∧ l.length ≤ c ∧ (∀ r ∈ l, r.data.length ≤ 9) ∧ OwnR w.heap.size w'.heap.size b l w' ∧ Below w.heap.size w w' := by
  have HC : Hid (∀ T o, Cur w.heap.size 0 (.slice a len cap) ((w.alloc (.cells #[.slice a len cap, .int .i64 0, .int .u64 0] T)).alloc o)) := fun T o => (Cur.start _ T w).alloc o
  have HK : Hid (∀ o o', Code w.heap.size len cap a ((w.alloc o).alloc o')) := fun o o' => (hK.start o).but ((But.refl w.heap.size _).alloc o') (Nat.le_refl _) (by simp)
  clear hK
  go_enter Tryd.func20, Tryd.ntmps20
  go_wp2_with fail
  refine (among_any [5, 10, 64] 3 (w.heap.size + 1) w.heap.size 0 len cap 3 a _ rfl (by decide) (by decide) (by simp) (by omega) (fun i hi => by have := lits_at [5, 10, 64] (w.alloc (.cells #[.slice a len cap, .int .i64 0, .int .u64 0] 55)) i hi; rw [heap_size] at this; exact this) (by omega) (HC.out _ _) (HK.out _ _)).mono ?_
  rintro e w1 ⟨i, hi, rfl, hC1, hB1⟩
  have hm : ∃ m : Nat, ([5, 10, 64] : List Int).getD i 0 = (m : Int) ∧ m ≤ 64 := by
    match i, hi with
    | 0, _ => exact ⟨5, rfl, by decide⟩
    | 1, _ => exact ⟨10, rfl, by decide⟩
    | 2, _ => exact ⟨64, rfl, by decide⟩
  obtain ⟨m, em, hm⟩ := hm
  rw [em]
  have hs1 := hB1.size
  rw [heap_size, heap_size] at hs1
  have HC1 : Hid (Cur w.heap.size (0 + 2) (.slice a len cap) w1) := hC1
  have HB1 : Hid (Below w.heap.size w w1) := (((Below.refl _ _).alloc (Nat.le_refl _) _).alloc (by simp) _).trans (hB1.below (Nat.le_refl _) (by simp; omega))
  have HK1 : Hid (Code w.heap.size len cap a w1) := (HK.out _ _).but hB1 (Nat.le_refl _) (by rw [heap_size, heap_size]; omega)
  clear hC1 hB1 HC HK hi em
  go_wp2_with fail
  refine (records_any m w.heap.size (0 + 2) len cap a _ hm (by omega) HC1.out HK1.out).mono ?_
  rintro e w2 ⟨l, v, rfl, hl, hd, hown, hC2, hB2⟩
  obtain ⟨b, c, rfl, hlc, ho⟩ := own_recs_cap hown rfl
  have HO : Hid (OwnR w.heap.size w2.heap.size b l w2) := by
    rcases ho with h | ⟨R, h1, h3, e, hr⟩
    · exact Or.inl h
    · exact Or.inr ⟨R, by omega, h3, e, hr⟩
  have HD : Hid (∀ r ∈ l, r.data.length ≤ 9) := hd
  have HB2 : Hid (Below w.heap.size w w2) := HB1.out.trans (hB2.below (Nat.le_refl _) (by omega))
  clear hd hown hC2 hB2 ho HC1 HB1 HK1
  go_wp2
  go_ret
  exact ⟨l, b, c, rfl, by omega, hlc, HD.out, HO.out, HB2.out⟩
set_option maxHeartbeats 1000000 in
theorem drawGoodRecord_any (len cap : Nat) (a : Option Addr) (w : World) (hK : Code w.heap.size len cap a w) :
    Calls Tryd.prog 48 #[.slice a len cap] w fun e w' => ∃ r : Rc, e = .returned (rval r) ∧ r.data.length ≤ 9 ∧ Below w.heap.size w w' := by
  have HC : Hid (∀ T o, Cur (w.heap.size + 1) 0 (.slice a len cap) ((w.alloc o).alloc (.cells #[.slice a len cap, .int .i64 0, .int .u64 0] T))) := fun T o => by
    have h := Cur.start (.slice a len cap) T (w.alloc o)
    rw [heap_size] at h
    exact h
  have HK : Hid (∀ o o', Code (w.heap.size + 1) len cap a ((w.alloc o).alloc o')) := fun o o' => (hK.below (((Below.refl _ _).alloc (Nat.le_refl _) o).alloc (by simp) o')).mono (by omega)
  clear hK
  go_enter Tryd.func48, Tryd.ntmps48
  go_wp2_with fail
  refine (record_any (w.heap.size + 1) 0 len cap a _ (by omega) (HC.out _ _) (HK.out _ _)).mono ?_
  rintro e w1 ⟨r, rfl, hr, hC1, hB1⟩
  have hs1 := hB1.size
  rw [heap_size, heap_size] at hs1
  have x := fun i => hB1.cell w.heap.size i (by simp; omega) (by omega)
  have fx := fun i => hB1.frozen w.heap.size i (by simp; omega) (by omega)
  have z0 := (x 0).trans (show _ = some (.int .i64 0) by go_simp)
  have z1 := (x 1).trans (show _ = some (.int .i64 0) by go_simp)
  have z2 := (x 2).trans (show _ = some (.int .i64 0) by go_simp)
  have z3 := (x 3).trans (show _ = some (.string ⟨#[]⟩) by go_simp)
  have f0 := (fx 0).trans (show _ = false by go_simp)
  have f1 := (fx 1).trans (show _ = false by go_simp)
  have f2 := (fx 2).trans (show _ = false by go_simp)
  have f3 := (fx 3).trans (show _ = false by go_simp)
  have HB1 : Hid (Below w.heap.size w w1) := (((Below.refl _ _).alloc (Nat.le_refl _) _).alloc (by simp) _).trans (hB1.below (by omega) (by simp; omega))
  clear hC1 hB1 HC HK x fx
  unfold rval
  go_wp2
  refine bodyPost_ret (v := rval r) (by simp [results, Tryd.results48, go_sem]; go_simp; rfl) rfl ⟨r, rfl, hr, ?_⟩
  exact (((HB1.out.setCell (Nat.le_refl _) _).setCell (Nat.le_refl _) _).setCell (Nat.le_refl _) _).setCell (Nat.le_refl _) _
set_option maxHeartbeats 1000000 in
theorem drawRecordText_any (len cap : Nat) (a : Option Addr) (w : World) (hK : Code w.heap.size len cap a w) :
    Calls Tryd.prog 26 #[.slice a len cap] w fun e w' => ∃ r : Rc, e = .returned (rval r) ∧ r.data.length ≤ 9 ∧ Below w.heap.size w w' := by
  have HK : Hid (∀ o, Code (w.alloc o).heap.size len cap a (w.alloc o)) := fun o => (hK.start o).mono (by simp)
  clear hK
  go_enter Tryd.func26, Tryd.ntmps26
  go_wp2_with fail
  refine (drawGoodRecord_any len cap a _ (HK.out _)).mono ?_
  rintro e w1 ⟨r, rfl, hr, hB1⟩
  have hs1 := hB1.size
  rw [heap_size] at hs1
  have x := fun i => hB1.cell (p := ⟨w.heap.size, i, none⟩) (by simp)
  have fx := fun i => hB1.frozen (p := ⟨w.heap.size, i, none⟩) (by simp)
  have z0 := (x 0).trans (show _ = some (.int .i64 0) by go_simp)
  have z1 := (x 1).trans (show _ = some (.int .i64 0) by go_simp)
  have z2 := (x 2).trans (show _ = some (.int .i64 0) by go_simp)
  have z3 := (x 3).trans (show _ = some (.string ⟨#[]⟩) by go_simp)
  have f0 := (fx 0).trans (show _ = false by go_simp)
  have f1 := (fx 1).trans (show _ = false by go_simp)
  have f2 := (fx 2).trans (show _ = false by go_simp)
  have f3 := (fx 3).trans (show _ = false by go_simp)
  have HB1 : Hid (Below w.heap.size w w1) := ((Below.refl _ _).alloc (Nat.le_refl _) _).trans (hB1.mono (by simp))
  clear hB1 HK x fx
  unfold rval
  go_wp2
  refine bodyPost_ret (v := rval r) (by simp [results, Tryd.results26, go_sem]; go_simp; rfl) rfl ⟨r, rfl, hr, ?_⟩
  exact (((HB1.out.setCell (Nat.le_refl _) _).setCell (Nat.le_refl _) _).setCell (Nat.le_refl _) _).setCell (Nat.le_refl _) _
end Go.Proofs.YthoeffbefmhkjaaDoor
