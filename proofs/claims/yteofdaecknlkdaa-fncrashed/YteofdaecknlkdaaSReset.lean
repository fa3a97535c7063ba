/- Walks of the model's ResetZone. -/
import Derived.Test.YteofdaecknlkdaaThere
namespace Go.Proofs.Yteofdaecknlkdaa
set_option maxRecDepth 100000
open Go.ChangeShapes Go.WideShapes Go.ChangeAt Go.RowKit
set_option maxHeartbeats 1000000 in
theorem reset_no (a : Option Addr) (cap : Nat) (zs : List Zn) (k : Int) (w : World) (hn : zs.length ≤ 1048576) (hZ : Zs w.heap.size a zs w) (h : ¬ there zs k) :
    Calls Try.prog 17 #[.agg #[.slice a zs.length cap], .int .i64 k] w fun e w' => e = .returned (.tuple #[.agg #[.slice none 0 0], .bool false]) ∧ Below w.heap.size w w' := by
  have HZ : Hid (∀ w', Below w.heap.size w w' → Zs w'.heap.size a zs w') := fun w' g => (hZ.below g).mono g.size
  have HT : Hid (¬ there zs k) := h
  clear hZ h
  go_enter Try.func17, Try.ntmps17
  go_wp2_with fail
  refine (there_no a cap zs k _ hn (HZ.out _ (((Below.refl _ _).alloc (Nat.le_refl _) _).alloc (by simp) _)) HT.out).mono ?_
  rintro e w1 ⟨rfl, b1⟩
  have hk2 : w1.heap[w.heap.size + 1]? = some (.cells #[.slice none 0 0] 25) := by
    rw [b1.block (w.heap.size + 1) (by simp)]; exact heap_last2 _ _ _
  have HB2 : Hid (Below w.heap.size w w1) := (((Below.refl _ _).alloc (Nat.le_refl _) _).alloc (by simp) _).trans (b1.mono (by simp; omega))
  have hq : w1.cell? ⟨w.heap.size + 1, 0, none⟩ = some (.slice none 0 0) := by unfold World.cell?; rw [hk2]; rfl
  have hf : w1.frozen? ⟨w.heap.size + 1, 0, none⟩ = false := by unfold World.frozen?; rw [hk2]; rfl
  clear b1 hk2
  go_wp2
  refine bodyPost_ret (v := .tuple #[.agg #[.slice none 0 0], .bool false]) (by simp [results, Try.results17, go_sem, hq]) rfl ⟨rfl, ?_⟩
  exact HB2.out.setCell (by show w.heap.size ≤ w.heap.size + 1; omega) _
set_option maxHeartbeats 1000000 in
theorem reset_yes (a : Option Addr) (cap : Nat) (zs : List Zn) (k : Nat) (w : World) (hZ : Zs w.heap.size a zs w) (h : there zs k) (hk : k < zs.length) :
    Calls Try.prog 17 #[.agg #[.slice a zs.length cap], .int .i64 k] w fun e w' => ∃ R c, w.heap.size ≤ R ∧ e = .returned (.tuple #[.agg #[.slice (some ⟨R, 0, none⟩) zs.length c], .bool true]) ∧
      ZRow R (zs.set k zeroZ) w' ∧ Below w.heap.size w w' := by
  have hl := goodD_len h.1
  have hn : zs.length ≤ 1048576 := by omega
  have HZ : Hid (∀ w', Below w.heap.size w w' → Zs w'.heap.size a zs w') := fun w' g => (hZ.below g).mono g.size
  have HT : Hid (there zs k) := h
  have HSM : Hid (∀ z ∈ zs, z.data.size ≤ 1048576) := goodD_small h.1
  clear hZ h
  go_enter Try.func17, Try.ntmps17
  go_wp2_with fail
  refine (there_yes a cap zs k _ hn (HZ.out _ (((Below.refl _ _).alloc (Nat.le_refl _) _).alloc (by simp) _)) HT.out).mono ?_
  rintro e w1 ⟨rfl, b1⟩
  have hd : w1.cell? ⟨w.heap.size, 0, none⟩ = some (.slice a zs.length cap) := by
    rw [b1.cell (p := ⟨w.heap.size, 0, none⟩) (by simp; omega)]; go_simp
  have HB1 : Hid (Below w.heap.size w w1) := (((Below.refl _ _).alloc (Nat.le_refl _) _).alloc (by simp) _).trans (b1.mono (by simp; omega))
  have HK1 : Hid (w1.heap[w.heap.size + 1]? = some (.cells #[.slice none 0 0] 25)) := by
    show w1.heap[w.heap.size + 1]? = _
    rw [b1.block (w.heap.size + 1) (by simp)]; exact heap_last2 _ _ _
  have hs1 := b1.size
  rw [heap_size, heap_size] at hs1
  clear b1
  go_wp2_with fail
  refine (own_any a cap zs _ (by omega) hn (HZ.out _ HB1.out)).mono ?_
  rintro e w3 ⟨R, c, hR, rfl, hrow, b3⟩
  obtain ⟨y0, y1, y2⟩ := hrow.cell k hk
  have f0 := hrow.free (k * 3) (by omega)
  have f1 := hrow.free (k * 3 + 1) (by omega)
  have f2 := hrow.free (k * 3 + 2) (by omega)
  have hblk : w3.heap[w.heap.size + 1]? = some (.cells #[.slice none 0 0] 25) := by rw [b3.block _ (by omega)]; exact HK1.out
  have hltR := hrow.lt
  have hs3 := b3.size
  have hnR : w.heap.size + 1 ≠ R := by omega
  have hh : ∀ (v0 v1 v2 : Value) (o : Obj), ((((w3.setCell ⟨R, k * 3, none⟩ v0).setCell ⟨R, k * 3 + 1, none⟩ v1).setCell ⟨R, k * 3 + 2, none⟩ v2).alloc o).heap[w.heap.size + 1]? = some (.cells #[.slice none 0 0] 25) := fun v0 v1 v2 o => by
    rw [Below.heap_alloc _ _ _ (by simp [World.setCell]; omega), Below.heap_setCell _ _ _ _ hnR, Below.heap_setCell _ _ _ _ hnR, Below.heap_setCell _ _ _ _ hnR, hblk]
  have hq1 : ∀ (v0 v1 v2 : Value) (o : Obj), ((((w3.setCell ⟨R, k * 3, none⟩ v0).setCell ⟨R, k * 3 + 1, none⟩ v1).setCell ⟨R, k * 3 + 2, none⟩ v2).alloc o).cell? ⟨w.heap.size + 1, 0, none⟩ = some (.slice none 0 0) := fun v0 v1 v2 o => by
    unfold World.cell?; rw [hh]; rfl
  have hf1 : ∀ (v0 v1 v2 : Value) (o : Obj), ((((w3.setCell ⟨R, k * 3, none⟩ v0).setCell ⟨R, k * 3 + 1, none⟩ v1).setCell ⟨R, k * 3 + 2, none⟩ v2).alloc o).frozen? ⟨w.heap.size + 1, 0, none⟩ = false := fun v0 v1 v2 o => by
    unfold World.frozen?; rw [hh]; rfl
  have HROW : Hid (ZRow R (zs.set k zeroZ) (((w3.setCell ⟨R, k * 3, none⟩ (.string zeroZ.data)).setCell ⟨R, k * 3 + 1, none⟩ (.int .i64 zeroZ.sure)).setCell ⟨R, k * 3 + 2, none⟩ (.bool zeroZ.full))) := hrow.set k hk zeroZ
  have HB3 : Hid (Below w.heap.size w w3) := HB1.out.trans (b3.mono HB1.out.size)
  clear hrow b3 HB1 HK1 hblk hd hh
  have hne : R ≠ w.heap.size + 1 := by omega
  have hne2 : w3.heap.size ≠ w.heap.size + 1 := by omega
  go_wp2
  refine bodyPost_ret (v := .tuple #[.agg #[.slice (some ⟨R, 0, none⟩) zs.length c], .bool true]) (by simp [results, Try.results17, go_sem, hq1]) rfl ⟨R, c, by omega, rfl, ?_, ?_⟩
  · exact ZRow.same (HROW.out.below ((Below.refl _ _).alloc (Nat.le_refl _) _)) (by simp [World.setCell]) (Below.heap_setCell _ _ _ _ (by show R ≠ w.heap.size + 1; omega))
  · exact ((((HB3.out.setCell (by show w.heap.size ≤ R; omega) _).setCell (by show w.heap.size ≤ R; omega) _).setCell (by show w.heap.size ≤ R; omega) _).alloc (by simp [World.setCell]; omega) _).setCell (by show w.heap.size ≤ w.heap.size + 1; omega) _
end Go.Proofs.Yteofdaecknlkdaa
