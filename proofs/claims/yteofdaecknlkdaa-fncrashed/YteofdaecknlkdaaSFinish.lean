/- Walks of the model's FinishZone. -/
import Derived.Test.YteofdaecknlkdaaThere
namespace Go.Proofs.Yteofdaecknlkdaa
set_option maxRecDepth 100000
open Go.ChangeShapes Go.WideShapes Go.ChangeAt Go.RowKit
set_option maxHeartbeats 1000000 in
theorem finish_yes (a : Option Addr) (cap : Nat) (zs : List Zn) (k : Nat) (w : World) (hZ : Zs w.heap.size a zs w) (h : there zs k) (hk : k < zs.length) (ho : openZ zs[k] = true) :
    Calls Try.prog 15 #[.agg #[.slice a zs.length cap], .int .i64 k] w fun e w' => ∃ R c, w.heap.size ≤ R ∧ e = .returned (.tuple #[.agg #[.slice (some ⟨R, 0, none⟩) zs.length c], .bool true]) ∧
      ZRow R (zs.set k ⟨zs[k].data, zs[k].sure, true⟩) w' ∧ Below w.heap.size w w' := by
  have hl := goodD_len h.1
  have hn : zs.length ≤ 1048576 := by omega
  obtain ⟨b, off, rfl, hb, hc⟩ := hZ.cell (by omega)
  obtain ⟨c0, c1, c2⟩ := hc k hk
  have HZ : Hid (∀ w', Below w.heap.size w w' → Zs w'.heap.size (some ⟨b, off, none⟩) zs w') := fun w' g => (hZ.below g).mono g.size
  have HT : Hid (there zs k) := h
  have HO : Hid (openZ zs[k] = true) := ho
  clear hZ h ho hc
  go_enter Try.func15, Try.ntmps15
  go_wp2_with fail
  refine (there_yes (some ⟨b, off, none⟩) cap zs k _ hn (HZ.out _ (((Below.refl _ _).alloc (Nat.le_refl _) _).alloc (by simp) _)) HT.out).mono ?_
  rintro e w1 ⟨rfl, b1⟩
  have hbel1 : Below w.heap.size w w1 := (((Below.refl _ _).alloc (Nat.le_refl _) _).alloc (by simp) _).trans (b1.mono (by simp; omega))
  have hd : w1.cell? ⟨w.heap.size, 0, none⟩ = some (.slice (some ⟨b, off, none⟩) zs.length cap) := by
    rw [b1.cell (p := ⟨w.heap.size, 0, none⟩) (by simp; omega)]; go_simp
  have hblk1 : w1.heap[w.heap.size + 1]? = some (.cells #[.slice none 0 0] 25) := by
    rw [b1.block (w.heap.size + 1) (by simp)]; exact heap_last2 _ _ _
  have x0 := (hbel1.cell (p := ⟨b, off + k * 3, none⟩) hb).trans c0
  have x1 := (hbel1.cell (p := ⟨b, off + k * 3 + 1, none⟩) hb).trans c1
  have x2 := (hbel1.cell (p := ⟨b, off + k * 3 + 2, none⟩) hb).trans c2
  have HB1 : Hid (Below w.heap.size w w1 ∧ w1.heap[w.heap.size + 1]? = some (.cells #[.slice none 0 0] 25) ∧ w1.heap[w.heap.size]? = some (.cells #[.slice (some ⟨b, off, none⟩) zs.length cap] 25)) := ⟨hbel1, hblk1, by rw [b1.block w.heap.size (by simp; omega)]; exact heap_mid2 _ _ _⟩
  have hs1 := b1.size
  rw [heap_size, heap_size] at hs1
  clear b1 hbel1 hblk1 c0 c1 c2
  go_wp2_with fail
  refine (open_any _ _ _ _).mono ?_
  rintro e w2 ⟨rfl, b2⟩
  rw [show (⟨zs[k].data, zs[k].sure, zs[k].full⟩ : Zn) = zs[k] from rfl, HO.out]
  have HB2 : Hid (Below w.heap.size w w2 ∧ w2.heap[w.heap.size + 1]? = some (.cells #[.slice none 0 0] 25)) := ⟨HB1.out.1.trans (b2.mono HB1.out.1.size), by rw [b2.block _ (by omega)]; exact HB1.out.2.1⟩
  have hd2 : w2.cell? ⟨w.heap.size, 0, none⟩ = some (.slice (some ⟨b, off, none⟩) zs.length cap) := by
    rw [b2.cell (p := ⟨w.heap.size, 0, none⟩) (by show w.heap.size < _; omega)]; exact hd
  have hs2 := b2.size
  clear b2 HB1 x0 x1 x2 hd
  go_wp2_with fail
  refine (own_any (some ⟨b, off, none⟩) cap zs _ (by omega) hn (HZ.out _ HB2.out.1)).mono ?_
  rintro e w3 ⟨R, c, hR, rfl, hrow, b3⟩
  obtain ⟨y0, y1, y2⟩ := hrow.cell k hk
  have f2 := hrow.free (k * 3 + 2) (by omega)
  have hblk : w3.heap[w.heap.size + 1]? = some (.cells #[.slice none 0 0] 25) := by rw [b3.block _ (by omega)]; exact HB2.out.2
  have hq1 : ∀ (v : Value) (o : Obj), ((w3.setCell ⟨R, k * 3 + 2, none⟩ v).alloc o).cell? ⟨w.heap.size + 1, 0, none⟩ = some (.slice none 0 0) := fun v o => by
    unfold World.cell?
    rw [Below.heap_alloc _ _ _ (by show w.heap.size + 1 < _; simp [World.setCell]; have := hrow.lt; omega), Below.heap_setCell _ _ _ _ (by show w.heap.size + 1 ≠ R; omega), hblk]; rfl
  have hf1 : ∀ (v : Value) (o : Obj), ((w3.setCell ⟨R, k * 3 + 2, none⟩ v).alloc o).frozen? ⟨w.heap.size + 1, 0, none⟩ = false := fun v o => by
    unfold World.frozen?
    rw [Below.heap_alloc _ _ _ (by show w.heap.size + 1 < _; simp [World.setCell]; have := hrow.lt; omega), Below.heap_setCell _ _ _ _ (by show w.heap.size + 1 ≠ R; omega), hblk]; rfl
  have hltR := hrow.lt
  have hs3 := b3.size
  have HROW : Hid (ZRow R zs w3) := hrow
  have HB3 : Hid (Below w.heap.size w w3) := HB2.out.1.trans (b3.mono HB2.out.1.size)
  clear hrow b3 HB2 hblk hd2 y0 y1
  have hne : R ≠ w.heap.size + 1 := by omega
  have hne2 : w3.heap.size ≠ w.heap.size + 1 := by omega
  go_wp2
  refine bodyPost_ret (v := .tuple #[.agg #[.slice (some ⟨R, 0, none⟩) zs.length c], .bool true]) (by simp [results, Try.results15, go_sem, hq1]) rfl ⟨R, c, by omega, rfl, ?_, ?_⟩
  · refine ZRow.same ((HROW.out.setFull k hk true).below ((Below.refl _ _).alloc (Nat.le_refl _) _)) (by simp [World.setCell]) (Below.heap_setCell _ _ _ _ (by show R ≠ w.heap.size + 1; omega))
  · exact ((HB3.out.setCell (by show w.heap.size ≤ R; omega) _).alloc (by simp [World.setCell]; omega) _).setCell (by show w.heap.size ≤ w.heap.size + 1; omega) _
set_option maxHeartbeats 1000000 in
theorem finish_no (a : Option Addr) (cap : Nat) (zs : List Zn) (k : Int) (w : World) (hn : zs.length ≤ 1048576) (hZ : Zs w.heap.size a zs w) (h : ¬ (there zs k ∧ ∃ (n : Nat) (hk : n < zs.length), k = n ∧ openZ zs[n] = true)) :
    Calls Try.prog 15 #[.agg #[.slice a zs.length cap], .int .i64 k] w fun e w' => e = .returned (.tuple #[.agg #[.slice none 0 0], .bool false]) ∧ Below w.heap.size w w' := by
  have HZ : Hid (∀ w', Below w.heap.size w w' → Zs w'.heap.size a zs w') := fun w' g => (hZ.below g).mono g.size
  by_cases ht : there zs k
  · have hl := goodD_len ht.1
    obtain ⟨n, rfl⟩ : ∃ n : Nat, k = n := ⟨k.toNat, by have := ht.2.1; omega⟩
    have hk : n < zs.length := by have := ht.2.2; omega
    have ho : openZ zs[n] = false := by
      cases ho : openZ zs[n]
      · rfl
      · exact absurd ⟨ht, n, hk, rfl, ho⟩ h
    obtain ⟨b, off, rfl, hb, hc⟩ := hZ.cell (by omega)
    obtain ⟨c0, c1, c2⟩ := hc n hk
    have HT : Hid (there zs n) := ht
    have HO : Hid (openZ zs[n] = false) := ho
    clear hZ h ho hc ht
    go_enter Try.func15, Try.ntmps15
    go_wp2_with fail
    refine (there_yes (some ⟨b, off, none⟩) cap zs n _ hn (HZ.out _ (((Below.refl _ _).alloc (Nat.le_refl _) _).alloc (by simp) _)) HT.out).mono ?_
    rintro e w1 ⟨rfl, b1⟩
    have hbel1 : Below w.heap.size w w1 := (((Below.refl _ _).alloc (Nat.le_refl _) _).alloc (by simp) _).trans (b1.mono (by simp; omega))
    have hd : w1.cell? ⟨w.heap.size, 0, none⟩ = some (.slice (some ⟨b, off, none⟩) zs.length cap) := by
      rw [b1.cell (p := ⟨w.heap.size, 0, none⟩) (by simp; omega)]; go_simp
    have hblk1 : w1.heap[w.heap.size + 1]? = some (.cells #[.slice none 0 0] 25) := by
      rw [b1.block (w.heap.size + 1) (by simp)]; exact heap_last2 _ _ _
    have x0 := (hbel1.cell (p := ⟨b, off + n * 3, none⟩) hb).trans c0
    have x1 := (hbel1.cell (p := ⟨b, off + n * 3 + 1, none⟩) hb).trans c1
    have x2 := (hbel1.cell (p := ⟨b, off + n * 3 + 2, none⟩) hb).trans c2
    have HB1 : Hid (Below w.heap.size w w1) := hbel1
    have HK1 : Hid (w1.heap[w.heap.size + 1]? = some (.cells #[.slice none 0 0] 25)) := hblk1
    have hs1 := b1.size
    rw [heap_size, heap_size] at hs1
    clear b1 hbel1 hblk1 c0 c1 c2
    go_wp2_with fail
    refine (open_any _ _ _ _).mono ?_
    rintro e w2 ⟨rfl, b2⟩
    rw [show (⟨zs[n].data, zs[n].sure, zs[n].full⟩ : Zn) = zs[n] from rfl, HO.out]
    have hk2 : w2.heap[w.heap.size + 1]? = some (.cells #[.slice none 0 0] 25) := by rw [b2.block _ (by omega)]; exact HK1.out
    have HB2 : Hid (Below w.heap.size w w2) := HB1.out.trans (b2.mono HB1.out.size)
    have hq : w2.cell? ⟨w.heap.size + 1, 0, none⟩ = some (.slice none 0 0) := by unfold World.cell?; rw [hk2]; rfl
    have hf : w2.frozen? ⟨w.heap.size + 1, 0, none⟩ = false := by unfold World.frozen?; rw [hk2]; rfl
    clear b2 HB1 HK1 x0 x1 x2 hd hk2
    go_wp2
    refine bodyPost_ret (v := .tuple #[.agg #[.slice none 0 0], .bool false]) (by simp [results, Try.results15, go_sem, hq]) rfl ⟨rfl, ?_⟩
    exact HB2.out.setCell (by show w.heap.size ≤ w.heap.size + 1; omega) _
  · have HT : Hid (¬ there zs k) := ht
    clear hZ h ht
    go_enter Try.func15, Try.ntmps15
    go_wp2_with fail
    refine (there_no a cap zs k _ hn (HZ.out _ (((Below.refl _ _).alloc (Nat.le_refl _) _).alloc (by simp) _)) HT.out).mono ?_
    rintro e w1 ⟨rfl, b1⟩
    have hk2 : w1.heap[w.heap.size + 1]? = some (.cells #[.slice none 0 0] 25) := by
      rw [b1.block (w.heap.size + 1) (by simp)]; exact heap_last2 _ _ _
    have HB2 : Hid (Below w.heap.size w w1) := (((Below.refl _ _).alloc (Nat.le_refl _) _).alloc (by simp) _).trans (b1.mono (by simp; omega))
    have hq : w1.cell? ⟨w.heap.size + 1, 0, none⟩ = some (.slice none 0 0) := by unfold World.cell?; rw [hk2]; rfl
    have hf : w1.frozen? ⟨w.heap.size + 1, 0, none⟩ = false := by unfold World.frozen?; rw [hk2]; rfl
    clear b1 hk2
    go_wp2
    refine bodyPost_ret (v := .tuple #[.agg #[.slice none 0 0], .bool false]) (by simp [results, Try.results15, go_sem, hq]) rfl ⟨rfl, ?_⟩
    exact HB2.out.setCell (by show w.heap.size ≤ w.heap.size + 1; omega) _
end Go.Proofs.Yteofdaecknlkdaa
