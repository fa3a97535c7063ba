/- Walk of a device that is made one's own. -/
import Derived.Test.YteofdaecknlkdaaMake
import Derived.Test.YteofdaecknlkdaaOwn
namespace Go.Proofs.Yteofdaecknlkdaa
set_option maxRecDepth 100000
open Go.ChangeShapes Go.WideShapes Go.ChangeAt Go.RowKit
theorem zwide (zs : List Zn) (i : Nat) (hi : i < (zs.map zcells).length) : (zs.map zcells)[i].length = 3 := by rw [List.getElem_map]; rfl
theorem zone_cells (zs : List Zn) : ∀ u ∈ (zs.map zcells).flatten, u.oneCell' = true := by
  intro u hu
  rw [List.mem_flatten] at hu
  obtain ⟨l, hl, hu⟩ := hu
  rw [List.mem_map] at hl
  obtain ⟨z, _, rfl⟩ := hl
  simp [zcells] at hu
  rcases hu with rfl | rfl | rfl <;> rfl
set_option maxHeartbeats 1000000 in
theorem own_any (a : Option Addr) (cap : Nat) (zs : List Zn) (w : World) (h1 : 1 ≤ zs.length) (hn : zs.length ≤ 1048576) (hZ : Zs w.heap.size a zs w) :
    Calls Try.prog 40 #[.agg #[.slice a zs.length cap]] w fun e w' => ∃ R c, w.heap.size ≤ R ∧ e = .returned (.agg #[.slice (some ⟨R, 0, none⟩) zs.length c]) ∧ ZRow R zs w' ∧ Below w.heap.size w w' := by
  obtain ⟨i0, hi, hz0, hz1, hz2⟩ := info_parts info52
  obtain ⟨b, off, rfl, hb, hc⟩ := GSl.cell hZ (by simp; omega)
  have hflat := flat_len 3 (zs.map zcells) (zwide zs)
  rw [List.length_map] at hflat
  have HC : Hid (∀ w', Below w.heap.size w w' → ∀ j u, (zs.map zcells).flatten[j]? = some u → w'.cell? ((⟨b, off, none⟩ : Addr).add j) = some u) := fun w' hbel =>
    GSl.news (by decide) (zwide zs) (fun i hi j hj => (hbel.cell (p := ⟨b, _, none⟩) hb).trans (hc i hi j hj))
  have HW : Hid (∀ (v : Value) (w' : World) B, w'.ownsRow B 52 3 v zs.length (zs.map zcells).flatten → ¬ v = .slice none 0 0 → ∃ R c, v = .slice (some ⟨R, 0, none⟩) zs.length c ∧ B ≤ R ∧ ZRow R zs w') := fun v w' B h hv =>
    GRow.ofOwns (zwide zs) h (by simp) hv
  have hone := zone_cells zs
  clear hZ hc
  generalize (zs.map zcells).flatten = flat at *
  go_enter Try.func40, Try.ntmps40
  go_wp2_with (at_builtin; refine wpList_append_own _ rfl (.tmp 3) (.tmp 5) 23 rfl (w.heap.size + 2) 52 i0 _ 3 32 Try.underlying23 hi hz0 hz1 hz2 rfl (by decide) _ 0 [] rfl ?own ⟨b, off, none⟩ zs.length cap flat rfl hflat ?news hone ?c3 ?c4 ?c5 ?_)
  case own =>
    refine ⟨rfl, Or.inr ⟨_, 0, #[], rfl, ?_, ?_, Nat.le_refl _, by unfold maxLen; omega, rfl, rfl⟩⟩
    · show w.heap.size + 2 ≤ w.heap.size + 1 + 1; omega
    · exact heap_last3 _ _ _ _
  case news => exact HC.out _ ((((Below.refl _ _).alloc (Nat.le_refl _) _).alloc (by simp) _).alloc (by simp; omega) _)
  case c3 => unfold maxLen; omega
  case c4 => omega
  case c5 => simp
  intro v' w1 hown hgrow hnil
  obtain ⟨R, c, rfl, hR, hrow⟩ := HW.out v' w1 _ hown hnil
  have hblk : w1.heap[w.heap.size + 1]? = some (.cells #[.slice none 0 0] 25) := by
    rw [hgrow.block (w.heap.size + 1) (by simp) (by simp [Value.ownBlock])]
    exact heap_mid3 _ _ _ _
  have hd1 : w1.cell? ⟨w.heap.size + 1, 0, none⟩ = some (.slice none 0 0) := by unfold World.cell?; rw [hblk]; rfl
  have hf1 : w1.frozen? ⟨w.heap.size + 1, 0, none⟩ = false := by unfold World.frozen?; rw [hblk]; rfl
  have HB : Hid (Below w.heap.size w w1) := ((((Below.refl _ _).alloc (Nat.le_refl _) _).alloc (by simp) _).alloc (by simp; omega) _).grown hgrow (by simp; omega) (fun k hk => by simp [Value.ownBlock] at hk; omega)
  have HROW : Hid (ZRow R zs w1) := hrow
  clear hown hgrow hnil hrow hblk HC HW hone
  go_wp2
  refine bodyPost_ret (v := .agg #[.slice (some ⟨R, 0, none⟩) zs.length c]) (by simp [results, Try.results40, go_sem, hd1]) rfl ⟨R, c, by omega, rfl, ?_, ?_⟩
  · exact HROW.out.same (by simp [World.setCell]) (Below.heap_setCell _ _ _ _ (by show R ≠ w.heap.size + 1; omega))
  · exact HB.out.setCell (by show w.heap.size ≤ w.heap.size + 1; omega) _
end Go.Proofs.Yteofdaecknlkdaa
