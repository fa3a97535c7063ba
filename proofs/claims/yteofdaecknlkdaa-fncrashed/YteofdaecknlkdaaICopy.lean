/- Walk of the program's copyDevice. -/
import Derived.Test.YteofdaecknlkdaaOwnD
import Derived.Test.YteofdaecknlkdaaIJoin
namespace Go.Proofs.Yteofdaecknlkdaa
set_option maxRecDepth 100000
open Go.ChangeShapes Go.WideShapes Go.ChangeAt Go.RowKit
theorem sizeZ : (Try.prog.info? 52).map (·.size) = some 3 := by kernel_rfl
theorem zrow_flat (n : Nat) : (madeCells (Value.agg #[.string ⟨#[]⟩, .int .i64 0, .bool false]).cells (n * 3)).size = n * 3 := by simp [madeCells]
set_option maxHeartbeats 1000000 in
theorem icopy_full (a : Option Addr) (cap : Nat) (zs : List Zn) (w : World) (h1 : 1 ≤ zs.length) (hn : zs.length ≤ 1048576) (hsz : ∀ z ∈ zs, z.data.size ≤ 1048576) (hZ : Zs w.heap.size a zs w) :
    Calls Try.prog 36 #[.agg #[.slice a zs.length cap]] w fun e w' => ∃ R, w.heap.size ≤ R ∧ e = .returned (.agg #[.slice (some ⟨R, 0, none⟩) zs.length zs.length]) ∧ ZRow R zs w' ∧ Below w.heap.size w w' := by
  obtain ⟨b, off, rfl, hb, hc⟩ := GSl.cell hZ (by simp; omega)
  have hmk := make_zones zs.length hn
  have hM := zrow_flat zs.length
  generalize madeCells (Value.agg #[.string ⟨#[]⟩, .int .i64 0, .bool false]).cells (zs.length * 3) = M at *
  have hcp : ∀ v : World, Below w.heap.size w v → (Builtin.copy_ #[23, 23] 3 #[.slice (some ⟨v.heap.size, 0, none⟩) zs.length zs.length, .slice (some ⟨b, off, none⟩) zs.length cap]).run Try.prog (v.alloc (.cells M 52)) =
      .ok (goInt zs.length) ((v.alloc (.cells M 52)).setRow v.heap.size (zs.map zcells).flatten.toArray) := fun v hv =>
    run_copy_rows (P := Try.prog) _ 23 23 3 52 3 v.heap.size zs.length zs.length cap ⟨b, off, none⟩ M 52 (zs.map zcells).flatten Try.underlying23 sizeZ (heap_last _ _) (by rw [flat_len 3 _ (zwide zs)]; simp)
      (GSl.news (by decide) (zwide zs) (fun i hi j hj => ((hv.alloc hv.size _).cell (p := ⟨b, _, none⟩) hb).trans (hc i hi j hj))) hM (zone_cells zs)
  have hrow : ∀ v : World, ZRow v.heap.size zs ((v.alloc (.cells M 52)).setRow v.heap.size (zs.map zcells).flatten.toArray) := fun v =>
    GRow.ofHeap (t := 52) (zwide zs) (setRow_heap _ _ _ _ _ _ (heap_last _ _))
  have hbel : ∀ v : World, Below w.heap.size w v → Below w.heap.size w ((v.alloc (.cells M 52)).setRow v.heap.size (zs.map zcells).flatten.toArray) := fun v hv =>
    below_setRow (hv.alloc hv.size _) hv.size _
  generalize (zs.map zcells).flatten = flat at *
  have b0 : Below w.heap.size w ((w.alloc (.cells #[.slice (some ⟨b, off, none⟩) zs.length cap] 25)).alloc (.cells #[.slice none 0 0] 25)) := ((Below.refl _ _).alloc (Nat.le_refl _) _).alloc (by simp) _
  have h0 := hcp _ b0
  have r0 := hrow ((w.alloc (.cells #[.slice (some ⟨b, off, none⟩) zs.length cap] 25)).alloc (.cells #[.slice none 0 0] 25))
  have g0 := hbel _ b0
  have k0 : ((((w.alloc (.cells #[.slice (some ⟨b, off, none⟩) zs.length cap] 25)).alloc (.cells #[.slice none 0 0] 25)).alloc (.cells M 52)).setRow ((w.alloc (.cells #[.slice (some ⟨b, off, none⟩) zs.length cap] 25)).alloc (.cells #[.slice none 0 0] 25)).heap.size flat.toArray).heap[w.heap.size + 1]? = some (.cells #[.slice none 0 0] 25) := by
    rw [setRow_other _ _ _ _ (by rw [heap_size, heap_size]; omega)]
    exact heap_mid3 _ _ _ _
  generalize (((w.alloc (.cells #[.slice (some ⟨b, off, none⟩) zs.length cap] 25)).alloc (.cells #[.slice none 0 0] 25)).alloc (.cells M 52)).setRow ((w.alloc (.cells #[.slice (some ⟨b, off, none⟩) zs.length cap] 25)).alloc (.cells #[.slice none 0 0] 25)).heap.size flat.toArray = W3 at *
  rw [heap_size, heap_size] at h0 r0
  have R0 : Hid (ZRow (w.heap.size + 1 + 1) zs W3) := r0
  have G0 : Hid (Below w.heap.size w W3) := g0
  have K0 : Hid (W3.heap[w.heap.size + 1]? = some (.cells #[.slice none 0 0] 25)) := k0
  have HS : Hid (∀ z ∈ zs, z.data.size ≤ 1048576) := hsz
  clear hc hZ r0 g0 k0 b0 hrow hbel hcp hsz
  go_enter Try.func36, Try.ntmps36
  go_wp2
  go_loopw [15] (fun i wr => ∃ k : Nat, k ≤ zs.length ∧ i = .int .i64 k ∧ ZRow (w.heap.size + 1 + 1) zs wr ∧ Below w.heap.size w wr ∧ wr.heap[w.heap.size + 1]? = some (.cells #[.slice none 0 0] 25)) (fun i _ => zs.length - (intOf i).toNat)
  case atStart => exact ⟨0, Nat.zero_le _, rfl, R0.out, G0.out, K0.out⟩
  case round =>
    clear h0 hmk
    obtain ⟨k, hk, rfl, hrow, hbel, hblk⟩ := hrel
    have HROW : Hid (ZRow (w.heap.size + 1 + 1) zs wr) := hrow
    have HBEL : Hid (Below w.heap.size w wr) := hbel
    have HBLK : Hid (wr.heap[w.heap.size + 1]? = some (.cells #[.slice none 0 0] 25)) := hblk
    have hltr := hrow.lt
    have hszr := hbel.size
    by_cases hlt : k < zs.length
    · obtain ⟨y0, y1, y2⟩ := hrow.cell k hlt
      have f0 := hrow.free (k * 3) (by omega)
      clear hrow hbel hblk
      have HC : Hid (∀ v, Calls Try.prog 37 #[.string zs[k].data, .string ⟨#[]⟩] v fun e w' => e = .returned (.string zs[k].data) ∧ Below v.heap.size v w') := fun v => by
        have := join_any zs[k].data ⟨#[]⟩ v (HS.out _ (List.getElem_mem hlt)) (by decide)
        rw [show zs[k].data ++ (⟨#[]⟩ : ByteArray) = zs[k].data from ByteArray.append_empty] at this
        exact this
      go_wp2_with fail
      refine (HC.out _).mono ?_
      rintro e w1 ⟨rfl, b1⟩
      have hc1 : ∀ o, w1.cell? ⟨w.heap.size + 1 + 1, o, none⟩ = wr.cell? ⟨w.heap.size + 1 + 1, o, none⟩ := fun o => b1.cell (p := ⟨w.heap.size + 1 + 1, o, none⟩) hltr
      have hf1 : ∀ o, w1.frozen? ⟨w.heap.size + 1 + 1, o, none⟩ = wr.frozen? ⟨w.heap.size + 1 + 1, o, none⟩ := fun o => b1.frozen (p := ⟨w.heap.size + 1 + 1, o, none⟩) hltr
      rw [← hc1] at y0 y1 y2
      rw [← hf1] at f0
      clear hc1 hf1
      have HB1 : Hid (Below wr.heap.size wr w1) := b1
      clear b1
      go_wp2
      go_roundw
      case rel =>
        refine ⟨k + 1, by omega, by go_num, ?_, (HBEL.out.trans (HB1.out.mono hszr)).setCell (by show w.heap.size ≤ w.heap.size + 1 + 1; omega) _, ?_⟩
        · have := (HROW.out.below HB1.out).setData k hlt zs[k].data
          rw [show (⟨zs[k].data, zs[k].sure, zs[k].full⟩ : Zn) = zs[k] from rfl, List.set_getElem_self] at this
          exact this
        · rw [Below.heap_setCell _ _ _ _ (by show w.heap.size + 1 ≠ w.heap.size + 1 + 1; omega), HB1.out.block _ (by omega)]
          exact HBLK.out
      case measure => simp [intOf]; omega
    · clear hrow hbel
      have hq : wr.cell? ⟨w.heap.size + 1, 0, none⟩ = some (.slice none 0 0) := by unfold World.cell?; rw [hblk]; rfl
      have hf : wr.frozen? ⟨w.heap.size + 1, 0, none⟩ = false := by unfold World.frozen?; rw [hblk]; rfl
      clear hblk
      go_wp2
      refine bodyPost_ret (v := .agg #[.slice (some ⟨w.heap.size + 1 + 1, 0, none⟩) zs.length zs.length]) (by simp [results, Try.results36, go_sem, hq]) rfl ⟨w.heap.size + 1 + 1, by omega, rfl, ?_, ?_⟩
      · exact HROW.out.same (by simp [World.setCell]) (Below.heap_setCell _ _ _ _ (by show w.heap.size + 1 + 1 ≠ w.heap.size + 1; omega))
      · exact HBEL.out.setCell (by show w.heap.size ≤ w.heap.size + 1; omega) _
theorem icopy_any (a : Option Addr) (cap : Nat) (zs : List Zn) (w : World) (h1 : 1 ≤ zs.length) (hn : zs.length ≤ 1048576) (hsz : ∀ z ∈ zs, z.data.size ≤ 1048576) (hZ : Zs w.heap.size a zs w) :
    Calls Try.prog 36 #[.agg #[.slice a zs.length cap]] w fun e w' => ∃ R c, w.heap.size ≤ R ∧ e = .returned (.agg #[.slice (some ⟨R, 0, none⟩) zs.length c]) ∧ ZRow R zs w' ∧ Below w.heap.size w w' :=
  (icopy_full a cap zs w h1 hn hsz hZ).mono fun _ _ ⟨R, hR, he, hrow, hb⟩ => ⟨R, _, hR, he, hrow, hb⟩
end Go.Proofs.Yteofdaecknlkdaa
