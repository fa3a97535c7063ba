/- Walks of the program's FlushDevice. -/
import Derived.Test.YteofdaecknlkdaaSFlush
import Derived.Test.YteofdaecknlkdaaIThere
namespace Go.Proofs.Yteofdaecknlkdaa
set_option maxRecDepth 100000
open Go.ChangeShapes Go.WideShapes Go.ChangeAt Go.RowKit
set_option maxHeartbeats 1000000 in
theorem iflush_no (a : Option Addr) (cap : Nat) (zs : List Zn) (w : World) (hn : zs.length ≤ 1048576) (hZ : Zs w.heap.size a zs w) (h : goodD zs = false) :
    Calls Try.prog 30 #[.agg #[.slice a zs.length cap]] w fun e w' => e = .returned (.tuple #[.agg #[.slice none 0 0], .bool false]) ∧ Below w.heap.size w w' := by
  have HZ : Hid (∀ w', Below w.heap.size w w' → Zs w'.heap.size a zs w') := fun w' g => (hZ.below g).mono g.size
  have HT : Hid (goodD zs = false) := h
  clear hZ h
  go_enter Try.func30, Try.ntmps30
  go_wp2_with fail
  refine (igood_any a cap zs _ hn (HZ.out _ (((Below.refl _ _).alloc (Nat.le_refl _) _).alloc (by simp) _))).mono ?_
  rintro e w1 ⟨rfl, b1⟩
  rw [HT.out]
  have hk2 : w1.heap[w.heap.size + 1]? = some (.cells #[.slice none 0 0] 25) := by
    rw [b1.block (w.heap.size + 1) (by simp)]; exact heap_last2 _ _ _
  have HB2 : Hid (Below w.heap.size w w1) := (((Below.refl _ _).alloc (Nat.le_refl _) _).alloc (by simp) _).trans (b1.mono (by simp; omega))
  have hq : w1.cell? ⟨w.heap.size + 1, 0, none⟩ = some (.slice none 0 0) := by unfold World.cell?; rw [hk2]; rfl
  have hf : w1.frozen? ⟨w.heap.size + 1, 0, none⟩ = false := by unfold World.frozen?; rw [hk2]; rfl
  clear b1 hk2
  go_wp2
  refine bodyPost_ret (v := .tuple #[.agg #[.slice none 0 0], .bool false]) (by simp [results, Try.results30, go_sem, hq]) rfl ⟨rfl, ?_⟩
  exact HB2.out.setCell (by show w.heap.size ≤ w.heap.size + 1; omega) _
set_option maxHeartbeats 1000000 in
theorem iflush_yes (a : Option Addr) (cap : Nat) (zs : List Zn) (w : World) (hZ : Zs w.heap.size a zs w) (h : goodD zs = true) :
    Calls Try.prog 30 #[.agg #[.slice a zs.length cap]] w fun e w' => ∃ R c, w.heap.size ≤ R ∧ e = .returned (.tuple #[.agg #[.slice (some ⟨R, 0, none⟩) zs.length c], .bool true]) ∧
      ZRow R (zs.map flushZ) w' ∧ Below w.heap.size w w' := by
  have hl := goodD_len h
  have hn : zs.length ≤ 1048576 := by omega
  have HZ : Hid (∀ w', Below w.heap.size w w' → Zs w'.heap.size a zs w') := fun w' g => (hZ.below g).mono g.size
  have HT : Hid (goodD zs = true) := h
  have HSM : Hid (∀ z ∈ zs, z.data.size ≤ 1048576) := goodD_small h
  clear hZ h
  go_enter Try.func30, Try.ntmps30
  go_wp2_with fail
  refine (igood_any a cap zs _ hn (HZ.out _ (((Below.refl _ _).alloc (Nat.le_refl _) _).alloc (by simp) _))).mono ?_
  rintro e w1 ⟨rfl, b1⟩
  rw [HT.out]
  have HB1 : Hid (Below w.heap.size w w1) := (((Below.refl _ _).alloc (Nat.le_refl _) _).alloc (by simp) _).trans (b1.mono (by simp; omega))
  have HK1 : Hid (w1.heap[w.heap.size + 1]? = some (.cells #[.slice none 0 0] 25)) := by
    show w1.heap[w.heap.size + 1]? = _
    rw [b1.block (w.heap.size + 1) (by simp)]; exact heap_last2 _ _ _
  have hd : w1.cell? ⟨w.heap.size, 0, none⟩ = some (.slice a zs.length cap) := by
    rw [b1.cell (p := ⟨w.heap.size, 0, none⟩) (by simp; omega)]; go_simp
  have hs1 := b1.size
  rw [heap_size, heap_size] at hs1
  clear b1
  go_wp2_with fail
  refine (icopy_any a cap zs _ (by omega) hn HSM.out (HZ.out _ HB1.out)).mono ?_
  rintro e w3 ⟨R, c, hR, rfl, hrow, b3⟩
  have hs3 := b3.size
  have HROW : Hid (ZRow R zs w3) := hrow
  have HB3 : Hid (Below w.heap.size w w3) := HB1.out.trans (b3.mono HB1.out.size)
  have HK3 : Hid (w3.heap[w.heap.size + 1]? = some (.cells #[.slice none 0 0] 25)) := by
    show w3.heap[w.heap.size + 1]? = _
    rw [b3.block _ (by omega)]; exact HK1.out
  have hltR := hrow.lt
  clear hrow b3 HB1 HK1 hd
  have HL3 : Hid (Loc [(w3.heap.size, .slice (some ⟨R, 0, none⟩) zs.length c, 25), (w.heap.size + 1, .slice none 0 0, 25)] (w3.alloc (.cells #[.slice (some ⟨R, 0, none⟩) zs.length c] 25))) := (Loc.cons HK3.out (Loc.nil w3)).alloc _ _
  clear HK3
  go_wp2
  go_loopw [15] (fun i wr => ∃ k : Nat, k ≤ zs.length ∧ i = .int .i64 k ∧ ZRow R (mixm flushZ zs k) wr ∧ Below w.heap.size w wr ∧ Loc [(w3.heap.size, .slice (some ⟨R, 0, none⟩) zs.length c, 25), (w.heap.size + 1, .slice none 0 0, 25)] wr) (fun i _ => zs.length - (intOf i).toNat)
  case atStart => exact ⟨0, Nat.zero_le _, rfl, by rw [mixm_zero]; exact HROW.out.below ((Below.refl _ _).alloc (Nat.le_refl _) _), HB3.out.alloc HB3.out.size _, HL3.out⟩
  case round =>
    obtain ⟨k, hk, rfl, hrow, hbel, hloc⟩ := hrel
    have HROWr : Hid (ZRow R (mixm flushZ zs k) wr) := hrow
    have HBEL : Hid (Below w.heap.size w wr) := hbel
    have HLOC : Hid (Loc [(w3.heap.size, .slice (some ⟨R, 0, none⟩) zs.length c, 25), (w.heap.size + 1, .slice none 0 0, 25)] wr) := hloc
    have q1 := hloc.cell w3.heap.size _ 25 (List.mem_cons_self)
    have l1 := hloc.lt _ (List.mem_cons_self)
    have hltr := hrow.lt
    have hszr := hbel.size
    have hml := mixm_len flushZ zs k
    by_cases hlt : k < zs.length
    · obtain ⟨y0, y1, y2⟩ := hrow.cell k (by omega)
      rw [mixm_at flushZ zs k hlt] at y0 y1 y2
      have f1 := hrow.free (k * 3 + 1) (by omega)
      clear hrow hbel hloc
      have hdk := HSM.out zs[k] (List.getElem_mem hlt)
      have HSET : Hid (∀ v, ZRow R (mixm flushZ zs k) v → ZRow R (mixm flushZ zs (k + 1)) (v.setCell ⟨R, k * 3 + 1, none⟩ (.int .i64 zs[k].data.size))) := fun v hv => by
        have := hv.setSure k (by omega) zs[k].data.size
        rw [mixm_at flushZ zs k hlt] at this
        rw [← mixm_set flushZ zs k hlt]
        exact this
      generalize zs[k].data = dd at *
      generalize zs[k].sure = ss at *
      generalize zs[k].full = ff at *
      go_wp2
      go_region
      all_goals
        go_wp2
        go_roundw
        · refine ⟨k + 1, by omega, by go_num, ?_, ?_, ?_⟩
          · exact (HSET.out _ HROWr.out).drew
          · exact (HBEL.out.setCell (by show w.heap.size ≤ R; omega) _).drew
          · exact HLOC.out.set R _ _ (by simp; omega)
        · simp [intOf]; omega
    · obtain rfl : k = zs.length := by omega
      have hq := hloc.cell (w.heap.size + 1) (.slice none 0 0) 25 (by simp)
      have hf := hloc.free (w.heap.size + 1) (.slice none 0 0) 25 (by simp)
      rw [mixm_end flushZ zs _ (Nat.le_refl _)] at HROWr
      clear hrow hbel hloc
      go_wp2
      refine bodyPost_ret (v := .tuple #[.agg #[.slice (some ⟨R, 0, none⟩) zs.length c], .bool true]) (by simp [results, Try.results30, go_sem, hq]) rfl ?_
      have hA := HROWr.out.same (w' := wr.setCell ⟨w.heap.size + 1, 0, none⟩ (.slice (some ⟨R, 0, none⟩) zs.length c)) (by simp [World.setCell]) (Below.heap_setCell _ _ _ _ (by show R ≠ w.heap.size + 1; omega))
      have hB : Below w.heap.size w (wr.setCell ⟨w.heap.size + 1, 0, none⟩ (.slice (some ⟨R, 0, none⟩) zs.length c)) := HBEL.out.setCell (by show w.heap.size ≤ w.heap.size + 1; omega) _
      first
        | exact ⟨R, c, by omega, rfl, hA, hB⟩
        | exact ⟨R, by omega, ⟨c, rfl⟩, hA, hB⟩
end Go.Proofs.Yteofdaecknlkdaa
