/- Walk of the program's GoodDevice. -/
import Derived.Test.YteofdaecknlkdaaIZone
namespace Go.Proofs.Yteofdaecknlkdaa
set_option maxRecDepth 100000
open Go.ChangeShapes Go.WideShapes Go.ChangeAt Go.RowKit
set_option maxHeartbeats 1000000 in
theorem igood_any (a : Option Addr) (cap : Nat) (zs : List Zn) (w : World) (hmany : zs.length ≤ 1048576) (hZ : Zs w.heap.size a zs w) :
    Calls Try.prog 9 #[.agg #[.slice a zs.length cap]] w fun e w' => e = .returned (.bool (goodD zs)) ∧ Below w.heap.size w w' := by
  have HZ : Hid (Zs w.heap.size a zs w) := hZ
  clear hZ
  by_cases gl : 1 ≤ zs.length
  case neg =>
    have hd0 : decide ((zs.length : Int) < 1) = true := by simp; omega
    have hv : goodD zs = false := by
      unfold goodD
      rw [Bool.and_eq_false_iff]
      exact Or.inr (decide_eq_false (fun h => gl h.1))
    rw [hv]
    clear hv gl
    go_enter Try.func9, Try.ntmps9
    go_wp2
    go_ret
    exact ⟨rfl, (Below.refl _ _).alloc (Nat.le_refl _) _⟩
  by_cases gm : zs.length ≤ 6
  case neg =>
    have hd0 : decide ((zs.length : Int) < 1) = false := by simp; omega
    have hd1 : decide ((6 : Int) < (zs.length : Int)) = true := by simp; omega
    have hv : goodD zs = false := by
      unfold goodD
      rw [Bool.and_eq_false_iff]
      exact Or.inr (decide_eq_false (fun h => gm h.2.1))
    rw [hv]
    clear hv gm
    go_enter Try.func9, Try.ntmps9
    go_wp2
    go_ret
    exact ⟨rfl, (Below.refl _ _).alloc (Nat.le_refl _) _⟩
  have hd0 : decide ((zs.length : Int) < 1) = false := by simp; omega
  have hd1 : decide ((6 : Int) < (zs.length : Int)) = false := by simp; omega
  go_enter Try.func9, Try.ntmps9
  go_wp2
  go_loopw [3, 19] (fun n i wr => ∃ k : Nat, k ≤ zs.length ∧ i = .int .i64 k ∧ n = .int .i64 (((zs.take k).filter openZ).length : Nat) ∧ (zs.take k).all goodZ = true ∧ Below w.heap.size w wr ∧ wr.cell? ⟨w.heap.size, 0, none⟩ = some (.slice a zs.length cap)) (fun _ i _ => zs.length - (intOf i).toNat)
  case atStart => exact ⟨0, Nat.zero_le _, rfl, rfl, rfl, (Below.refl _ _).alloc (Nat.le_refl _) _, by go_simp⟩
  case round =>
    obtain ⟨k, hk, rfl, rfl, hall, hbel, hdev⟩ := hrel
    by_cases hlt : k < zs.length
    · obtain ⟨b, off, rfl, hb, hcells⟩ := HZ.out.cell (by omega)
      obtain ⟨c0, c1, c2⟩ := hcells k hlt
      have hb' : ∀ o, wr.cell? ⟨b, o, none⟩ = w.cell? ⟨b, o, none⟩ := fun o => hbel.cell (p := ⟨b, o, none⟩) hb
      rw [← hb'] at c0 c1 c2
      clear hcells hb'
      have hall0 := hall
      generalize hdd : zs[k].data = dd at c0
      generalize hss : zs[k].sure = ss at c1
      generalize hff : zs[k].full = ff at c2
      have HBEL : Hid (Below w.heap.size w wr) := hbel
      clear hall hbel
      have hz : zs[k] = ⟨dd, ss, ff⟩ := by rw [← hdd, ← hss, ← hff]
      have HB : Hid (goodZ zs[k] = false → goodD zs = false) := goodD_bad zs k hlt
      have HA : Hid (goodZ zs[k] = true → (zs.take (k + 1)).all goodZ = true) := all_step zs k hlt hall0
      have HN := count_step zs k hlt
      rw [hz] at HN HB HA
      have HN' : Hid (((zs.take (k + 1)).filter openZ).length = ((zs.take k).filter openZ).length + (if openZ ⟨dd, ss, ff⟩ = true then 1 else 0)) := HN
      have hcnt := count_le zs k
      clear HN hz hdd hss hff hall0
      go_wp2_with fail
      refine (goodZone_any dd ss ff _).mono ?_
      rintro e w8 ⟨rfl, b8⟩
      have HB8 : Hid (Below w.heap.size w w8) := (HBEL.out.alloc (by have := HBEL.out.size; omega) _).trans (b8.mono (by have := HBEL.out.size; simp; omega))
      have hlt8 : w.heap.size < wr.heap.size := World.block_lt_of_cell? _ _ hdev
      have hdev8 : w8.cell? ⟨w.heap.size, 0, none⟩ = some (.slice (some ⟨b, off, none⟩) zs.length cap) := by
        rw [b8.cell (p := ⟨w.heap.size, 0, none⟩) (by simp; omega), World.cell?_alloc_lt _ _ _ (by exact hlt8)]; exact hdev
      have z0 : w8.cell? ⟨wr.heap.size, 0, none⟩ = some (.string dd) := by rw [b8.cell (p := ⟨wr.heap.size, 0, none⟩) (by simp)]; go_simp
      have z1 : w8.cell? ⟨wr.heap.size, 1, none⟩ = some (.int .i64 ss) := by rw [b8.cell (p := ⟨wr.heap.size, 1, none⟩) (by simp)]; go_simp
      have z2 : w8.cell? ⟨wr.heap.size, 2, none⟩ = some (.bool ff) := by rw [b8.cell (p := ⟨wr.heap.size, 2, none⟩) (by simp)]; go_simp
      have hs8 := b8.size
      rw [heap_size] at hs8
      clear b8
      cases hg : goodZ ⟨dd, ss, ff⟩
      · have HBAD : Hid (goodD zs = false) := HB.out hg
        clear HB HA HN' hg
        go_wp2
        go_ret
        exact ⟨by rw [HBAD.out]; rfl, HB8.out⟩
      · have HALL1 : Hid ((zs.take (k + 1)).all goodZ = true) := HA.out hg
        have HG : Hid (goodZ ⟨dd, ss, ff⟩ = true) := hg
        clear HB HA hg
        go_wp2_with fail
        refine (isOpen_any dd ss ff _ HG.out).mono ?_
        rintro e w7 ⟨rfl, b7⟩
        have HB7 : Hid (Below w.heap.size w w7) := HB8.out.trans (b7.mono HB8.out.size)
        have hdev7 : w7.cell? ⟨w.heap.size, 0, none⟩ = some (.slice (some ⟨b, off, none⟩) zs.length cap) := by
          rw [b7.cell (p := ⟨w.heap.size, 0, none⟩) (by show w.heap.size < _; omega)]; exact hdev8
        clear b7 HB8 hdev8
        cases ho : openZ ⟨dd, ss, ff⟩
        · rw [ho] at HN'
          have HN9 : Hid (((zs.take (k + 1)).filter openZ).length = ((zs.take k).filter openZ).length) := (show ((zs.take (k + 1)).filter openZ).length = ((zs.take k).filter openZ).length from by have h9 := HN'.out; simpa using h9)
          clear HN' ho HG
          go_wp2
          go_roundw
          case rel => exact ⟨k + 1, by omega, by go_num, by rw [HN9.out], HALL1.out, HB7.out, hdev7⟩
          case measure => simp [intOf]; omega
        · rw [ho] at HN'
          have HN9 : Hid (((zs.take (k + 1)).filter openZ).length = ((zs.take k).filter openZ).length + 1) := (show ((zs.take (k + 1)).filter openZ).length = ((zs.take k).filter openZ).length + 1 from by have h9 := HN'.out; simpa using h9)
          clear HN' ho HG
          go_wp2
          go_roundw
          case rel => exact ⟨k + 1, by omega, by go_num, by rw [HN9.out]; go_num, HALL1.out, HB7.out, hdev7⟩
          case measure => simp [intOf]; omega
    · obtain rfl : k = zs.length := by omega
      rw [List.take_length] at hall
      have hcnt := count_le zs zs.length
      have hend : goodD zs = decide (1 ≤ zs.length ∧ zs.length ≤ 6 ∧ (zs.filter openZ).length ≤ 3) := by unfold goodD; rw [hall, Bool.true_and]
      rw [List.take_length] at hcnt ⊢
      have HEND : Hid (goodD zs = decide (1 ≤ zs.length ∧ zs.length ≤ 6 ∧ (zs.filter openZ).length ≤ 3)) := hend
      have HBEL : Hid (Below w.heap.size w wr) := hbel
      clear hend hall hbel
      generalize (zs.filter openZ).length = c at *
      go_wp2
      go_ret
      exact ⟨ret_bool (by rw [HEND.out]; by_cases hc : c ≤ 3 <;> simp [hc, gl, gm] <;> omega), HBEL.out⟩
end Go.Proofs.Yteofdaecknlkdaa
