/- Walk of the model's GoodDevice. -/
import Derived.Test.YteofdaecknlkdaaChecked
import Derived.Test.YteofdaecknlkdaaZ
import Derived.WalkKit
import Derived.ProofKit
namespace Go.Proofs.Yteofdaecknlkdaa
set_option maxRecDepth 100000
open Go.ChangeShapes Go.WideShapes Go.ChangeAt Go.RowKit
theorem ret_bool {a b : Bool} (h : a = b) : Ending.returned (.bool a) = .returned (.bool b) := by rw [h]
set_option maxHeartbeats 400000 in
theorem l1In_yes (n lo hi : Int) (w : World) (h : lo ≤ n) (g : n ≤ hi) : Calls Try.prog 39 #[.int .i64 n, .int .i64 lo, .int .i64 hi] w fun e w' => e = .returned (.bool true) ∧ w' = w := by
  go_enter Try.func39, Try.ntmps39
  go_wp2
  go_ret
  exact ⟨rfl, rfl⟩
set_option maxHeartbeats 400000 in
theorem l1In_no (n lo hi : Int) (w : World) (h : n < lo ∨ hi < n) : Calls Try.prog 39 #[.int .i64 n, .int .i64 lo, .int .i64 hi] w fun e w' => e = .returned (.bool false) ∧ w' = w := by
  by_cases g : n < lo
  · have hd : decide (lo ≤ n) = false := by simp; omega
    go_enter Try.func39, Try.ntmps39
    go_wp2
    go_ret
    exact ⟨rfl, rfl⟩
  · have hd : decide (n ≤ hi) = false := by simp; omega
    go_enter Try.func39, Try.ntmps39
    go_wp2
    go_ret
    exact ⟨rfl, rfl⟩
set_option maxHeartbeats 400000 in
theorem open_any (dd : ByteArray) (ss : Int) (ff : Bool) (w : World) : Calls Try.prog 43 #[.agg #[.string dd, .int .i64 ss, .bool ff]] w fun e w' => e = .returned (.bool (openZ ⟨dd, ss, ff⟩)) ∧ Below w.heap.size w w' := by
  cases he : dd.toList.isEmpty
  · have hn : ¬ dd.toList = [] := by intro h; rw [h] at he; cases he
    have hv : openZ ⟨dd, ss, ff⟩ = !ff := by unfold openZ; show (!dd.toList.isEmpty && !ff) = _; rw [he]; rfl
    rw [hv]
    clear hv
    go_enter Try.func43, Try.ntmps43
    go_wp2
    go_ret
    exact ⟨rfl, (Below.refl _ _).alloc (Nat.le_refl _) _⟩
  · have hn : dd.toList = [] := by simpa using he
    have hv : openZ ⟨dd, ss, ff⟩ = false := by unfold openZ; show (!dd.toList.isEmpty && !ff) = _; rw [he]; rfl
    rw [hv]
    clear hv
    go_enter Try.func43, Try.ntmps43
    go_wp2
    go_ret
    exact ⟨rfl, (Below.refl _ _).alloc (Nat.le_refl _) _⟩
set_option maxHeartbeats 1000000 in
theorem good_any (a : Option Addr) (cap : Nat) (zs : List Zn) (w : World) (hmany : zs.length ≤ 1048576) (hZ : Zs w.heap.size a zs w) :
    Calls Try.prog 10 #[.agg #[.slice a zs.length cap]] w fun e w' => e = .returned (.bool (goodD zs)) ∧ Below w.heap.size w w' := by
  have HZ : Hid (Zs w.heap.size a zs w) := hZ
  clear hZ
  go_enter Try.func10, Try.ntmps10
  go_wp2
  go_loopw [3, 9] (fun n i wr => ∃ k : Nat, k ≤ zs.length ∧ i = .int .i64 k ∧ n = .int .i64 (((zs.take k).filter openZ).length : Nat) ∧ (zs.take k).all goodZ = true ∧ Below w.heap.size w wr ∧ wr.cell? ⟨w.heap.size, 0, none⟩ = some (.slice a zs.length cap)) (fun _ i _ => zs.length - (intOf i).toNat)
  case atStart => exact ⟨0, Nat.zero_le _, rfl, rfl, rfl, (Below.refl _ _).alloc (Nat.le_refl _) _, by go_simp⟩
  case round =>
    obtain ⟨k, hk, rfl, rfl, hall, hbel, hdev⟩ := hrel
    by_cases hlt : k < zs.length
    · obtain ⟨b, off, rfl, hb, hcells⟩ := HZ.out.cell (by omega)
      obtain ⟨c0, c1, c2⟩ := hcells k hlt
      have hb' : ∀ o, wr.cell? ⟨b, o, none⟩ = w.cell? ⟨b, o, none⟩ := fun o => hbel.cell (p := ⟨b, o, none⟩) hb
      rw [← hb'] at c0 c1 c2
      clear hcells hb'
      have hall0 := hall
      generalize hdd : zs[k].data = dd at c0
      generalize hss : zs[k].sure = ss at c1
      generalize hff : zs[k].full = ff at c2
      have HALL : Hid ((zs.take k).all goodZ = true) := hall
      have HBEL : Hid (Below w.heap.size w wr) := hbel
      clear hall hbel
      have hz : zs[k] = ⟨dd, ss, ff⟩ := by rw [← hdd, ← hss, ← hff]
      have HB : Hid (goodZ zs[k] = false → goodD zs = false) := goodD_bad zs k hlt
      have HA : Hid (goodZ zs[k] = true → (zs.take (k + 1)).all goodZ = true) := all_step zs k hlt hall0
      have HN := count_step zs k hlt
      rw [hz] at HN
      have HN' : Hid (((zs.take (k + 1)).filter openZ).length = ((zs.take k).filter openZ).length + (if openZ ⟨dd, ss, ff⟩ = true then 1 else 0)) := HN
      have HZK : Hid (zs[k] = ⟨dd, ss, ff⟩) := hz
      have hcnt := count_le zs k
      clear HN hz hdd hss hff
      by_cases g1 : dd.size ≤ 60
      · have hd1 : decide ((60 : Int) < (dd.size : Int)) = false := by simp; omega
        by_cases g2 : 0 ≤ ss ∧ ss ≤ dd.size
        · by_cases g3 : dd.size = 60
          · have hd2 : ((dd.size : Int) == 60) = true := by rw [beq_iff_eq]; omega
            cases ff
            · have hb2 : goodZ zs[k] = false := by rw [HZK.out]; unfold goodZ; exact decide_eq_false (fun h => by cases h.2.2.2 g3)
              have HBAD : Hid (goodD zs = false) := HB.out hb2
              clear hb2 HB HA HZK HN' g3
              go_wp2_with fail
              refine (l1In_yes _ _ _ _ g2.1 g2.2).mono ?_
              rintro e w9 ⟨rfl, rfl⟩
              go_wp2_with fail
              go_ret
              exact ⟨by rw [HBAD.out]; rfl, HBEL.out.alloc (by have := HBEL.out.size; omega) _⟩
            · have hg : goodZ zs[k] = true := by rw [HZK.out]; unfold goodZ; exact decide_eq_true ⟨g1, g2.1, g2.2, fun _ => rfl⟩
              have HALL1 : Hid ((zs.take (k + 1)).all goodZ = true) := HA.out hg
              clear hg g3 HB HA HZK
              go_wp2_with fail
              refine (l1In_yes _ _ _ _ g2.1 g2.2).mono ?_
              rintro e w9 ⟨rfl, rfl⟩
              go_wp2_with fail
              refine (open_any dd ss _ _).mono ?_
              rintro e w8 ⟨rfl, b8⟩
              have HB8 : Hid (Below w.heap.size w w8) := (HBEL.out.alloc (by have := HBEL.out.size; omega) _).trans (b8.mono (by have := HBEL.out.size; simp; omega))
              have hdev8 : w8.cell? ⟨w.heap.size, 0, none⟩ = some (.slice (some ⟨b, off, none⟩) zs.length cap) := by
                have hlt8 : w.heap.size < wr.heap.size := World.block_lt_of_cell? _ _ hdev
                rw [b8.cell (p := ⟨w.heap.size, 0, none⟩) (by simp; omega), World.cell?_alloc_lt _ _ _ (by exact hlt8)]
                exact hdev
              clear b8
              cases ho : openZ ⟨dd, ss, true⟩
              · rw [ho] at HN'
                have HN9 : Hid (((zs.take (k + 1)).filter openZ).length = ((zs.take k).filter openZ).length) := (show ((zs.take (k + 1)).filter openZ).length = ((zs.take k).filter openZ).length from by have h9 := HN'.out; simpa using h9)
                clear HN' ho
                go_wp2
                go_roundw
                case rel => exact ⟨k + 1, by omega, by go_num, by rw [HN9.out], HALL1.out, HB8.out, hdev8⟩
                case measure => simp [intOf]; omega
              · rw [ho] at HN'
                have HN9 : Hid (((zs.take (k + 1)).filter openZ).length = ((zs.take k).filter openZ).length + 1) := (show ((zs.take (k + 1)).filter openZ).length = ((zs.take k).filter openZ).length + 1 from by have h9 := HN'.out; simpa using h9)
                clear HN' ho
                go_wp2
                go_roundw
                case rel => exact ⟨k + 1, by omega, by go_num, by rw [HN9.out]; go_num, HALL1.out, HB8.out, hdev8⟩
                case measure => simp [intOf]; omega
          · have hd2 : ((dd.size : Int) == 60) = false := by rw [beq_eq_false_iff_ne]; omega
            have hg : goodZ zs[k] = true := by rw [HZK.out]; unfold goodZ; exact decide_eq_true ⟨g1, g2.1, g2.2, fun h => absurd h g3⟩
            have HALL1 : Hid ((zs.take (k + 1)).all goodZ = true) := HA.out hg
            clear hg g3 HB HA HZK
            go_wp2_with fail
            refine (l1In_yes _ _ _ _ g2.1 g2.2).mono ?_
            rintro e w9 ⟨rfl, rfl⟩
            go_wp2_with fail
            refine (open_any dd ss _ _).mono ?_
            rintro e w8 ⟨rfl, b8⟩
            have HB8 : Hid (Below w.heap.size w w8) := (HBEL.out.alloc (by have := HBEL.out.size; omega) _).trans (b8.mono (by have := HBEL.out.size; simp; omega))
            have hdev8 : w8.cell? ⟨w.heap.size, 0, none⟩ = some (.slice (some ⟨b, off, none⟩) zs.length cap) := by
              have hlt8 : w.heap.size < wr.heap.size := World.block_lt_of_cell? _ _ hdev
              rw [b8.cell (p := ⟨w.heap.size, 0, none⟩) (by simp; omega), World.cell?_alloc_lt _ _ _ (by exact hlt8)]
              exact hdev
            clear b8
            cases ho : openZ ⟨dd, ss, ff⟩
            · rw [ho] at HN'
              have HN9 : Hid (((zs.take (k + 1)).filter openZ).length = ((zs.take k).filter openZ).length) := (show ((zs.take (k + 1)).filter openZ).length = ((zs.take k).filter openZ).length from by have h9 := HN'.out; simpa using h9)
              clear HN' ho
              go_wp2
              go_roundw
              case rel => exact ⟨k + 1, by omega, by go_num, by rw [HN9.out], HALL1.out, HB8.out, hdev8⟩
              case measure => simp [intOf]; omega
            · rw [ho] at HN'
              have HN9 : Hid (((zs.take (k + 1)).filter openZ).length = ((zs.take k).filter openZ).length + 1) := (show ((zs.take (k + 1)).filter openZ).length = ((zs.take k).filter openZ).length + 1 from by have h9 := HN'.out; simpa using h9)
              clear HN' ho
              go_wp2
              go_roundw
              case rel => exact ⟨k + 1, by omega, by go_num, by rw [HN9.out]; go_num, HALL1.out, HB8.out, hdev8⟩
              case measure => simp [intOf]; omega
        · have hb2 : goodZ zs[k] = false := by rw [HZK.out]; unfold goodZ; exact decide_eq_false (fun h => g2 ⟨h.2.1, h.2.2.1⟩)
          have HBAD : Hid (goodD zs = false) := HB.out hb2
          have hout : ss < 0 ∨ (dd.size : Int) < ss := by omega
          clear hb2 HB HA HZK HN' g2
          go_wp2_with fail
          refine (l1In_no _ _ _ _ hout).mono ?_
          rintro e w9 ⟨rfl, rfl⟩
          go_wp2_with fail
          go_ret
          exact ⟨by rw [HBAD.out]; rfl, HBEL.out.alloc (by have := HBEL.out.size; omega) _⟩
      · have hd1 : decide ((60 : Int) < (dd.size : Int)) = true := by simp; omega
        have hb2 : goodZ zs[k] = false := by rw [HZK.out]; unfold goodZ; exact decide_eq_false (fun h => g1 h.1)
        have HBAD : Hid (goodD zs = false) := HB.out hb2
        clear hb2 HB HA HZK HN' g1
        go_wp2_with fail
        go_ret
        exact ⟨by rw [HBAD.out]; rfl, HBEL.out.alloc (by have := HBEL.out.size; omega) _⟩
    · obtain rfl : k = zs.length := by omega
      rw [List.take_length] at hall
      have hcnt := count_le zs zs.length
      have hend : goodD zs = decide (1 ≤ zs.length ∧ zs.length ≤ 6 ∧ (zs.filter openZ).length ≤ 3) := by unfold goodD; rw [hall, Bool.true_and]
      rw [List.take_length] at hcnt ⊢
      have HEND : Hid (goodD zs = decide (1 ≤ zs.length ∧ zs.length ≤ 6 ∧ (zs.filter openZ).length ≤ 3)) := hend
      have HBEL : Hid (Below w.heap.size w wr) := hbel
      clear hend hall hbel
      generalize (zs.filter openZ).length = c at *
      by_cases g : 1 ≤ zs.length ∧ zs.length ≤ 6
      · obtain ⟨g1, g2⟩ := g
        go_wp2_with fail
        refine (l1In_yes _ _ _ _ (by omega) (by omega)).mono ?_
        rintro e w9 ⟨rfl, rfl⟩
        go_wp2
        go_ret
        exact ⟨ret_bool (by rw [HEND.out]; by_cases hc : c ≤ 3 <;> simp [hc, g1, g2] <;> omega), HBEL.out⟩
      · have hout : (zs.length : Int) < 1 ∨ 6 < (zs.length : Int) := by omega
        have hfin : decide (1 ≤ zs.length ∧ zs.length ≤ 6 ∧ c ≤ 3) = false := decide_eq_false (fun h => g ⟨h.1, h.2.1⟩)
        rw [hfin] at HEND
        clear hfin g
        go_wp2_with fail
        refine (l1In_no _ _ _ _ hout).mono ?_
        rintro e w9 ⟨rfl, rfl⟩
        go_wp2
        go_ret
        exact ⟨by rw [HEND.out]; rfl, HBEL.out⟩
end Go.Proofs.Yteofdaecknlkdaa
