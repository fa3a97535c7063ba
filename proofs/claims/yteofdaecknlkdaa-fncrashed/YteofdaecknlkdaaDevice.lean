/- Walk of the drawn device. -/
import Derived.Test.YteofdaecknlkdaaDv
import Derived.Deep.DeepCutAuto
namespace Go.Proofs.Yteofdaecknlkdaa
set_option maxRecDepth 100000
open Go.ChangeShapes Go.WideShapes Go.ChangeAt Go.RowKit
set_option maxHeartbeats 2000000 in
theorem device_any (B N len cap : Nat) (a : Option Addr) (w : World) (hN : N ≤ 900000) (hC : Cur B N (.slice a len cap) w) (hK : Code B len cap a w) :
    Calls Try.prog 32 #[.pointer (some ⟨B, 0, none⟩)] w fun e w' => ∃ (zs : List Zn) (R c : Nat), e = .returned (.agg #[.slice (some ⟨R, 0, none⟩) zs.length c]) ∧ w.heap.size ≤ R ∧ ZRow R zs w' ∧ small 61 zs ∧ Cur B (N + 200) (.slice a len cap) w' ∧ But B w w' := by
  have hlt := hC.lt
  have HC : Hid (∀ o, Cur B N (.slice a len cap) (w.alloc o)) := fun o => hC.alloc o
  have HK : Hid (∀ w', But B w w' → Code B len cap a w') := fun w' g => hK.but g (Nat.le_refl _) (Nat.le_of_lt hlt)
  clear hC hK
  go_enter Try.func32, Try.ntmps32
  go_wp2_with fail
  refine (pick_any _ B N len cap a _ (by omega) (by omega) (by omega) (HC.out _) (HK.out _ ((But.refl B w).alloc _))).mono ?_
  rintro e w1 ⟨v, rfl, v0, v1, hC1, hB1⟩
  have HC1 : Hid (Cur B (N + 2) (.slice a len cap) w1) := hC1
  have HB1 : Hid (But B (w.alloc (.cells #[.slice none 0 0] 25)) w1) := hB1
  clear hC1 hB1 HC
  go_wp2_with fail
  obtain ⟨m, rfl⟩ : ∃ m : Nat, v = m := ⟨v.toNat, by omega⟩
  rw [show (1 : Int) + (m : Int) = ((1 + m : Nat) : Int) by omega]
  refine (new_yes (1 + m) _ (by omega) (by omega)).mono ?_
  rintro e w2 ⟨R, c, hR, rfl, hrow, hb⟩
  have HD : Hid (Dv B w2.heap.size (N + 2) (.slice a len cap) w (List.replicate (1 + m) zeroZ) (w2.alloc (.cells #[.slice (some ⟨R, 0, none⟩) (1 + m) c] 25))) := by
    have hz2 := hb.size
    have hrl := hrow.lt
    have hs1 := HB1.out.size
    rw [heap_size] at hs1
    refine ⟨(HC1.out.below hb).alloc _, (((But.refl B w).alloc _).trans (HB1.out.trans (But.ofBelow hb))).alloc _, hlt, by omega, by simp, ?_, ⟨R, c, by omega, by omega, ?_, ?_⟩, ?_, small_new _ (by omega) (by omega)⟩
    · rw [Below.heap_alloc _ _ _ (by omega), hb.block _ (by omega), HB1.out.block _ (by rw [heap_size]; omega) (by omega)]
      exact heap_last _ _
    · rw [List.length_replicate, World.cell?_alloc_new]; rfl
    · exact hrow.below ((Below.refl _ _).alloc (Nat.le_refl _) _)
    · go_simp
  clear hR hrow hb HC1 HB1
  go_wp2_with fail
  refine (pick_any _ B (N + 2) len cap a _ (by omega) (by omega) (by omega) HD.out.cur (HK.out _ HD.out.but)).mono ?_
  rintro e w3 ⟨n, rfl, n0, n1, hC1, hB1⟩
  have HE : Hid (Dv B w2.heap.size (N + 4) (.slice a len cap) w (List.replicate (1 + m) zeroZ) w3) := HD.out.step hC1 hB1
  clear HD hC1 hB1
  generalize w2.heap.size = D at *
  generalize List.replicate (1 + m) zeroZ = zs0 at *
  obtain ⟨n, rfl⟩ : ∃ k : Nat, n = k := ⟨n.toNat, by omega⟩
  go_wp2_with fail
  go_loopw [5] (fun i wr => ∃ (k : Nat) (zs : List Zn), k ≤ n ∧ i = .int .i64 k ∧ Dv B D (N + 4 + 8 * (n - k)) (.slice a len cap) w zs wr) (fun i _ => (intOf i).toNat)
  case atStart => exact ⟨n, zs0, Nat.le_refl _, rfl, HE.out.mono (by omega)⟩
  case round =>
    obtain ⟨k, zs, hk, rfl, hD⟩ := hrel
    have HD : Hid (Dv B D (N + 4 + 8 * (n - k)) (.slice a len cap) w zs wr) := hD
    obtain ⟨R, c, hR, hRD, hcell, hrow⟩ := hD.cell
    clear hD hrow
    have hsm := HD.out.small
    have hz1 := hsm.1
    have hz2 := hsm.2.1
    clear hsm
    by_cases h0 : 0 < k
    · go_wp2_with fail
      refine (pick_any _ B _ len cap a _ (by omega) (by omega) (by omega) HD.out.cur (HK.out _ HD.out.but)).mono ?_
      rintro e w4 ⟨q, rfl, q0, q1, hC1, hB1⟩
      have HD4 : Hid (Dv B D (N + 4 + 8 * (n - k) + 2) (.slice a len cap) w zs w4) := HD.out.step hC1 hB1
      clear HD hC1 hB1 hcell hR hRD
      obtain ⟨R, c, hR, hRD, hcell, hrow⟩ := HD4.out.cell
      have HROW : Hid (ZRow R zs w4) := hrow
      clear hrow
      have hl4 : D < w4.heap.size := HD4.out.lt
      have hDB : D ≠ B := by have := HD4.out.new; omega
      have HT : Hid (∀ s : ByteArray, s.size ≤ 21 → ∃ (V : List Zn) (p : Int) (ok : Bool), TellsA 7 zs q s V p ok ∧ (ok = true → small 60 V)) := fun s hs => by
        obtain ⟨V, p, ok, t1, -, -, t4⟩ := append_tells zs q s (by omega) (by omega)
        exact ⟨V, p, ok, t1, fun e => by obtain ⟨-, i, hi, -, -, -, hg, -⟩ := t4 e; exact good_small hg⟩
      go_upto_region 6 with fail
      go_cut [7, 8, 9] (fun s7 s8 s9 wc => ∃ (X : Nat) (b : Option Addr) (V : List Zn) (c' : Nat) (ok : Bool), s7 = .pointer (some ⟨X, 0, none⟩) ∧ s9 = .bool ok ∧ wc.cell? ⟨X, 0, none⟩ = some (.slice b V.length c') ∧ Dv B D (N + 4 + 8 * (n - k) + 4) (.slice a len cap) w zs wc ∧ (ok = true → Dv B D (N + 4 + 8 * (n - k) + 4) (.slice a len cap) w V (wc.setCell ⟨D, 0, none⟩ (.slice b V.length c'))))
      case first =>
        have HP : Hid (∀ W, Below w4.heap.size w4 W → Calls Try.prog 34 #[.pointer (some ⟨B, 0, none⟩)] W fun e w5 => ∃ s : ByteArray, e = .returned (.string s) ∧ s.size ≤ 21 ∧ Dv B D (N + 4 + 8 * (n - k) + 4) (.slice a len cap) w zs w5 ∧ w5.cell? ⟨D, 0, none⟩ = some (.slice (some ⟨R, 0, none⟩) zs.length c) ∧ ZRow R zs w5 ∧
            (W.heap[w4.heap.size]? = some (.cells #[.slice none 0 0] 25) → w5.heap[w4.heap.size]? = some (.cells #[.slice none 0 0] 25)) ∧ W.heap.size ≤ w5.heap.size) := fun W hb => by
          have hW := HD4.out.below hb
          refine (piece_any B _ len cap a W (by omega) hW.cur (HK.out _ hW.but)).mono ?_
          rintro e w5 ⟨s, rfl, hs, hC5, hB5⟩
          have hRB : R ≠ B := by omega
          have h4 := HD4.out.but.size
          exact ⟨s, rfl, hs, hW.step hC5 hB5, (hB5.cell D 0 hW.lt hDB).trans ((hb.cell (p := ⟨D, 0, none⟩) hl4).trans hcell), (HROW.out.below hb).same hB5.size (hB5.block R (HROW.out.below hb).lt hRB), fun hx => (hB5.block _ (block_lt hx) (by omega)).trans hx, hB5.size⟩
        go_region_with (first
          | (go_at_call 34
             refine (HP.out _ ?_).mono ?_
             · first | exact (Below.refl _ _).drew | exact ((Below.refl _ _).alloc (Nat.le_refl _) _).drew
             rintro e w5 ⟨s, rfl, hs, hD5, hcell5, hrow5, hX5, hs5⟩
             have HD5 : Hid (Dv B D (N + 4 + 8 * (n - k) + 4) (.slice a len cap) w zs w5) := hD5
             have HROW5 : Hid (ZRow R zs w5) := hrow5
             have hl5 : D < w5.heap.size := hD5.lt
             have HX5 : Hid _ := hX5
             clear hD5 hrow5 hX5
             obtain ⟨V, p, ok, HT1, HV⟩ := HT.out s hs)
          | (go_at_call 7
             refine (HT1 _ _ _ ?_).mono ?_
             · first | exact HROW5.out.sl HROW5.out.lt | exact (HROW5.out.below ((Below.refl _ _).alloc (Nat.le_refl _) _)).sl (Nat.lt_of_lt_of_le HROW5.out.lt (Nat.le_trans (Nat.le_succ _) (Nat.le_of_eq (heap_size _ _).symm)))
             rintro e w6 ⟨b, c', rfl, ho, hb6⟩
             try (
               have hq6 : w6.heap[w4.heap.size]? = some (.cells #[.slice none 0 0] 25) := (hb6.block w4.heap.size (block_lt (HX5.out (heap_last w4 _)))).trans (HX5.out (heap_last w4 _))
               have hx6 : w6.cell? ⟨w4.heap.size, 0, none⟩ = some (.slice none 0 0) := (block_cell hq6).1
               have hf6 : w6.frozen? ⟨w4.heap.size, 0, none⟩ = false := (block_cell hq6).2
               clear hq6)
             try (
               have hq6 : w6.heap[w5.heap.size]? = some (.cells #[.slice none 0 0] 25) := (hb6.block w5.heap.size (block_lt (heap_last w5 _))).trans (heap_last w5 _)
               have hx6 : w6.cell? ⟨w5.heap.size, 0, none⟩ = some (.slice none 0 0) := (block_cell hq6).1
               have hf6 : w6.frozen? ⟨w5.heap.size, 0, none⟩ = false := (block_cell hq6).2
               clear hq6)
             have HO : Hid _ := ho
             have HB6 : Hid _ := hb6
             clear ho hb6))
        all_goals
          have hRlt := HROW.out.lt
          have hRlt5 := HROW5.out.lt
          have hn4 := HD4.out.new
          go_wp2_with fail
          go_meet
          case rel =>
            first
            | (obtain ⟨y1, y2, y3⟩ := HD5.out.takeOld (X := w4.heap.size) (c' := c') HB6.out HO.out HV hcell5 (by omega) (by simp at hs5; omega) (by omega) (by omega) hx6
               exact ⟨_, b, V, c', ok, rfl, rfl, y1, y2, y3⟩)
            | (obtain ⟨y1, y2, y3⟩ := (HD5.out.below ((Below.refl _ _).alloc (Nat.le_refl _) _)).takeOld (X := w5.heap.size) (c' := c') HB6.out HO.out HV (c := c) (R := R) (by rw [World.cell?_alloc_lt _ _ _ (by exact hl5)]; exact hcell5) (by omega) (by rw [heap_size]; omega) (by omega) (by omega) hx6
               exact ⟨_, b, V, c', ok, rfl, rfl, y1, y2, y3⟩)
            | (obtain ⟨y1, y2, y3⟩ := HD5.out.take HB6.out HO.out HV (c := c')
               exact ⟨_, b, V, c', ok, rfl, rfl, y1, y2, y3⟩)
      case rest =>
        obtain ⟨X, b, V, c', ok, rfl, rfl, hx, hD5, hDV⟩ := hcut
        have HD5 : Hid (Dv B D (N + 4 + 8 * (n - k) + 4) (.slice a len cap) w zs wc) := hD5
        have HDV : Hid (ok = true → Dv B D (N + 4 + 8 * (n - k) + 4) (.slice a len cap) w V (wc.setCell ⟨D, 0, none⟩ (.slice b V.length c'))) := hDV
        obtain ⟨R5, c5, hR5, hRD5, hcell5, hrow5⟩ := hD5.cell
        have hfree5 := hD5.free
        clear hrow5 hD5 hDV hcell HD4 HROW
        go_upto_if 43 with fail
        go_cut [] (fun wd => ∃ (zs1 : List Zn), Dv B D (N + 4 + 8 * (n - k) + 4) (.slice a len cap) w zs1 wd)
        case first =>
          cases ok
          · go_wp2_with fail
            go_meet
            case rel => exact ⟨zs, HD5.out⟩
          · go_wp2_with fail
            go_meet
            case rel => exact ⟨V, HDV.out (by trivial)⟩
        case rest =>
          obtain ⟨zs1, hD6⟩ := hcut
          have HD6 : Hid (Dv B D (N + 4 + 8 * (n - k) + 4) (.slice a len cap) w zs1 wc) := hD6
          clear hD6 HD5 HDV hcell5 hfree5 hx
          go_wp2_with fail
          refine (pick_any _ B _ len cap a _ (by omega) (by omega) (by omega) HD6.out.cur (HK.out _ HD6.out.but)).mono ?_
          rintro e w7 ⟨t, rfl, t0, t1, hC7, hB7⟩
          have HD7 : Hid (Dv B D (N + 4 + 8 * (n - k) + 6) (.slice a len cap) w zs1 w7) := HD6.out.step hC7 hB7
          clear HD6 hC7 hB7
          obtain ⟨R7, c7, hR7, hRD7, hcell7, hrow7⟩ := HD7.out.cell
          have HROW7 : Hid (ZRow R7 zs1 w7) := hrow7
          have hfree7 := HD7.out.free
          have hl7 : D < w7.heap.size := HD7.out.lt
          have hlen7 : zs1.length ≤ 6 := HD7.out.small.2.1
          clear hrow7
          by_cases e0 : t = 0
          · subst e0
            obtain ⟨V8, ok8, T8, -, -, hok8⟩ := finish_tells zs1 q (by omega)
            have HV8 : Hid (ok8 = true → small 60 V8) := fun e => by
              obtain ⟨-, i, hi, -, -, rfl⟩ := hok8 e
              exact small_set HD7.out.small i _ (small_at HD7.out.small i hi)
            clear hok8
            go_wp2_with fail
            refine (T8 _ _ _ (HROW7.out.sl HROW7.out.lt)).mono ?_
            rintro e w8 ⟨b8, c8, rfl, ho8, hb8⟩
            obtain ⟨y2, y3⟩ := HD7.out.takeNew hb8 ho8 HV8.out (c := c8)
            have hcell8 := (hb8.cell (p := ⟨D, 0, none⟩) hl7).trans hcell7
            have hfree8 := (hb8.frozen (p := ⟨D, 0, none⟩) hl7).trans hfree7
            have hl8 : D < w8.heap.size := Nat.lt_of_lt_of_le hl7 hb8.size
            have HY : Hid (Dv B D (N + 4 + 8 * (n - k) + 6) (.slice a len cap) w zs1 (w8.alloc (.cells #[.slice b8 V8.length c8] 25)) ∧ (ok8 = true → Dv B D (N + 4 + 8 * (n - k) + 6) (.slice a len cap) w V8 ((w8.setCell ⟨D, 0, none⟩ (.slice b8 V8.length c8)).alloc (.cells #[.slice b8 V8.length c8] 25)))) := ⟨y2, y3⟩
            clear y2 y3 ho8 hb8 HV8 T8
            cases ok8
            · go_wp2_with fail
              go_roundw
              case rel => exact ⟨k - 1, zs1, by omega, by congr 1; omega, HY.out.1.mono (by omega)⟩
              case measure => simp [intOf]; omega
            · go_wp2_with fail
              go_roundw
              case rel =>
                have z9 : Dv B D (N + 4 + 8 * (n - k) + 6) (.slice a len cap) w V8 _ := HY.out.2 (by trivial)
                refine ⟨k - 1, V8, by omega, by congr 1; omega, z9.mono ?_⟩
                omega
              case measure => simp [intOf]; omega
          · have d0 : (t == 0) = false := by simpa using e0
            by_cases e1 : t = 1
            · subst e1
              obtain ⟨V8, ok8, T8, -, -, hok8⟩ := reset_tells zs1 q (by omega)
              have HV8 : Hid (ok8 = true → small 60 V8) := fun e => by
                obtain ⟨-, i, hi, -, rfl⟩ := hok8 e
                exact small_set HD7.out.small i _ (by unfold smallZ zeroZ; decide)
              clear hok8
              go_wp2_with fail
              refine (T8 _ _ _ (HROW7.out.sl HROW7.out.lt)).mono ?_
              rintro e w8 ⟨b8, c8, rfl, ho8, hb8⟩
              obtain ⟨y2, y3⟩ := HD7.out.takeNew hb8 ho8 HV8.out (c := c8)
              have hcell8 := (hb8.cell (p := ⟨D, 0, none⟩) hl7).trans hcell7
              have hfree8 := (hb8.frozen (p := ⟨D, 0, none⟩) hl7).trans hfree7
              have hl8 : D < w8.heap.size := Nat.lt_of_lt_of_le hl7 hb8.size
              have HY : Hid (Dv B D (N + 4 + 8 * (n - k) + 6) (.slice a len cap) w zs1 (w8.alloc (.cells #[.slice b8 V8.length c8] 25)) ∧ (ok8 = true → Dv B D (N + 4 + 8 * (n - k) + 6) (.slice a len cap) w V8 ((w8.setCell ⟨D, 0, none⟩ (.slice b8 V8.length c8)).alloc (.cells #[.slice b8 V8.length c8] 25)))) := ⟨y2, y3⟩
              clear y2 y3 ho8 hb8 HV8 T8
              cases ok8
              · go_wp2_with fail
                go_roundw
                case rel => exact ⟨k - 1, zs1, by omega, by congr 1; omega, HY.out.1.mono (by omega)⟩
                case measure => simp [intOf]; omega
              · go_wp2_with fail
                go_roundw
                case rel =>
                  have z9 : Dv B D (N + 4 + 8 * (n - k) + 6) (.slice a len cap) w V8 _ := HY.out.2 (by trivial)
                  refine ⟨k - 1, V8, by omega, by congr 1; omega, z9.mono ?_⟩
                  omega
                case measure => simp [intOf]; omega
            · have d1 : (t == 1) = false := by simpa using e1
              by_cases e2 : t = 2
              · subst e2
                obtain ⟨V8, ok8, T8, -, -, hok8⟩ := flush_tells zs1 (by omega)
                have HV8 : Hid (ok8 = true → small 60 V8) := fun e => by
                  obtain ⟨-, rfl⟩ := hok8 e
                  exact small_flush HD7.out.small
                clear hok8
                go_wp2_with fail
                refine (T8 _ _ _ (HROW7.out.sl HROW7.out.lt)).mono ?_
                rintro e w8 ⟨b8, c8, rfl, ho8, hb8⟩
                obtain ⟨y2, y3⟩ := HD7.out.takeNew hb8 ho8 HV8.out (c := c8)
                have hcell8 := (hb8.cell (p := ⟨D, 0, none⟩) hl7).trans hcell7
                have hfree8 := (hb8.frozen (p := ⟨D, 0, none⟩) hl7).trans hfree7
                have hl8 : D < w8.heap.size := Nat.lt_of_lt_of_le hl7 hb8.size
                have HY : Hid (Dv B D (N + 4 + 8 * (n - k) + 6) (.slice a len cap) w zs1 (w8.alloc (.cells #[.slice b8 V8.length c8] 25)) ∧ (ok8 = true → Dv B D (N + 4 + 8 * (n - k) + 6) (.slice a len cap) w V8 ((w8.setCell ⟨D, 0, none⟩ (.slice b8 V8.length c8)).alloc (.cells #[.slice b8 V8.length c8] 25)))) := ⟨y2, y3⟩
                clear y2 y3 ho8 hb8 HV8 T8
                cases ok8
                · go_wp2_with fail
                  go_roundw
                  case rel => exact ⟨k - 1, zs1, by omega, by congr 1; omega, HY.out.1.mono (by omega)⟩
                  case measure => simp [intOf]; omega
                · go_wp2_with fail
                  go_roundw
                  case rel =>
                    have z9 : Dv B D (N + 4 + 8 * (n - k) + 6) (.slice a len cap) w V8 _ := HY.out.2 (by trivial)
                    refine ⟨k - 1, V8, by omega, by congr 1; omega, z9.mono ?_⟩
                    omega
                  case measure => simp [intOf]; omega
              · have d2 : (t == 2) = false := by simpa using e2
                go_wp2_with fail
                go_roundw
                case rel => exact ⟨k - 1, zs1, by omega, by congr 1; omega, HD7.out.mono (by omega)⟩
                case measure => simp [intOf]; omega
    · go_wp2_with fail
      refine (pick_any _ B _ len cap a _ (by omega) (by omega) (by omega) HD.out.cur (HK.out _ HD.out.but)).mono ?_
      rintro e w4 ⟨q, rfl, q0, q1, hC1, hB1⟩
      have HD4 : Hid (Dv B D (N + 4 + 8 * (n - k) + 2) (.slice a len cap) w zs w4) := HD.out.step hC1 hB1
      clear HD hC1 hB1 hcell hR hRD
      obtain ⟨R, c, hR, hRD, hcell, hrow⟩ := HD4.out.cell
      obtain ⟨x0, x1, x2⟩ := hrow.cell 0 (by omega)
      have f0 := hrow.free 0 (by omega)
      have f1 := hrow.free 1 (by omega)
      have HROW : Hid (ZRow R zs w4) := hrow
      have hq := HD4.out.res
      have r0 : w4.cell? ⟨w.heap.size, 0, none⟩ = some (.slice none 0 0) := by unfold World.cell?; rw [hq]; rfl
      have r1 : w4.frozen? ⟨w.heap.size, 0, none⟩ = false := by unfold World.frozen?; rw [hq]; rfl
      clear hq hrow
      have hsm := small_at HD4.out.small 0 (by omega)
      have s1 : zs[0].data.size ≤ 60 := hsm.1
      have s2 : 0 ≤ zs[0].sure := hsm.2.1
      have s3 : zs[0].sure ≤ 60 := hsm.2.2
      clear hsm
      by_cases e0 : q = 0
      · subst e0
        go_wp2_with fail
        have hrow1 := HROW.out.setSure 0 (by omega) (zs[0].sure + 1)
        rw [show 0 * 3 + 1 = 1 from rfl] at hrow1
        obtain ⟨g1, g2, g3⟩ := HD4.out.done hR ((But.refl R w4).setCell 1 _) hrow1 (.slice (some ⟨R, 0, none⟩) zs.length c)
        refine bodyPost_ret (v := .agg #[.slice (some ⟨R, 0, none⟩) zs.length c]) (by simp [results, Try.results32, go_sem, r0]) rfl ⟨_, R, c, by rw [List.length_set], by omega, g1, small_set (small_up HD4.out.small (by omega)) 0 _ ⟨s1, by show 0 ≤ zs[0].sure + 1; omega, by show zs[0].sure + 1 ≤ 61; omega⟩, g2.mono (by omega), g3⟩
      · by_cases e1 : q = 1
        · subst e1
          have hmk : ∀ W : World, (Instr.makeSlice 22 (.int .i64 60) (.int .i64 60)).run Try.prog W = .ok (.slice (some ⟨W.heap.size, 0, none⟩) 60 60) (W.alloc (.cells (madeCells (Value.int .u8 0).cells 60) 5)) := fun W => make_bytes 60 (by decide) W
          have hc := (ByteRow.made w4 60).drew.back (P := Try.prog) (n := 60) (cap := 60) (by rw [List.length_replicate]) 22 9 Try.underlying22 Try.underlying5 Try.underlying9
          have hz : (⟨(List.replicate 60 (0 : UInt8)).toArray⟩ : ByteArray).size = 60 := by decide
          generalize (⟨(List.replicate 60 (0 : UInt8)).toArray⟩ : ByteArray) = Z at hc hz
          have HZ : Hid (Z.size = 60) := hz
          clear hz
          generalize madeCells (Value.int .u8 0).cells 60 = M at *
          have hl1 : D < w4.heap.size := HD4.out.lt
          have hl2 : R < w4.heap.size := HROW.out.lt
          have hl3 : w.heap.size < w4.heap.size := Nat.lt_trans HD4.out.new hl1
          go_wp2_with fail
          go_region
          go_wp2_with fail
          have hrow1 := HROW.out.setData 0 (by omega) Z
          rw [show 0 * 3 = 0 from rfl] at hrow1
          obtain ⟨g1, g2, g3⟩ := HD4.out.done hR ((But.refl R w4).setCell 0 _) hrow1 (.slice (some ⟨R, 0, none⟩) zs.length c)
          refine bodyPost_ret (v := .agg #[.slice (some ⟨R, 0, none⟩) zs.length c]) (by simp [results, Try.results32, go_sem, r0, hl3]) rfl ⟨_, R, c, by rw [List.length_set], by omega, (g1.below ((Below.refl _ _).alloc (Nat.le_refl _) _)).drew, small_set (small_up HD4.out.small (by omega)) 0 _ ⟨by show Z.size ≤ 60; rw [HZ.out]; omega, s2, by show zs[0].sure ≤ 61; omega⟩, ((g2.alloc _).drew).mono (by omega), (g3.alloc _).drew⟩
        · have d0 : (q == 0) = false := by simpa using e0
          have d1 : (q == 1) = false := by simpa using e1
          go_wp2_with fail
          obtain ⟨g1, g2, g3⟩ := HD4.out.done hR (But.refl _ _) HROW.out (.slice (some ⟨R, 0, none⟩) zs.length c)
          refine bodyPost_ret (v := .agg #[.slice (some ⟨R, 0, none⟩) zs.length c]) (by simp [results, Try.results32, go_sem, r0]) rfl ⟨zs, R, c, rfl, by omega, g1, small_up HD4.out.small (by omega), g2.mono (by omega), g3⟩
end Go.Proofs.Yteofdaecknlkdaa
