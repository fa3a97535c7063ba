/- The law on crashes: its walk out of the contracts. -/
import Derived.Test.YteofdaecknlkdaaSt
import Derived.Test.YteofdaecknlkdaaDrawCrash
import Derived.Test.YteofdaecknlkdaaTellsC
import Derived.Deep.DeepCutAuto
namespace Go.Proofs.Yteofdaecknlkdaa
set_option maxRecDepth 100000
open Go.ChangeShapes Go.WideShapes Go.ChangeAt Go.RowKit
set_option maxHeartbeats 8000000 in
theorem crashed_small (l1 c1 l2 c2 : Nat) (a1 a2 : Option Addr) (w : World) (h12 : l1 + l2 ≤ 1048576) (hK1 : Code w.heap.size l1 c1 a1 w) (hK2 : Code w.heap.size l2 c2 a2 w) :
    Calls Try.prog 4 #[.slice a1 l1 c1, .slice a2 l2 c2] w fun e w' => e = .returned (.bool true) ∧ Below w.heap.size w w' := by
  have hd : decide ((1048576 : Int) < (l1 : Int) + (l2 : Int)) = false := by simp; omega
  have HK1 : Hid (Code w.heap.size l1 c1 a1 w) := hK1
  have HS : Hid (St w [] l2 c2 a2 w) := ⟨Below.refl _ _, hK2, fun _ h => (by cases h)⟩
  clear hK1 hK2
  go_enter Try.func4, Try.ntmps4
  go_wp2_with fail
  refine (drawCrash_any l1 c1 a1 _ HK1.out).mono ?_
  rintro e w1 ⟨zs, R, c, ks, kb, kc, rfl, hks, hrow, his, hsm, hb⟩
  have HS1 : Hid (St w [(w1.heap.size, some ⟨R, 0, none⟩, zs, c)] l2 c2 a2 (w1.alloc (.cells #[.slice (some ⟨R, 0, none⟩) zs.length c] 25)) ∧ Is (w1.alloc (.cells #[.slice (some ⟨R, 0, none⟩) zs.length c] 25)).heap.size kb ks (w1.alloc (.cells #[.slice (some ⟨R, 0, none⟩) zs.length c] 25))) := ⟨(HS.out.on hb).lay _ _ _ (hrow.sl hrow.lt), (his.below ((Below.refl _ _).alloc (Nat.le_refl _) _)).mono (by rw [heap_size]; omega)⟩
  have hz2 := hsm.2.1
  obtain ⟨V, ok, TS, TI, hVl, hyes⟩ := crash_tells zs ks (by omega) hks
  have HYES : Hid _ := hyes
  clear HS HK1 hb hrow hsm his hks hyes
  generalize hW : w1.alloc (.cells #[.slice (some ⟨R, 0, none⟩) zs.length c] 25) = w2 at HS1
  generalize hX : w1.heap.size = X1 at HS1
  have q1 := HS1.out.1.cell X1 (some ⟨R, 0, none⟩) zs c (by simp)
  go_wp2_with fail
  clear hW hX q1
  refine (TI _ _ _ _ _ (HS1.out.1.zs X1 (some ⟨R, 0, none⟩) zs c (by simp)) HS1.out.2).mono ?_
  rintro e w3 ⟨b2, d2, rfl, ho, hb⟩
  have HS3 : Hid (St w [(w3.heap.size, b2, V, d2), (X1, some ⟨R, 0, none⟩, zs, c)] l2 c2 a2 (w3.alloc (.cells #[.slice b2 V.length d2] 25)) ∧ Is (w3.alloc (.cells #[.slice b2 V.length d2] 25)).heap.size kb ks (w3.alloc (.cells #[.slice b2 V.length d2] 25))) := ⟨(HS1.out.1.on hb).lay _ _ _ ho.zs, (((HS1.out.2.below hb).mono hb.size).below ((Below.refl _ _).alloc (Nat.le_refl _) _)).mono (by rw [heap_size]; omega)⟩
  clear HS1 hb ho TI
  generalize hW : w3.alloc (.cells #[.slice b2 V.length d2] 25) = w4 at HS3
  generalize hX : w3.heap.size = X2 at HS3
  have q1 := HS3.out.1.cell X1 (some ⟨R, 0, none⟩) zs c (by simp)
  go_wp2_with fail
  clear hW hX q1
  refine (TS _ _ _ _ _ (HS3.out.1.zs X1 (some ⟨R, 0, none⟩) zs c (by simp)) HS3.out.2).mono ?_
  rintro e w5 ⟨b3, d3, rfl, ho, hb⟩
  have HS5 : Hid (St w [(w5.heap.size, b3, V, d3), (X2, b2, V, d2), (X1, some ⟨R, 0, none⟩, zs, c)] l2 c2 a2 (w5.alloc (.cells #[.slice b3 V.length d3] 25))) := (HS3.out.1.on hb).lay _ _ _ ho.zs
  clear HS3 hb ho TS
  generalize hW : w5.alloc (.cells #[.slice b3 V.length d3] 25) = w6 at HS5
  generalize hX : w5.heap.size = X3 at HS5
  have q2 := HS5.out.cell X2 b2 V d2 (by simp)
  have q3 := HS5.out.cell X3 b3 V d3 (by simp)
  go_wp2_with fail
  clear hW hX q2 q3
  refine (sameDevice_same _ _ _ _ V _ hVl (HS5.out.zs X2 b2 V d2 (by simp)) (HS5.out.zs X3 b3 V d3 (by simp))).mono ?_
  rintro e w7 ⟨rfl, hb⟩
  have HS7 : Hid (St w [(X3, b3, V, d3), (X2, b2, V, d2), (X1, some ⟨R, 0, none⟩, zs, c)] l2 c2 a2 w7) := HS5.out.on hb
  clear HS5 hb
  go_upto_if 53 with fail
  go_cut [] (fun wd => St w [] l2 c2 a2 wd)
  case first =>
    as_aux_lemma =>
      cases ok
      · go_wp2_with fail
        go_meet
        case rel => exact HS7.out.bare
      · obtain ⟨hgV, hVlen, hcr⟩ := HYES.out rfl
        have HCR : Hid (∀ k (hk : k < zs.length) (hk2 : k < V.length), Crashed zs[k] V[k]) := hcr
        have HVL : Hid (V.length = zs.length) := hVlen
        have C4 : Hid (∀ a c v, Zs v.heap.size a V v → Calls Try.prog 9 #[.agg #[.slice a V.length c]] v fun e w' => e = .returned (.bool true) ∧ Below v.heap.size v w') := fun a c v hv => by
          have := igood_any a c V v hVl hv
          rw [hgV] at this
          exact this
        clear hcr hVlen hgV HYES
        have q1 := HS7.out.cell X1 (some ⟨R, 0, none⟩) zs c (by simp)
        go_wp2_with fail
        go_loopw [57] (fun i wr => ∃ k : Nat, k ≤ zs.length ∧ i = .int .i64 k ∧ St w [(X3, b3, V, d3), (X2, b2, V, d2), (X1, some ⟨R, 0, none⟩, zs, c)] l2 c2 a2 wr) (fun i _ => zs.length - (intOf i).toNat)
        case atStart => exact ⟨0, Nat.zero_le _, rfl, HS7.out⟩
        case round =>
          obtain ⟨k, hk, rfl, hS⟩ := hrel
          have HS : Hid (St w [(X3, b3, V, d3), (X2, b2, V, d2), (X1, some ⟨R, 0, none⟩, zs, c)] l2 c2 a2 wr) := hS
          have q2 := HS.out.cell X2 b2 V d2 (by simp)
          have hX2 : X2 < wr.heap.size := block_lt (HS.out.dev (X2, b2, V, d2) (by simp)).1
          clear hS HS7 q1
          by_cases hlt : k < zs.length
          · have hlV : k < V.length := by have := HVL.out; omega
            obtain ⟨zb, zo, ez, hzb, hzc⟩ := (HS.out.zs X1 (some ⟨R, 0, none⟩) zs c (by simp)).cell (by omega)
            cases ez
            obtain ⟨yb, yo, rfl, hyb, hyc⟩ := (HS.out.zs X2 b2 V d2 (by simp)).cell (by omega)
            obtain ⟨x0, x1, x2⟩ := hzc k hlt
            obtain ⟨y0, y1, y2⟩ := hyc k hlV
            obtain ⟨f1, f2, f3, f4⟩ := HCR.out k hlt hlV
            rw [Nat.zero_add] at x0 x1 x2
            rw [f4] at y1
            have hcut := fun v => cut_to zs[k].data (V[k].data.size : Int) v (by omega) (by omega)
            rw [Int.toNat_natCast, f3] at hcut
            have g1 : decide ((V[k].data.size : Int) < zs[k].sure) = false := by simp; omega
            have g2 : decide ((zs[k].data.size : Int) < (V[k].data.size : Int)) = false := by simp; omega
            have g3 : decide (zs[k].data.size < V[k].data.size) = false := by simp; omega
            have hlen1 : (k : Int) < (V.length : Int) := by omega
            clear hzc hyc f3 f4
            generalize zs[k].data = zd at *
            generalize zs[k].sure = zu at *
            generalize zs[k].full = zf at *
            generalize V[k].data = yd at *
            generalize V[k].full = yf at *
            go_wp2_with fail
            go_big_region
            go_wp2_with fail
            go_roundw
            case rel => exact ⟨k + 1, by omega, by go_num, (HS.out.on (((Below.refl _ _).alloc (Nat.le_refl _) _).alloc (by simp) _)).drew⟩
            case measure => simp [intOf]; omega
          · go_wp2_with fail
            refine (C4.out _ _ _ (HS.out.zs X2 b2 V d2 (by simp))).mono ?_
            rintro e w8 ⟨rfl, hb⟩
            have HS8 : Hid (St w [(X3, b3, V, d3), (X2, b2, V, d2), (X1, some ⟨R, 0, none⟩, zs, c)] l2 c2 a2 w8) := HS.out.on hb
            clear hb HS
            go_wp2_with fail
            go_meet
            case rel => exact HS8.out.bare
  case rest =>
    as_aux_lemma =>
      have HS : Hid (St w [] l2 c2 a2 wc) := hcut
      clear hcut HYES HS7
      go_wp2_with fail
      refine (drawFlush_any l2 c2 a2 _ HS.out.draw).mono ?_
      rintro e u1 ⟨ys, R2, yc, rfl, hR, hrow, hsm, hb⟩
      have HA : Hid (St w [(u1.heap.size, some ⟨R2, 0, none⟩, ys, yc)] l2 c2 a2 (u1.alloc (.cells #[.slice (some ⟨R2, 0, none⟩) ys.length yc] 25))) := (HS.out.on hb).lay _ _ _ (hrow.sl hrow.lt)
      have hy2 := hsm.2.1
      have hy1 := hsm.1
      clear HS hb hrow hsm hR
      obtain ⟨F, okF, TFS, TFI, hFno, hFyes⟩ := flush_tells ys (by omega)
      have hFl : F.length ≤ 1048576 := by
        cases okF
        · rw [hFno rfl]; simp
        · obtain ⟨-, rfl⟩ := hFyes rfl
          rw [List.length_map]; omega
      have HF : Hid (okF = true → F = ys.map flushZ) := fun e => (hFyes e).2
      clear hFno hFyes
      generalize hW : u1.alloc (.cells #[.slice (some ⟨R2, 0, none⟩) ys.length yc] 25) = u2 at HA
      generalize hX : u1.heap.size = Y1 at HA
      have q1 := HA.out.cell Y1 (some ⟨R2, 0, none⟩) ys yc (by simp)
      go_wp2_with fail
      clear hW hX q1
      refine (TFI _ _ _ (HA.out.zs Y1 (some ⟨R2, 0, none⟩) ys yc (by simp))).mono ?_
      rintro e u3 ⟨fb, fc, rfl, ho, hb⟩
      have HB : Hid (St w [(u3.heap.size, fb, F, fc), (Y1, some ⟨R2, 0, none⟩, ys, yc)] l2 c2 a2 (u3.alloc (.cells #[.slice fb F.length fc] 25))) := (HA.out.on hb).lay _ _ _ ho.zs
      clear hb ho HA TFI
      generalize hW : u3.alloc (.cells #[.slice fb F.length fc] 25) = u4 at HB
      generalize hX : u3.heap.size = Y2 at HB
      have q1 := HB.out.cell Y1 (some ⟨R2, 0, none⟩) ys yc (by simp)
      go_wp2_with fail
      clear hW hX q1
      refine (TFS _ _ _ (HB.out.zs Y1 (some ⟨R2, 0, none⟩) ys yc (by simp))).mono ?_
      rintro e u5 ⟨gb, gc, rfl, ho, hb⟩
      have HC : Hid (St w [(u5.heap.size, gb, F, gc), (Y2, fb, F, fc), (Y1, some ⟨R2, 0, none⟩, ys, yc)] l2 c2 a2 (u5.alloc (.cells #[.slice gb F.length gc] 25))) := (HB.out.on hb).lay _ _ _ ho.zs
      clear hb ho HB TFS
      generalize hW : u5.alloc (.cells #[.slice gb F.length gc] 25) = u6 at HC
      generalize hX : u5.heap.size = Y3 at HC
      have q2 := HC.out.cell Y2 fb F fc (by simp)
      have q3 := HC.out.cell Y3 gb F gc (by simp)
      go_wp2_with fail
      clear hW hX q2 q3
      refine (sameDevice_same _ _ _ _ F _ hFl (HC.out.zs Y2 fb F fc (by simp)) (HC.out.zs Y3 gb F gc (by simp))).mono ?_
      rintro e u7 ⟨rfl, hb⟩
      have HD : Hid (St w [(Y3, gb, F, gc), (Y2, fb, F, fc), (Y1, some ⟨R2, 0, none⟩, ys, yc)] l2 c2 a2 u7) := HC.out.on hb
      clear HC hb
      cases okF
      · go_wp2_with fail
        go_ret
        exact ⟨rfl, HD.out.below⟩
      · have hF := HF.out rfl
        have HFL : Hid (F.length = ys.length) := by show F.length = ys.length; rw [hF, List.length_map]
        have HFA : Hid (∀ k (hk : k < ys.length) (hk2 : k < F.length), F[k].data = ys[k].data ∧ F[k].sure = (ys[k].data.size : Int)) := fun k hk hk2 => by
          subst hF
          rw [List.getElem_map]
          exact ⟨rfl, rfl⟩
        clear hF HF
        obtain ⟨zb, zo, rfl, -, -⟩ := (HD.out.zs Y2 fb F fc (by simp)).cell (by have := HFL.out; omega)
        have q2 := HD.out.cell Y2 (some ⟨zb, zo, none⟩) F fc (by simp)
        go_wp2_with fail
        go_loopw [130] (fun i wr => ∃ k : Nat, k ≤ F.length ∧ i = .int .i64 k ∧ St w [(Y3, gb, F, gc), (Y2, some ⟨zb, zo, none⟩, F, fc), (Y1, some ⟨R2, 0, none⟩, ys, yc)] l2 c2 a2 wr) (fun i _ => F.length - (intOf i).toNat)
        case atStart => exact ⟨0, Nat.zero_le _, rfl, HD.out⟩
        case round =>
          obtain ⟨k, hk, rfl, hS⟩ := hrel
          have HS : Hid (St w [(Y3, gb, F, gc), (Y2, some ⟨zb, zo, none⟩, F, fc), (Y1, some ⟨R2, 0, none⟩, ys, yc)] l2 c2 a2 wr) := hS
          have q1 := HS.out.cell Y1 (some ⟨R2, 0, none⟩) ys yc (by simp)
          have hY1 : Y1 < wr.heap.size := block_lt (HS.out.dev (Y1, some ⟨R2, 0, none⟩, ys, yc) (by simp)).1
          clear hS HD q2
          by_cases hlt : k < F.length
          · have hly : k < ys.length := by have := HFL.out; omega
            obtain ⟨zb', zo', ez, hzb', hzc⟩ := (HS.out.zs Y2 (some ⟨zb, zo, none⟩) F fc (by simp)).cell (by omega)
            cases ez
            obtain ⟨yb, yo, ey, hyb, hyc⟩ := (HS.out.zs Y1 (some ⟨R2, 0, none⟩) ys yc (by simp)).cell (by omega)
            cases ey
            obtain ⟨x0, x1, x2⟩ := hzc k hlt
            obtain ⟨y0, y1, y2⟩ := hyc k hly
            obtain ⟨f1, f2⟩ := HFA.out k hly hlt
            rw [Nat.zero_add] at y0 y1 y2
            rw [f1] at x0
            rw [f2] at x1
            have hlen1 : (k : Int) < (ys.length : Int) := by omega
            clear hzc hyc f1 f2
            generalize ys[k].data = zd at *
            generalize F[k].full = zf at *
            go_wp2_with fail
            go_big_region
            go_wp2_with fail
            go_roundw
            case rel => exact ⟨k + 1, by omega, by go_num, (HS.out.on ((Below.refl _ _).alloc (Nat.le_refl _) _)).drew⟩
            case measure => simp [intOf]; omega
          · go_wp2_with fail
            go_ret
            exact ⟨rfl, HS.out.below⟩
set_option maxHeartbeats 400000 in
theorem crashed_big (l1 c1 l2 c2 : Nat) (a1 a2 : Option Addr) (w : World) (h1 : l1 ≤ 4611686018427387903) (h2 : l2 ≤ 4611686018427387903) (h12 : ¬ l1 + l2 ≤ 1048576) :
    Calls Try.prog 4 #[.slice a1 l1 c1, .slice a2 l2 c2] w fun e w' => e = .returned (.bool true) ∧ Below w.heap.size w w' := by
  have hd : decide ((1048576 : Int) < (l1 : Int) + (l2 : Int)) = true := by simp; omega
  go_enter Try.func4, Try.ntmps4
  go_wp2_with fail
  go_ret
  exact ⟨rfl, Below.refl _ _⟩
end Go.Proofs.Yteofdaecknlkdaa
