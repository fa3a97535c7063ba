/- The law on zones: its walk out of the contracts. -/
import Derived.Test.YteofdaecknlkdaaSt
import Derived.Deep.DeepCutAuto
namespace Go.Proofs.Yteofdaecknlkdaa
set_option maxRecDepth 100000
open Go.ChangeShapes Go.WideShapes Go.ChangeAt Go.RowKit
set_option maxHeartbeats 8000000 in
theorem zones_small (l1 c1 l2 c2 : Nat) (a1 a2 : Option Addr) (w : World) (h12 : l1 + l2 ≤ 1048576) (hK1 : Code w.heap.size l1 c1 a1 w) (hK2 : Code w.heap.size l2 c2 a2 w) :
    Calls Try.prog 3 #[.slice a1 l1 c1, .slice a2 l2 c2] w fun e w' => e = .returned (.bool true) ∧ Below w.heap.size w w' := by
  have hd : decide ((1048576 : Int) < (l1 : Int) + (l2 : Int)) = false := by simp; omega
  have HK1 : Hid (Code w.heap.size l1 c1 a1 w) := hK1
  have HS : Hid (St w [] l2 c2 a2 w) := ⟨Below.refl _ _, hK2, fun _ h => (by cases h)⟩
  clear hK1 hK2
  go_enter Try.func3, Try.ntmps3
  go_wp2_with fail
  refine (drawAppend_any l1 c1 a1 _ HK1.out).mono ?_
  rintro e w1 ⟨zs, R, c, k, s, rfl, hs, hR, hrow, hsm, hb⟩
  have HS1 : Hid (St w [(w1.heap.size, some ⟨R, 0, none⟩, zs, c)] l2 c2 a2 (w1.alloc (.cells #[.slice (some ⟨R, 0, none⟩) zs.length c] 25))) := (HS.out.on hb).lay _ _ _ (hrow.sl hrow.lt)
  have hz2 := hsm.2.1
  have q1 := HS1.out.cell w1.heap.size (some ⟨R, 0, none⟩) zs c (by simp)
  clear HS HK1 hb hrow hsm hR
  obtain ⟨V, p, ok, TS, TI, hno, hyes⟩ := append_tells zs k s (by omega) (by omega)
  have HNO : Hid (ok = false → V = [] ∧ p = 0) := hno
  have HYES : Hid _ := hyes
  clear hno hyes
  generalize hW : w1.alloc (.cells #[.slice (some ⟨R, 0, none⟩) zs.length c] 25) = w2 at HS1 q1
  generalize hX : w1.heap.size = X1 at HS1 q1
  generalize some (⟨R, 0, none⟩ : Addr) = b1 at *
  go_wp2_with fail
  clear hW hX
  refine (TI _ _ _ (HS1.out.zs X1 b1 zs c (by simp))).mono ?_
  rintro e w3 ⟨b2, d2, rfl, ho, hb⟩
  have HS3 : Hid (St w [(w3.heap.size, b2, V, d2), (X1, b1, zs, c)] l2 c2 a2 (w3.alloc (.cells #[.slice b2 V.length d2] 25))) := (HS1.out.on hb).lay _ _ _ ho.zs
  have q1 := HS3.out.cell X1 b1 zs c (by simp)
  clear HS1 hb ho TI
  generalize hW : w3.alloc (.cells #[.slice b2 V.length d2] 25) = w4 at HS3 q1
  generalize hX : w3.heap.size = X2 at HS3 q1
  go_wp2_with fail
  clear hW hX
  refine (TS _ _ _ (HS3.out.zs X1 b1 zs c (by simp))).mono ?_
  rintro e w5 ⟨b3, d3, rfl, ho, hb⟩
  have HS5 : Hid (St w [(w5.heap.size, b3, V, d3), (X2, b2, V, d2), (X1, b1, zs, c)] l2 c2 a2 (w5.alloc (.cells #[.slice b3 V.length d3] 25))) := (HS3.out.on hb).lay _ _ _ ho.zs
  have q1 := HS5.out.cell X1 b1 zs c (by simp)
  have q2 := HS5.out.cell X2 b2 V d2 (by simp)
  have q3 := HS5.out.cell w5.heap.size b3 V d3 (by simp)
  clear HS3 hb ho TS
  generalize hW : w5.alloc (.cells #[.slice b3 V.length d3] 25) = w6 at HS5 q1 q2 q3
  generalize hX : w5.heap.size = X3 at HS5 q1 q2 q3
  go_upto_region 6 with fail
  clear hW hX
  have hVl : V.length ≤ 1048576 := by
    cases ok
    · rw [(HNO.out rfl).1]; simp
    · obtain ⟨-, n, hn, -, -, rfl, -⟩ := HYES.out rfl
      rw [List.length_set]; omega
  go_cut [99] (fun s99 wc => s99 = .bool false ∧ St w [(X3, b3, V, d3), (X2, b2, V, d2), (X1, b1, zs, c)] l2 c2 a2 wc)
  case first =>
    as_aux_lemma =>
      go_region_held (fun v => v.cell? ⟨X1, 0, none⟩ = some (.slice b1 zs.length c) ∧ v.cell? ⟨X2, 0, none⟩ = some (.slice b2 V.length d2) ∧ v.cell? ⟨X3, 0, none⟩ = some (.slice b3 V.length d3)) (go_keep) (first
        | (go_at_call 8
           refine (sameDevice_same _ _ _ _ V _ hVl (HS5.out.drew.zs X2 b2 V d2 (by simp)) (HS5.out.drew.zs X3 b3 V d3 (by simp))).mono ?_
           rintro e w7 ⟨rfl, hb⟩
           have HS7 : Hid (St w [(X3, b3, V, d3), (X2, b2, V, d2), (X1, b1, zs, c)] l2 c2 a2 w7) := HS5.out.drew.on hb
           have r1 := HS7.out.cell X1 b1 zs c (by simp)
           have r2 := HS7.out.cell X2 b2 V d2 (by simp)
           have r3 := HS7.out.cell X3 b3 V d3 (by simp)
           clear hb)
        | (go_at_call 9
           refine (igood_any _ _ zs _ (by omega) (HS7.out.zs X1 b1 zs c (by simp))).mono ?_
           rintro e w8 ⟨rfl, hb⟩
           have HS8 : Hid (St w [(X3, b3, V, d3), (X2, b2, V, d2), (X1, b1, zs, c)] l2 c2 a2 w8) := HS7.out.on hb
           have r1 := HS8.out.cell X1 b1 zs c (by simp)
           have r2 := HS8.out.cell X2 b2 V d2 (by simp)
           have r3 := HS8.out.cell X3 b3 V d3 (by simp)
           clear hb)
        | (go_at_call 10
           refine (good_any _ _ zs _ (by omega) (HS8.out.zs X1 b1 zs c (by simp))).mono ?_
           rintro e w9 ⟨rfl, hb⟩
           have HS9 : Hid (St w [(X3, b3, V, d3), (X2, b2, V, d2), (X1, b1, zs, c)] l2 c2 a2 w9) := HS8.out.on hb
           have r1 := HS9.out.cell X1 b1 zs c (by simp)
           have r2 := HS9.out.cell X2 b2 V d2 (by simp)
           have r3 := HS9.out.cell X3 b3 V d3 (by simp)
           clear hb))
      all_goals
        go_wp2_with fail
        go_meet
        case rel => exact ⟨by simp, HS9.out⟩
  case rest =>
    as_aux_lemma =>
      obtain ⟨rfl, hS⟩ := hcut
      have HS : Hid (St w [(X3, b3, V, d3), (X2, b2, V, d2), (X1, b1, zs, c)] l2 c2 a2 wc) := hS
      clear hS HS5 q1 q2 q3
      go_upto_if 100 with fail
      go_cut [] (fun wd => St w [] l2 c2 a2 wd)
      case first =>
        as_aux_lemma =>
          cases ok
          · go_wp2_with fail
            go_meet
            case rel => exact HS.out.bare
          · obtain ⟨hth, n, hn, rfl, rfl, rfl, hgV, hs1, hs2⟩ := HYES.out rfl
            have q1 := HS.out.cell X1 b1 zs c (by simp)
            have q2 := HS.out.cell X2 b2 (zs.set n (appZ zs[n] s)) d2 (by simp)
            have hnV : n < (zs.set n (appZ zs[n] s)).length := by rw [List.length_set]; exact hn
            have hVn : (zs.set n (appZ zs[n] s))[n].data = zs[n].data ++ s := by rw [List.getElem_set_self]; rfl
            have hthV : there (zs.set n (appZ zs[n] s)) n := ⟨hgV, by omega, by omega⟩
            have C1 : Hid (∀ a c v, Zs v.heap.size a (zs.set n (appZ zs[n] s)) v → Calls Try.prog 11 #[.agg #[.slice a (zs.set n (appZ zs[n] s)).length c], .int .i64 n, .int .i64 zs[n].data.size, .int .i64 s.size] v fun e w' => e = .returned (.tuple #[.string s, .bool true]) ∧ Below v.heap.size v w') := fun a c v hv => by
              have := iread_yes a c _ n zs[n].data.size s.size v hv hthV hnV (by rw [hVn, ByteArray.size_append]; omega)
              rw [hVn, ext_right] at this
              exact this
            have C2 : Hid (∀ a c v, Zs v.heap.size a (zs.set n (appZ zs[n] s)) v → Calls Try.prog 11 #[.agg #[.slice a (zs.set n (appZ zs[n] s)).length c], .int .i64 n, .int .i64 0, .int .i64 zs[n].data.size] v fun e w' => e = .returned (.tuple #[.string zs[n].data, .bool true]) ∧ Below v.heap.size v w') := fun a c v hv => by
              have := iread_yes a c _ n 0 zs[n].data.size v hv hthV hnV (by rw [hVn, ByteArray.size_append]; omega)
              rw [hVn, ext_left] at this
              exact this
            have C3 : Hid (∀ a c v, Zs v.heap.size a zs v → Calls Try.prog 11 #[.agg #[.slice a zs.length c], .int .i64 n, .int .i64 0, .int .i64 zs[n].data.size] v fun e w' => e = .returned (.tuple #[.string zs[n].data, .bool true]) ∧ Below v.heap.size v w') := fun a c v hv => by
              have := iread_yes a c zs n 0 zs[n].data.size v hv hth hn (by omega)
              rw [ext_all] at this
              exact this
            obtain ⟨l, okl, -, TO, hll, hlo⟩ := open_tells (zs.set n (appZ zs[n] s)) (by rw [List.length_set]; omega)
            obtain ⟨rfl, hl⟩ := hlo hgV
            have hl3 : l.length ≤ 3 := by rw [hl]; exact goodD_open hgV
            have C4 : Hid (∀ a c v, Zs v.heap.size a (zs.set n (appZ zs[n] s)) v → Calls Try.prog 9 #[.agg #[.slice a (zs.set n (appZ zs[n] s)).length c]] v fun e w' => e = .returned (.bool true) ∧ Below v.heap.size v w') := fun a c v hv => by
              have := igood_any a c (zs.set n (appZ zs[n] s)) v (by rw [List.length_set]; omega) hv
              rw [hgV] at this
              exact this
            clear hl hlo hth hthV hgV hVn hnV
            generalize zs.set n (appZ zs[n] s) = V at *
            generalize zs[n].data = dd at *
            go_wp2_with fail
            refine (C1.out _ _ _ (HS.out.zs X2 b2 V d2 (by simp))).mono ?_
            rintro e v1 ⟨rfl, hb⟩
            have HS1 : Hid (St w [(X3, b3, V, d3), (X2, b2, V, d2), (X1, b1, zs, c)] l2 c2 a2 v1) := HS.out.on hb
            have q1 := HS1.out.cell X1 b1 zs c (by simp)
            have q2 := HS1.out.cell X2 b2 V d2 (by simp)
            clear hb HS
            go_wp2_with fail
            refine (C2.out _ _ _ (HS1.out.zs X2 b2 V d2 (by simp))).mono ?_
            rintro e v2 ⟨rfl, hb⟩
            have HS2 : Hid (St w [(X3, b3, V, d3), (X2, b2, V, d2), (X1, b1, zs, c)] l2 c2 a2 v2) := HS1.out.on hb
            have q1 := HS2.out.cell X1 b1 zs c (by simp)
            have q2 := HS2.out.cell X2 b2 V d2 (by simp)
            clear hb HS1
            go_wp2_with fail
            refine (C3.out _ _ _ (HS2.out.zs X1 b1 zs c (by simp))).mono ?_
            rintro e v3 ⟨rfl, hb⟩
            have HS3 : Hid (St w [(X3, b3, V, d3), (X2, b2, V, d2), (X1, b1, zs, c)] l2 c2 a2 v3) := HS2.out.on hb
            have q1 := HS3.out.cell X1 b1 zs c (by simp)
            have q2 := HS3.out.cell X2 b2 V d2 (by simp)
            clear hb HS2
            go_wp2_with fail
            refine (TO _ _ _ (HS3.out.zs X2 b2 V d2 (by simp))).mono ?_
            rintro e v4 ⟨ob, oc, rfl, -, hb⟩
            have HS4 : Hid (St w [(X3, b3, V, d3), (X2, b2, V, d2), (X1, b1, zs, c)] l2 c2 a2 v4) := HS3.out.on hb
            have q1 := HS4.out.cell X1 b1 zs c (by simp)
            have q2 := HS4.out.cell X2 b2 V d2 (by simp)
            clear hb HS3
            go_wp2_with fail
            refine (C4.out _ _ _ (HS4.out.zs X2 b2 V d2 (by simp))).mono ?_
            rintro e v5 ⟨rfl, hb⟩
            have HS5 : Hid (St w [(X3, b3, V, d3), (X2, b2, V, d2), (X1, b1, zs, c)] l2 c2 a2 v5) := HS4.out.on hb
            have q1 := HS5.out.cell X1 b1 zs c (by simp)
            have q2 := HS5.out.cell X2 b2 V d2 (by simp)
            clear hb HS4
            go_wp2_with fail
            go_meet
            case rel => exact HS5.out.bare
      case rest =>
        as_aux_lemma =>
          have HS : Hid (St w [] l2 c2 a2 wc) := hcut
          clear hcut HNO HYES
          go_wp2_with fail
          refine (drawFinish_any l2 c2 a2 _ HS.out.draw).mono ?_
          rintro e u1 ⟨ys, R, yc, k, rfl, hR, hrow, hsm, hb⟩
          have HA : Hid (St w [(u1.heap.size, some ⟨R, 0, none⟩, ys, yc)] l2 c2 a2 (u1.alloc (.cells #[.slice (some ⟨R, 0, none⟩) ys.length yc] 25))) := (HS.out.on hb).lay _ _ _ (hrow.sl hrow.lt)
          have hy2 := hsm.2.1
          clear HS hb hrow hsm hR
          obtain ⟨F, okF, TFS, TFI, hFno, hFyes⟩ := finish_tells ys k (by omega)
          obtain ⟨G, okG, TGS, TGI, hGno, hGyes⟩ := reset_tells ys k (by omega)
          obtain ⟨l, okl, TOS, TOI, hll, hlo⟩ := open_tells ys (by omega)
          have hFl : F.length ≤ 1048576 := by
            cases okF
            · rw [hFno rfl]; simp
            · obtain ⟨-, n, hn, -, -, rfl⟩ := hFyes rfl
              rw [List.length_set]; omega
          have hGl : G.length ≤ 1048576 := by
            cases okG
            · rw [hGno rfl]; simp
            · obtain ⟨-, n, hn, -, rfl⟩ := hGyes rfl
              rw [List.length_set]; omega
          have HF : Hid _ := hFyes
          have HLO : Hid _ := hlo
          clear hFno hFyes hGno hGyes hlo
          generalize hW : u1.alloc (.cells #[.slice (some ⟨R, 0, none⟩) ys.length yc] 25) = u2 at HA
          generalize hX : u1.heap.size = Y1 at HA
          generalize some (⟨R, 0, none⟩ : Addr) = yb at *
          have q1 := HA.out.cell Y1 yb ys yc (by simp)
          go_wp2_with fail
          clear hW hX q1
          refine (TFI _ _ _ (HA.out.zs Y1 yb ys yc (by simp))).mono ?_
          rintro e u3 ⟨fb, fc, rfl, ho, hb⟩
          have HB : Hid (St w [(u3.heap.size, fb, F, fc), (Y1, yb, ys, yc)] l2 c2 a2 (u3.alloc (.cells #[.slice fb F.length fc] 25))) := (HA.out.on hb).lay _ _ _ ho.zs
          clear hb ho HA
          generalize hW : u3.alloc (.cells #[.slice fb F.length fc] 25) = u4 at HB
          generalize hX : u3.heap.size = Y2 at HB
          have q1 := HB.out.cell Y1 yb ys yc (by simp)
          go_wp2_with fail
          clear hW hX q1
          refine (TFS _ _ _ (HB.out.zs Y1 yb ys yc (by simp))).mono ?_
          rintro e u5 ⟨gb, gc, rfl, ho, hb⟩
          have HC : Hid (St w [(u5.heap.size, gb, F, gc), (Y2, fb, F, fc), (Y1, yb, ys, yc)] l2 c2 a2 (u5.alloc (.cells #[.slice gb F.length gc] 25))) := (HB.out.on hb).lay _ _ _ ho.zs
          clear hb ho HB
          generalize hW : u5.alloc (.cells #[.slice gb F.length gc] 25) = u6 at HC
          generalize hX : u5.heap.size = Y3 at HC
          have q1 := HC.out.cell Y1 yb ys yc (by simp)
          go_wp2_with fail
          clear hW hX q1
          refine (TGI _ _ _ (HC.out.zs Y1 yb ys yc (by simp))).mono ?_
          rintro e u7 ⟨ib, ic, rfl, ho, hb⟩
          have HD : Hid (St w [(u7.heap.size, ib, G, ic), (Y3, gb, F, gc), (Y2, fb, F, fc), (Y1, yb, ys, yc)] l2 c2 a2 (u7.alloc (.cells #[.slice ib G.length ic] 25))) := (HC.out.on hb).lay _ _ _ ho.zs
          clear hb ho HC
          generalize hW : u7.alloc (.cells #[.slice ib G.length ic] 25) = u8 at HD
          generalize hX : u7.heap.size = Y4 at HD
          have q1 := HD.out.cell Y1 yb ys yc (by simp)
          go_wp2_with fail
          clear hW hX q1
          refine (TGS _ _ _ (HD.out.zs Y1 yb ys yc (by simp))).mono ?_
          rintro e u9 ⟨jb, jc, rfl, ho, hb⟩
          have HE : Hid (St w [(u9.heap.size, jb, G, jc), (Y4, ib, G, ic), (Y3, gb, F, gc), (Y2, fb, F, fc), (Y1, yb, ys, yc)] l2 c2 a2 (u9.alloc (.cells #[.slice jb G.length jc] 25))) := (HD.out.on hb).lay _ _ _ ho.zs
          clear hb ho HD
          generalize hW : u9.alloc (.cells #[.slice jb G.length jc] 25) = v1 at HE
          generalize hX : u9.heap.size = Y5 at HE
          have q1 := HE.out.cell Y1 yb ys yc (by simp)
          go_wp2_with fail
          clear hW hX q1
          refine (TOI _ _ _ (HE.out.zs Y1 yb ys yc (by simp))).mono ?_
          rintro e v2 ⟨ob, oc, rfl, hoi, hb⟩
          have HG : Hid (St w [(Y5, jb, G, jc), (Y4, ib, G, ic), (Y3, gb, F, gc), (Y2, fb, F, fc), (Y1, yb, ys, yc)] l2 c2 a2 v2 ∧ OwnI v1.heap.size v2.heap.size ob l v2) := ⟨HE.out.on hb, hoi⟩
          have q1 := HG.out.1.cell Y1 yb ys yc (by simp)
          clear HE hb hoi
          go_wp2_with fail
          clear q1
          refine (TOS _ _ _ (HG.out.1.zs Y1 yb ys yc (by simp))).mono ?_
          rintro e v3 ⟨pb, pc, rfl, hpi, hb⟩
          have HH : Hid (St w [(Y5, jb, G, jc), (Y4, ib, G, ic), (Y3, gb, F, gc), (Y2, fb, F, fc), (Y1, yb, ys, yc)] l2 c2 a2 v3 ∧ Is v3.heap.size ob l v3 ∧ Is v3.heap.size pb l v3) := ⟨HG.out.1.on hb, (HG.out.2.below hb).is, hpi.is⟩
          have q2 := HH.out.1.cell Y2 fb F fc (by simp)
          have q3 := HH.out.1.cell Y3 gb F gc (by simp)
          clear HG hb hpi
          go_wp2_with fail
          refine (sameDevice_same _ _ _ _ F _ hFl (HH.out.1.zs Y2 fb F fc (by simp)) (HH.out.1.zs Y3 gb F gc (by simp))).mono ?_
          rintro e v4 ⟨rfl, hb⟩
          have HI : Hid (St w [(Y5, jb, G, jc), (Y4, ib, G, ic), (Y3, gb, F, gc), (Y2, fb, F, fc), (Y1, yb, ys, yc)] l2 c2 a2 v4 ∧ Is v4.heap.size ob l v4 ∧ Is v4.heap.size pb l v4) := ⟨HH.out.1.on hb, (HH.out.2.1.below hb).mono hb.size, (HH.out.2.2.below hb).mono hb.size⟩
          have q2 := HI.out.1.cell Y4 ib G ic (by simp)
          have q3 := HI.out.1.cell Y5 jb G jc (by simp)
          clear HH hb
          go_wp2_with fail
          refine (sameDevice_same _ _ _ _ G _ hGl (HI.out.1.zs Y4 ib G ic (by simp)) (HI.out.1.zs Y5 jb G jc (by simp))).mono ?_
          rintro e v5 ⟨rfl, hb⟩
          have HJ : Hid (St w [(Y5, jb, G, jc), (Y4, ib, G, ic), (Y3, gb, F, gc), (Y2, fb, F, fc), (Y1, yb, ys, yc)] l2 c2 a2 v5 ∧ Is v5.heap.size ob l v5 ∧ Is v5.heap.size pb l v5) := ⟨HI.out.1.on hb, (HI.out.2.1.below hb).mono hb.size, (HI.out.2.2.below hb).mono hb.size⟩
          clear HI hb q2 q3
          go_wp2_with fail
          refine (sameInts_same _ _ _ _ l _ hll HJ.out.2.1 HJ.out.2.2).mono ?_
          rintro e v6 ⟨rfl, hb⟩
          have HM : Hid (St w [(Y5, jb, G, jc), (Y4, ib, G, ic), (Y3, gb, F, gc), (Y2, fb, F, fc), (Y1, yb, ys, yc)] l2 c2 a2 v6) := HJ.out.1.on hb
          clear HJ hb
          go_upto_if 233 with fail
          go_cut [] (fun wd => St w [] l2 c2 a2 wd)
          case first =>
            as_aux_lemma =>
              cases okF
              · go_wp2_with fail
                go_meet
                case rel => exact HM.out.bare
              · obtain ⟨hth, n, hn, rfl, hop, rfl⟩ := HF.out rfl
                obtain ⟨-, rfl⟩ := HLO.out hth.1
                have hgF := goodD_finish hth.1 n hn hop
                obtain ⟨l3, ok3, -, TO3, hl3, ho3⟩ := open_tells (ys.set n ⟨ys[n].data, ys[n].sure, true⟩) (by rw [List.length_set]; omega)
                obtain ⟨rfl, hle⟩ := ho3 hgF
                have hnot : (n : Int) ∉ l3 := by rw [hle]; exact finish_not n hn
                have hlen : l3.length + 1 = (opens ys ys.length).length := by rw [hle]; exact finish_len n hn hop
                have HNOT : Hid ((n : Int) ∉ l3) := hnot
                have hlen' : ((l3.length : Int) == ((opens ys ys.length).length : Int) - 1) = true := by simp; omega
                have hlen2 : ((opens ys ys.length).length : Int) ≤ 1048576 := by omega
                have hlen3 : (1 : Int) ≤ ((opens ys ys.length).length : Int) := by omega
                have q2 := HM.out.cell Y2 fb _ fc (List.mem_cons_of_mem _ (List.mem_cons_of_mem _ (List.mem_cons_of_mem _ (List.mem_cons_self ..))))
                clear hle ho3 hgF hth hop hnot hlen HF HLO
                generalize (opens ys ys.length).length = m at *
                generalize ys.set n ⟨ys[n].data, ys[n].sure, true⟩ = F at *
                go_wp2_with fail
                refine (TO3 _ _ _ (HM.out.zs Y2 fb F fc (by simp))).mono ?_
                rintro e v7 ⟨hb1, hc1, rfl, hoi, hb⟩
                have HN : Hid (St w [(Y5, jb, G, jc), (Y4, ib, G, ic), (Y3, gb, F, gc), (Y2, fb, F, fc), (Y1, yb, ys, yc)] l2 c2 a2 v7 ∧ Is v7.heap.size hb1 l3 v7) := ⟨HM.out.on hb, hoi.is⟩
                clear HM hb hoi q2
                go_wp2_with fail
                refine (among_no _ _ l3 _ _ (by omega) HN.out.2 HNOT.out).mono ?_
                rintro e v8 ⟨rfl, rfl⟩
                go_wp2_with fail
                go_meet
                case rel => exact HN.out.1.bare
          case rest =>
            as_aux_lemma =>
              have HS : Hid (St w [] l2 c2 a2 wc) := hcut
              clear hcut HF HLO HM TFS TFI TGS TGI TOS TOI
              go_wp2_with fail
              refine (drawRead_any l2 c2 a2 _ HS.out.draw).mono ?_
              rintro e t1 ⟨xs, R, xc, k, x0, x1, rfl, hR, hrow, hsm, hb⟩
              have HA : Hid (St w [(t1.heap.size, some ⟨R, 0, none⟩, xs, xc)] l2 c2 a2 (t1.alloc (.cells #[.slice (some ⟨R, 0, none⟩) xs.length xc] 25))) := (HS.out.on hb).lay _ _ _ (hrow.sl hrow.lt)
              have hx2 := hsm.2.1
              clear HS hb hrow hsm hR
              obtain ⟨rs, okr, TRS, TRI⟩ := read_tells xs k x0 x1 (by omega)
              generalize hW : t1.alloc (.cells #[.slice (some ⟨R, 0, none⟩) xs.length xc] 25) = t2 at HA
              generalize hX : t1.heap.size = Z1 at HA
              generalize some (⟨R, 0, none⟩ : Addr) = xb at *
              have q1 := HA.out.cell Z1 xb xs xc (by simp)
              go_wp2_with fail
              clear hW hX q1
              refine (TRI _ _ _ (HA.out.zs Z1 xb xs xc (by simp))).mono ?_
              rintro e t3 ⟨rfl, hb⟩
              have HB : Hid (St w [(Z1, xb, xs, xc)] l2 c2 a2 t3) := HA.out.on hb
              have q1 := HB.out.cell Z1 xb xs xc (by simp)
              clear hb HA
              go_wp2_with fail
              clear q1
              refine (TRS _ _ _ (HB.out.zs Z1 xb xs xc (by simp))).mono ?_
              rintro e t4 ⟨rfl, hb⟩
              have HC : Hid (St w [] l2 c2 a2 t4) := (HB.out.on hb).bare
              clear hb HB
              go_wp2_with fail
              refine (drawNew_any l2 c2 a2 _ HC.out.draw).mono ?_
              rintro e t5 ⟨n, rfl, hb⟩
              have HD : Hid (St w [] l2 c2 a2 t5) := HC.out.on hb
              clear hb HC
              obtain ⟨M, okm, TNS, TNI, hMl⟩ := new_tells n
              go_wp2_with fail
              refine (TNI _).mono ?_
              rintro e t6 ⟨mb, mc, rfl, ho, hb⟩
              have HE : Hid (St w [(t6.heap.size, mb, M, mc)] l2 c2 a2 (t6.alloc (.cells #[.slice mb M.length mc] 25))) := (HD.out.on hb).lay _ _ _ ho.zs
              clear hb HD ho
              generalize hW : t6.alloc (.cells #[.slice mb M.length mc] 25) = t7 at HE
              generalize hX : t6.heap.size = Z2 at HE
              go_wp2_with fail
              clear hW hX
              refine (TNS _).mono ?_
              rintro e t8 ⟨nb, nc, rfl, ho, hb⟩
              have HG : Hid (St w [(t8.heap.size, nb, M, nc), (Z2, mb, M, mc)] l2 c2 a2 (t8.alloc (.cells #[.slice nb M.length nc] 25))) := (HE.out.on hb).lay _ _ _ ho.zs
              clear hb HE ho
              generalize hW : t8.alloc (.cells #[.slice nb M.length nc] 25) = t9 at HG
              generalize hX : t8.heap.size = Z3 at HG
              have q1 := HG.out.cell Z2 mb M mc (by simp)
              have q2 := HG.out.cell Z3 nb M nc (by simp)
              go_wp2_with fail
              clear hW hX
              refine (sameDevice_same _ _ _ _ M _ hMl (HG.out.zs Z2 mb M mc (by simp)) (HG.out.zs Z3 nb M nc (by simp))).mono ?_
              rintro e r1 ⟨rfl, hb⟩
              have HH : Hid (Below w.heap.size w r1) := (HG.out.on hb).below
              clear hb HG
              go_wp2_with fail
              go_ret
              exact ⟨rfl, HH.out⟩
set_option maxHeartbeats 400000 in
theorem zones_big (l1 c1 l2 c2 : Nat) (a1 a2 : Option Addr) (w : World) (h1 : l1 ≤ 4611686018427387903) (h2 : l2 ≤ 4611686018427387903) (h12 : ¬ l1 + l2 ≤ 1048576) :
    Calls Try.prog 3 #[.slice a1 l1 c1, .slice a2 l2 c2] w fun e w' => e = .returned (.bool true) ∧ Below w.heap.size w w' := by
  have hd : decide ((1048576 : Int) < (l1 : Int) + (l2 : Int)) = true := by simp; omega
  go_enter Try.func3, Try.ntmps3
  go_wp2_with fail
  go_ret
  exact ⟨rfl, Below.refl _ _⟩
end Go.Proofs.Yteofdaecknlkdaa
