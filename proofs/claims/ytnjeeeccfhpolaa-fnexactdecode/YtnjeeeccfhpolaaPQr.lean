/- The program's reduce over packets. -/
import Derived.Test.YtnjeeeccfhpolaaPQk
namespace Go.Proofs.Ytnjeeeccfhpolaa
set_option maxRecDepth 100000
open Go Go.ChangeShapes Go.WideShapes Go.ChangeAt Go.RowKit
set_option maxHeartbeats 3000000 in
theorem redP_any (z n : Nat) (a : Option Addr) (cap : Nat) (p : List Pk) (w : World) (h2 : n ≤ 10) (hz : z ≤ 400) (hp : p.length ≤ 1000) (hok : ∀ x ∈ p, okP z x) (hZ : Ps w.heap.size a p w) :
    Calls Try.prog 56 #[.int .i64 n, .slice a p.length cap, .func (.func 46) #[] #[], .func (.func 57) #[] #[]] w fun e w' => ∃ tv lv, e = .returned (.tuple #[tv, lv]) ∧ GL KP w.heap.size tv (redP n p).1 w' ∧ GL KP w.heap.size lv (redP n p).2 w' ∧ Apart tv lv ∧ Below w.heap.size w w' := by
  have g0 := boxB w (.cells #[.func (.func 46) #[] #[]] 62)
  have k0 := heap_last w (.cells #[.func (.func 46) #[] #[]] 62)
  have z0 := heap_size w (.cells #[.func (.func 46) #[] #[]] 62)
  generalize hW0 : w.alloc (.cells #[.func (.func 46) #[] #[]] 62) = w0 at *
  have HC := hid (cloneP_any a cap p w0 (by omega) ((hZ.below g0).mono g0.size))
  have HOK := hid hok
  have HG0 := hid g0
  have HK0 := hid k0
  have HZ0 := hid z0
  clear hZ hok g0 k0 z0
  go_enter Try.func56, Try.ntmps56
  go_wp2_with fail
  refine HC.out.mono ?_
  rintro e w1 ⟨lv0, rfl, o1, g1⟩
  have gB := boxB w1 (.cells #[.int .i64 ((n : Int) - 1)] 3)
  have kB := heap_last w1 (.cells #[.int .i64 ((n : Int) - 1)] 3)
  generalize hW2 : w1.alloc (.cells #[.int .i64 ((n : Int) - 1)] 3) = w2 at *
  have HI0 : Hid (PJ z n p w w0.heap.size w.heap.size n (.slice none 0 0) lv0 [] p w1.heap.size w2) := by
    have hz0 := HZ0.out
    have hs1 := g1.size
    exact ⟨Nat.le_refl _, rfl, GL.nil _ _ _, o1.below gB, Apart.nil _, (fun x h => by cases h), HOK.out, by simp, HG0.out.trans ((g1.trans (gB.mono g1.size)).mono HG0.out.size), (gB.block _ (by omega)).trans ((g1.block _ (by omega)).trans HK0.out), kB, (fun k hk => by simp [Value.ownBlock] at hk), (fun k hk => by have := (o1.lt k hk).2; omega), by omega⟩
  have HLO : Hid (w0.heap.size = w.heap.size + 1) := HZ0.out
  clear HC HOK HK0 HZ0 HG0 o1 g1 gB kB
  go_wp2_with fail
  go_loopw [10, 11, 12] (fun t l x wr => ∃ (b : Nat) (tv lv : Value) (T L : List Pk) (BB : Nat), x = .pointer (some ⟨BB, 0, none⟩) ∧ t = tv ∧ l = lv ∧ PJ z n p w w0.heap.size w.heap.size b tv lv T L BB wr) (fun _ _ x wr => (boxN x wr + 1).toNat)
  case atStart => exact ⟨n, _, _, _, _, _, rfl, rfl, rfl, HI0.out⟩
  case round =>
    clear HI0
    rename World => wo
    obtain ⟨b, tv, lv, T, L, BB, rfl, htv, hlv, hI⟩ := hrel
    obtain rfl := htv.symm
    obtain rfl := hlv.symm
    have HI := hid hI
    have b0 : wo.cell? ⟨BB, 0, none⟩ = some (.int .i64 ((b : Int) - 1)) := box_cell hI.bb 0
    have HMS : Hid (boxN (.pointer (some ⟨BB, 0, none⟩)) wo = (b : Int) - 1) := boxN_at hI.bb
    cases b with
    | zero =>
      clear hI
      go_wp2_with fail
      go_ret2
      have h := HI.out
      have e : (T, L) = redP n p := h.red
      have hlo := HLO.out
      exact ⟨_, _, rfl, by rw [← e]; exact h.gt.mono (by omega), by rw [← e]; exact h.gl.mono (by omega), h.ap, h.be⟩
    | succ c =>
      have e1 : (((c + 1 : Nat) : Int) - 1) = (c : Int) := by omega
      rw [e1] at b0
      have hc10 : c < 10 := by have := hI.bn; omega
      have hLn : L.length ≤ 1000 := by have := hI.len; omega
      have hTn : T.length ≤ 1000 := by have := hI.len; omega
      obtain ⟨ta, tc, rfl, oT, -⟩ := hI.gt.pks
      obtain ⟨la, lc, rfl, oL, -⟩ := hI.gl.pks
      have hbm : wo.cell? ⟨w.heap.size, 0, none⟩ = some (.func (.func 46) #[] #[]) := box_cell hI.bm 0
      have HIX := hid (indexP_has w.heap.size BB la lc L (hasP c) wo (by omega) (fun v x hx g => hasP_any z w.heap.size BB x c v (hI.ol x hx) (by omega) (Nat.lt_of_lt_of_le (kbox hI.bm) g.size) (Nat.lt_of_lt_of_le (kbox hI.bb) g.size) (box_cell ((g.block _ (kbox hI.bm)).trans hI.bm) 0) (((g.cell (p := ⟨BB, 0, none⟩) (kbox hI.bb))).trans b0)) oL.ps)
      have HOL := hid oL
      clear hI oT oL e1 hbm
      go_wp2_with fail
      refine HIX.out.mono ?_
      rintro e w3 ⟨rfl, g3⟩
      have hI3 : PJ z n p w w0.heap.size w.heap.size (c + 1) (.slice ta T.length tc) (.slice la L.length lc) T L BB w3 := by
        have h := HI.out
        exact ⟨h.bn, h.red, h.gt.below g3, h.gl.below g3, h.ap, h.ot, h.ol, h.len, h.be.trans (g3.mono h.be.size), (g3.block _ (kbox h.bm)).trans h.bm, (g3.block _ (kbox h.bb)).trans h.bb, h.nt, h.nl, h.wb⟩
      have HI3 := hid hI3
      have hb3 : w3.cell? ⟨BB, 0, none⟩ = some (.int .i64 (c : Int)) := (g3.cell (p := ⟨BB, 0, none⟩) (kbox HI.out.bb)).trans b0
      clear HIX b0 g3
      by_cases hx : L.findIdx (hasP c) < L.length
      · have hk1 : hasP c L[L.findIdx (hasP c)] = true := List.findIdx_getElem
        have hk2 : ∀ j (hj : j < L.length), j < L.findIdx (hasP c) → hasP c L[j] = false := fun j hj h => by
          simpa using List.not_of_lt_findIdx h
        generalize hkk : L.findIdx (hasP c) = k at *
        rw [ixG_yes hx hk1 hk2]
        have HST := hid (stepG_some hasP unP c T L k hx hk1 hk2)
        have HSA := hid (stepG_all hasP unP (okP z) (fun x y h1 h2 => h1.un h2) c (T, L) hI3.ot hI3.ol)
        have HSL := hid (stepG_len hasP unP c (T, L))
        rw [HST.out] at HSA HSL
        have HOX := hid (hI3.ol L[k] (List.getElem_mem hx))
        have HO1 : Hid (∀ y ∈ L.eraseIdx k, okP z y) := fun y hy => hI3.ol y (List.mem_of_mem_eraseIdx hy)
        have HOT := hid hI3.ot
        have hL1 : (L.eraseIdx k).length ≤ 1000 := Nat.le_trans (List.length_eraseIdx_le L k) hLn
        obtain ⟨b', c', eb, ob, -⟩ := hI3.gl.pks
        obtain ⟨R, hR1, hR2, e2, x0, x1, -, -⟩ := ob.cells k hx
        obtain rfl : la = some ⟨R, 0, none⟩ := by injection eb with eb _ _; rw [eb, e2]
        have gX := boxB w3 (.cells #[.int .i64 L[k].ms, .string L[k].tx] 28)
        have kX := heap_last w3 (.cells #[.int .i64 L[k].ms, .string L[k].tx] 28)
        have zX := heap_size w3 (.cells #[.int .i64 L[k].ms, .string L[k].tx] 28)
        have hIX : PJ z n p w w0.heap.size w.heap.size (c + 1) (.slice ta T.length tc) (.slice (some ⟨R, 0, none⟩) L.length lc) T L BB (w3.alloc (.cells #[.int .i64 L[k].ms, .string L[k].tx] 28)) := by
          have h := hI3
          exact ⟨h.bn, h.red, h.gt.below gX, h.gl.below gX, h.ap, h.ot, h.ol, h.len, h.be.trans (gX.mono h.be.size), (gX.block _ (kbox h.bm)).trans h.bm, (gX.block _ (kbox h.bb)).trans h.bb, h.nt, h.nl, h.wb⟩
        have HIX := hid hIX
        have HKX := hid kX
        have HZX := hid zX
        have HDL := hid (delP_any w0.heap.size R lc L k _ hIX.gl hx (by omega))
        clear gX kX zX hIX
        generalize hWX : w3.alloc (.cells #[.int .i64 L[k].ms, .string L[k].tx] 28) = wx at *
        have hdk : decide ((k : Int) < 0) = false := decide_eq_false (by omega)
        generalize L[k] = x at *
        generalize L.eraseIdx k = L1 at *
        clear hk1 hk2 hkk eb ob e2 hI3
        go_wp2_with fail
        refine HDL.out.mono ?_
        rintro e w4 ⟨rfl, o4, g4⟩
        have hbw : Below w.heap.size wx w4 := ⟨g4.os, g4.tape, g4.output, g4.size, fun q hq => g4.block q (by have := HIX.out.be.size; omega) (fun e => by injection e with e; have := HLO.out; omega)⟩
        have gz := boxB w4 (.cells #[.slice ta T.length tc, .slice (some ⟨R, 0, none⟩) L1.length lc] 36)
        have kz := heap_last w4 (.cells #[.slice ta T.length tc, .slice (some ⟨R, 0, none⟩) L1.length lc] 36)
        have HRS : Hid (PS w w0.heap.size w.heap.size BB w4.heap.size w3.heap.size (.slice ta T.length tc) (.slice (some ⟨R, 0, none⟩) L1.length lc)) := by
          have h := HI3.out
          have hlo := HLO.out
          have hs4 := g4.size
          have hzx := HZX.out
          exact ⟨fun q j hq hj => h.ap q j hq hj, by omega, by omega, fun q hq => ⟨h.nt q hq, by have := (h.gt.lt q hq).2; omega, by have := (h.gt.lt q hq).2; omega⟩, fun q hq => ⟨h.nl q hq, by have := (h.gl.lt q hq).2; omega, by have := (h.gl.lt q hq).2; omega⟩⟩
        have HK : Hid (PK w w0.heap.size w.heap.size BB w4.heap.size w3.heap.size c x (.slice ta T.length tc) (.slice (some ⟨R, 0, none⟩) L1.length lc) T L1 (w4.alloc (.cells #[.slice ta T.length tc, .slice (some ⟨R, 0, none⟩) L1.length lc] 36))) := by
          have h := HIX.out
          have hRX : w3.heap.size ≠ R := by have := (HI3.out.gl.lt R rfl).2; omega
          have hlo := HLO.out
          have e1 : (((c + 1 : Nat) : Int) - 1) = (c : Int) := by omega
          have hbb := h.bb
          rw [e1] at hbb
          have kk : ∀ q, q < wx.heap.size → q ≠ R → w4.heap[q]? = wx.heap[q]? := fun q h1 h2 => g4.block q h1 (fun e => by injection e with e; exact h2 e)
          exact ⟨(h.gt.keep (fun q hq => kk q (h.gt.lt q hq).2 (fun e => h.ap q R hq rfl e))).below gz, o4.below gz, (gz.block _ (by have := kbox h.bm; have := g4.size; omega)).trans ((kk _ (kbox h.bm) (by omega)).trans h.bm), (gz.block _ (by have := kbox h.bb; have := g4.size; omega)).trans ((kk _ (kbox h.bb) (fun e => h.nl R rfl e.symm)).trans hbb), kz, (gz.block _ (by have := kbox HKX.out; have := g4.size; omega)).trans ((kk _ (kbox HKX.out) hRX).trans HKX.out), (h.be.trans hbw).trans (gz.mono (Nat.le_trans h.be.size g4.size))⟩
        generalize hW5 : w4.alloc (.cells #[.slice ta T.length tc, .slice (some ⟨R, 0, none⟩) L1.length lc] 36) = w5 at *
        clear HDL o4 g4 hbw gz kz x0 x1 hb3 hWX
        go_wp2_with fail
        go_loopw [47] (fun i wr => ∃ q : Nat, q ≤ 2 ∧ i = .int .i64 q ∧ PK w w0.heap.size w.heap.size BB w4.heap.size w3.heap.size c x (.slice ta T.length tc) (.slice (some ⟨R, 0, none⟩) L1.length lc) (selz (decide (1 ≤ q)) (lessP c x) T) (selz (decide (2 ≤ q)) (lessP c x) L1) wr) (fun i _ => 2 - (ivl i).toNat)
        case atStart => exact ⟨0, by omega, rfl, HK.out⟩
        case round =>
          clear HK hW5 w5
          rename World => wz
          obtain ⟨q, hq, rfl, hK⟩ := hrel
          by_cases hq2 : q < 2
          · obtain ⟨ca, cc, cl, st, hcur, hst0, hnext, hokc, hcell, hcln⟩ : ∃ (ca : Option Addr) (cc : Nat) (cl : List Pk) (st : List Pk → World → Prop), CurP w0.heap.size w.heap.size BB w3.heap.size c x ca cc cl.length st ∧ st cl wz ∧ (∀ wr', st (cl.map (lessP c x)) wr' → PK w w0.heap.size w.heap.size BB w4.heap.size w3.heap.size c x (.slice ta T.length tc) (.slice (some ⟨R, 0, none⟩) L1.length lc) (selz (decide (1 ≤ q + 1)) (lessP c x) T) (selz (decide (2 ≤ q + 1)) (lessP c x) L1) wr') ∧ (∀ y ∈ cl, okP z y) ∧ wz.cell? ⟨w4.heap.size, q, none⟩ = some (.slice ca cl.length cc) ∧ cl.length ≤ 1000 := by
              rcases (show q = 0 ∨ q = 1 by omega) with rfl | rfl
              · exact ⟨ta, tc, T, _, curTP (L := L1) HRS.out, hK, fun wr' h => h, HOT.out, box_cell hK.bz 0, hTn⟩
              · exact ⟨_, lc, L1, _, curLP (T := T.map (lessP c x)) HRS.out, hK, fun wr' h => h, HO1.out, box_cell hK.bz 1, hL1⟩
            have HCUR := hid hcur
            have HS0 := hid hst0
            have HNX := hid hnext
            have HOC := hid hokc
            have hdq : decide ((q : Int) < 2) = true := decide_eq_true (by omega)
            clear hcur hst0 hnext hokc hK
            go_wp2_with fail
            go_loopw [53] (fun i wr2 => ∃ j : Nat, j ≤ cl.length ∧ i = .int .i64 j ∧ st (mixed (lessP c x) cl j) wr2) (fun i _ => cl.length - (ivl i).toNat)
            case atStart => exact ⟨0, Nat.zero_le _, rfl, by rw [mixed_zero]; exact HS0.out⟩
            case round =>
              clear HS0 hcell
              rename World => wi
              obtain ⟨j, hj, rfl, hs⟩ := hrel
              have HS := hid hs
              by_cases hlt : j < cl.length
              · obtain ⟨b', c', eb, ob, -⟩ := (HCUR.out.gl _ _ hs).pks
                obtain ⟨R', hq1, hq2', e2, c0, c1, f0, f1⟩ := ob.cells j (by rw [mixed_len]; exact hlt)
                rw [mixed_at _ cl j hlt] at c0 c1
                obtain rfl : ca = some ⟨R', 0, none⟩ := by injection eb with eb _ _; rw [eb, e2]
                have HOY := hid (HOC.out cl[j] (List.getElem_mem hlt))
                have HMS2 := hid (mixed_set (lessP c x) cl j hlt)
                have HMS3 := hid (mixed_same (lessP c x) cl j hlt)
                have HLY : Hid (hasP c cl[j] = true → lessP c x cl[j] = unP cl[j] x) := fun e => by unfold lessP lessG; rw [e]; rfl
                have HLN : Hid (hasP c cl[j] = false → lessP c x cl[j] = cl[j]) := fun e => by unfold lessP lessG; rw [e]; rfl
                generalize cl[j] = m at *
                have gM := boxB wi (.cells #[.int .i64 m.ms, .string m.tx] 28)
                have kM := heap_last wi (.cells #[.int .i64 m.ms, .string m.tx] 28)
                generalize hWM : wi.alloc (.cells #[.int .i64 m.ms, .string m.tx] 28) = wj at *
                have hsj : st (mixed (lessP c x) cl j) wj := HCUR.out.below _ _ _ hs gM
                have HSJ := hid hsj
                have HHA := hid (hasP_any z w.heap.size BB m c wj HOY.out (by omega) (kbox (HCUR.out.bm _ _ hsj)) (kbox (HCUR.out.bb _ _ hsj)) (box_cell (HCUR.out.bm _ _ hsj) 0) (box_cell (HCUR.out.bb _ _ hsj) 0))
                have HUN := hid (fun v => unlikePackets_any z m x v (by omega) HOY.out HOX.out)
                have q0 : wj.cell? ⟨wi.heap.size, 0, none⟩ = some (.int .i64 m.ms) := box_cell kM 0
                have q1 : wj.cell? ⟨wi.heap.size, 1, none⟩ = some (.string m.tx) := box_cell kM 1
                have HGM := hid gM
                have HKM := hid kM
                have hkw := kbox kM
                clear eb ob e2 hs HS hsj gM kM
                go_wp2_with fail
                refine HHA.out.mono ?_
                rintro e w6 ⟨rfl, g6⟩
                have hs6 := HCUR.out.below _ _ _ HSJ.out g6
                have HS6 := hid hs6
                have HB6 : Hid (Below wi.heap.size wi w6) := HGM.out.trans (g6.mono HGM.out.size)
                have u0 : w6.cell? ⟨wi.heap.size, 0, none⟩ = some (.int .i64 m.ms) := (g6.cell (p := ⟨wi.heap.size, 0, none⟩) hkw).trans q0
                have u1 : w6.cell? ⟨wi.heap.size, 1, none⟩ = some (.string m.tx) := (g6.cell (p := ⟨wi.heap.size, 1, none⟩) hkw).trans q1
                have v0 : w6.cell? ⟨w3.heap.size, 0, none⟩ = some (.int .i64 x.ms) := box_cell (HCUR.out.bx _ _ hs6) 0
                have v1 : w6.cell? ⟨w3.heap.size, 1, none⟩ = some (.string x.tx) := box_cell (HCUR.out.bx _ _ hs6) 1
                clear HHA g6 hs6 q0 q1
                cases hh : hasP c m
                · have HS7 : Hid (st (mixed (lessP c x) cl (j + 1)) w6) := by show st _ _; rw [HMS3.out (HLN.out hh)]; exact HS6.out
                  clear hh u0 u1 v0 v1 c0 c1 f0 f1
                  go_wp2_with fail
                  go_roundw
                  case rel => exact ⟨j + 1, by omega, by go_num, HS7.out⟩
                  case measure => simp [ivl]; omega
                · have HLE := hid (HLY.out hh)
                  clear hh hWM
                  go_wp2_with fail
                  refine (HUN.out _).mono ?_
                  rintro e w7 ⟨rfl, g7⟩
                  have HB7 := HB6.out.trans (g7.mono HB6.out.size)
                  have n0 := (HB7.cell (p := ⟨R', j * 2, none⟩) hq2').trans c0
                  have n1 := (HB7.cell (p := ⟨R', j * 2 + 1, none⟩) hq2').trans c1
                  have n2 := (HB7.frozen (p := ⟨R', j * 2, none⟩) hq2').trans f0
                  have n3 := (HB7.frozen (p := ⟨R', j * 2 + 1, none⟩) hq2').trans f1
                  have HS7 : Hid (st (mixed (lessP c x) cl (j + 1)) ((w7.setCell ⟨R', j * 2, none⟩ (.int .i64 (unP m x).ms)).setCell ⟨R', j * 2 + 1, none⟩ (.string (unP m x).tx))) := by
                    show st _ _
                    rw [← HMS2.out, HLE.out]
                    exact HCUR.out.set R' _ _ j _ rfl (mixed_len _ _ _) (HCUR.out.below _ _ _ HS6.out g7)
                  clear g7 HB7 u0 u1 v0 v1 c0 c1 f0 f1
                  go_wp2_with fail
                  go_roundw
                  case rel => exact ⟨j + 1, by omega, by go_num, HS7.out⟩
                  case measure => simp [ivl]; omega
              · obtain rfl : j = cl.length := by omega
                rw [mixed_end] at hs
                have HNX2 := hid (HNX.out _ hs)
                clear hs HS
                go_wp2_with fail
                go_roundw
                case rel => exact ⟨q + 1, by omega, by go_num, HNX2.out⟩
                case measure => simp [ivl]; omega
          · obtain rfl : q = 2 := by omega
            have hK' : PK w w0.heap.size w.heap.size BB w4.heap.size w3.heap.size c x (.slice ta T.length tc) (.slice (some ⟨R, 0, none⟩) L1.length lc) (T.map (lessP c x)) (L1.map (lessP c x)) wz := hK
            have hlz : w0.heap.size ≤ wz.heap.size := by have := kbox hK'.bm; have := HLO.out; omega
            obtain ⟨v', w', r1, o2, g3, g4, g5, g6⟩ := hK'.gt.pushP hlz x (by rw [List.length_map]; omega)
            have gb := boxB wz (.cells #[.int .i64 x.ms, .string x.tx] 28)
            have t0 : wz.cell? ⟨w3.heap.size, 0, none⟩ = some (.int .i64 x.ms) := box_cell hK'.bx 0
            have t1 : wz.cell? ⟨w3.heap.size, 1, none⟩ = some (.string x.tx) := box_cell hK'.bx 1
            have kk : ∀ i, i < wz.heap.size → (Value.slice ta T.length tc).ownBlock ≠ some i → w'.heap[i]? = wz.heap[i]? := fun i h1 h2 => (g5.block i (Nat.lt_of_lt_of_le h1 gb.size) (fun e => h2 e.symm)).trans (gb.block i h1)
            have hlo := HLO.out
            have hbm' : w'.heap[w.heap.size]? = some (.cells #[.func (.func 46) #[] #[]] 62) := (kk _ (kbox hK'.bm) (fun e => by have := (hK'.gt.lt _ e).1; omega)).trans hK'.bm
            have hbb' : w'.heap[BB]? = some (.cells #[.int .i64 (c : Int)] 3) := (kk _ (kbox hK'.bb) (fun e => (HRS.out.nt _ e).1 rfl)).trans hK'.bb
            have hb6 : w'.cell? ⟨BB, 0, none⟩ = some (.int .i64 (c : Int)) := box_cell hbb' 0
            have hgl' : GL KP w0.heap.size (.slice (some ⟨R, 0, none⟩) L1.length lc) (L1.map (lessP c x)) w' := hK'.gl.keep (fun i hi => kk i (hK'.gl.lt i hi).2 (fun e => HRS.out.ap i i e hi rfl))
            have hap' : Apart v' (.slice (some ⟨R, 0, none⟩) L1.length lc) := fun i j hi hj e => by
              subst e
              have hj1 := hK'.gl.lt i hj
              rcases g6 with g6 | g6
              · rw [hi] at g6
                exact HRS.out.ap i i g6.symm hj rfl
              · rw [hi] at g6
                injection g6 with g6
                omega
            have HN : Hid (PJ z n p w w0.heap.size w.heap.size c v' (.slice (some ⟨R, 0, none⟩) L1.length lc) (T.map (lessP c x) ++ [x]) (L1.map (lessP c x)) w'.heap.size (w'.alloc (.cells #[.int .i64 ((c : Int) - 1)] 3))) :=
              HIX.out.next rfl _ _ _ _ o2 hgl' hap' HSA.out.1 HSA.out.2 (HSL.out.trans HIX.out.len) HST.out (hK'.be.trans (g3.mono (by omega))) hbm'
            clear hK hK' o2 g3 g4 g5 g6 gb kk hbm' hbb' hgl' hap' hlz hlo HSA HSL HST
            go_wp2_with (at_builtin; refine wpList_append_run rfl (.tmp 70) (.tmp 72) 36 rfl _ _ rfl rfl _ _ r1 ?_)
            go_roundw
            case rel => exact ⟨c, _, _, _, _, _, rfl, rfl, rfl, HN.out⟩
            case measure =>
              rw [HMS.out, boxN_at HN.out.bb]
              omega
      · have hall : ∀ j (hj : j < L.length), hasP c L[j] = false := fun j hj => by
          have e := List.findIdx_eq_length.1 (Nat.le_antisymm List.findIdx_le_length (Nat.le_of_not_lt hx))
          exact e _ (List.getElem_mem hj)
        rw [ixG_no hall]
        have HN : Hid (PJ z n p w w0.heap.size w.heap.size c (.slice ta T.length tc) (.slice la L.length lc) T L w3.heap.size (w3.alloc (.cells #[.int .i64 ((c : Int) - 1)] 3))) := by
          refine hI3.next rfl T L _ _ hI3.gt hI3.gl hI3.ap hI3.ot hI3.ol hI3.len ?_
          rw [stepG_none hasP unP c T L (fun x hx => by
                obtain ⟨i, hi, rfl⟩ := List.getElem_of_mem hx
                exact hall i hi)]
        clear hall hx hI3
        go_wp2_with fail
        go_roundw
        case rel => exact ⟨c, _, _, T, L, _, rfl, rfl, rfl, HN.out⟩
        case measure =>
          rw [HMS.out, boxN_at HN.out.bb]
          omega
end Go.Proofs.Ytnjeeeccfhpolaa
