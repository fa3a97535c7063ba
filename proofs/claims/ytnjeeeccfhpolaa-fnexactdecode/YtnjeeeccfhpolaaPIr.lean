/- The program's reduce over masks. -/
import Derived.Test.YtnjeeeccfhpolaaPRk
namespace Go.Proofs.Ytnjeeeccfhpolaa
set_option maxRecDepth 100000
open Go Go.ChangeShapes Go.WideShapes Go.ChangeAt Go.RowKit
set_option maxHeartbeats 3000000 in
theorem redI_any (n : Nat) (a : Option Addr) (cap : Nat) (p : List Int) (w : World) (h2 : n ≤ 10) (hp : p.length ≤ 1000) (hok : ∀ x ∈ p, okI x) (hZ : Is w.heap.size a p w) :
    Calls Try.prog 53 #[.int .i64 n, .slice a p.length cap, .func (.func 54) #[] #[], .func (.func 55) #[] #[]] w fun e w' => ∃ tv lv, e = .returned (.tuple #[tv, lv]) ∧ GL KI w.heap.size tv (redI n p).1 w' ∧ GL KI w.heap.size lv (redI n p).2 w' ∧ Apart tv lv ∧ Below w.heap.size w w' := by
  have g0 := boxB w (.cells #[.func (.func 54) #[] #[]] 71)
  have k0 := heap_last w (.cells #[.func (.func 54) #[] #[]] 71)
  have z0 := heap_size w (.cells #[.func (.func 54) #[] #[]] 71)
  generalize hW0 : w.alloc (.cells #[.func (.func 54) #[] #[]] 71) = w0 at *
  have HC := hid (cloneI_any a cap p w0 (by omega) ((hZ.below g0).mono g0.size))
  have HOK := hid hok
  have HG0 := hid g0
  have HK0 := hid k0
  have HZ0 := hid z0
  clear hZ hok g0 k0 z0
  go_enter Try.func53, Try.ntmps53
  go_wp2_with fail
  refine HC.out.mono ?_
  rintro e w1 ⟨lv0, rfl, o1, g1⟩
  have gB := boxB w1 (.cells #[.int .i64 ((n : Int) - 1)] 3)
  have kB := heap_last w1 (.cells #[.int .i64 ((n : Int) - 1)] 3)
  generalize hW2 : w1.alloc (.cells #[.int .i64 ((n : Int) - 1)] 3) = w2 at *
  have HI0 : Hid (RJ n p w w0.heap.size w.heap.size n (.slice none 0 0) lv0 [] p w1.heap.size w2) := by
    have hz0 := HZ0.out
    have hs1 := g1.size
    exact ⟨Nat.le_refl _, rfl, GL.nil _ _ _, o1.below gB, Apart.nil _, (fun x h => by cases h), HOK.out, by simp, HG0.out.trans ((g1.trans (gB.mono g1.size)).mono HG0.out.size), (gB.block _ (by omega)).trans ((g1.block _ (by omega)).trans HK0.out), kB, (fun k hk => by simp [Value.ownBlock] at hk), (fun k hk => by have := (o1.lt k hk).2; omega), by omega⟩
  have HLO : Hid (w0.heap.size = w.heap.size + 1) := HZ0.out
  clear HC HOK HK0 HZ0 HG0 o1 g1 gB kB
  go_wp2_with fail
  go_loopw [10, 11, 12] (fun t l x wr => ∃ (b : Nat) (tv lv : Value) (T L : List Int) (BB : Nat), x = .pointer (some ⟨BB, 0, none⟩) ∧ t = tv ∧ l = lv ∧ RJ n p w w0.heap.size w.heap.size b tv lv T L BB wr) (fun _ _ x wr => (boxN x wr + 1).toNat)
  case atStart => exact ⟨n, _, _, _, _, _, rfl, rfl, rfl, HI0.out⟩
  case round =>
    clear HI0
    rename World => wo
    obtain ⟨b, tv, lv, T, L, BB, rfl, htv, hlv, hI⟩ := hrel
    obtain rfl := htv.symm
    obtain rfl := hlv.symm
    have HI := hid hI
    have b0 : wo.cell? ⟨BB, 0, none⟩ = some (.int .i64 ((b : Int) - 1)) := box_cell hI.bb 0
    have HMS : Hid (boxN (.pointer (some ⟨BB, 0, none⟩)) wo = (b : Int) - 1) := boxN_at hI.bb
    cases b with
    | zero =>
      clear hI
      go_wp2_with fail
      go_ret2
      have h := HI.out
      have e : (T, L) = redI n p := h.red
      have hlo := HLO.out
      exact ⟨_, _, rfl, by rw [← e]; exact h.gt.mono (by omega), by rw [← e]; exact h.gl.mono (by omega), h.ap, h.be⟩
    | succ c =>
      have e1 : (((c + 1 : Nat) : Int) - 1) = (c : Int) := by omega
      rw [e1] at b0
      have hc10 : c < 10 := by have := hI.bn; omega
      have hLn : L.length ≤ 1000 := by have := hI.len; omega
      have hTn : T.length ≤ 1000 := by have := hI.len; omega
      obtain ⟨ta, tc, rfl, oT, -⟩ := hI.gt.ints
      obtain ⟨la, lc, rfl, oL, -⟩ := hI.gl.ints
      have hbm : wo.cell? ⟨w.heap.size, 0, none⟩ = some (.func (.func 54) #[] #[]) := box_cell hI.bm 0
      have HIX := hid (indexI_any w.heap.size BB la lc L c wo (by omega) hI.ol (by omega) (kbox hI.bm) (kbox hI.bb) hbm b0 oL.is)
      have HOL := hid oL
      clear hI oT oL e1 hbm
      go_wp2_with fail
      refine HIX.out.mono ?_
      rintro e w3 ⟨rfl, g3⟩
      have hI3 : RJ n p w w0.heap.size w.heap.size (c + 1) (.slice ta T.length tc) (.slice la L.length lc) T L BB w3 := by
        have h := HI.out
        exact ⟨h.bn, h.red, h.gt.below g3, h.gl.below g3, h.ap, h.ot, h.ol, h.len, h.be.trans (g3.mono h.be.size), (g3.block _ (kbox h.bm)).trans h.bm, (g3.block _ (kbox h.bb)).trans h.bb, h.nt, h.nl, h.wb⟩
      have HI3 := hid hI3
      have hb3 : w3.cell? ⟨BB, 0, none⟩ = some (.int .i64 (c : Int)) := (g3.cell (p := ⟨BB, 0, none⟩) (kbox HI.out.bb)).trans b0
      clear HIX b0 g3
      by_cases hx : L.findIdx (hasI c) < L.length
      · have hk1 : hasI c L[L.findIdx (hasI c)] = true := List.findIdx_getElem
        have hk2 : ∀ j (hj : j < L.length), j < L.findIdx (hasI c) → hasI c L[j] = false := fun j hj h => by
          simpa using List.not_of_lt_findIdx h
        generalize hkk : L.findIdx (hasI c) = k at *
        rw [ixI_yes hx hk1 hk2]
        have HST := hid (stepG_some hasI unI c T L k hx hk1 hk2)
        have HSA := hid (stepG_all hasI unI okI (fun x y h1 h2 => h1.un h2) c (T, L) hI3.ot hI3.ol)
        have HSL := hid (stepG_len hasI unI c (T, L))
        rw [HST.out] at HSA HSL
        have HOX := hid (hI3.ol L[k] (List.getElem_mem hx))
        have HO1 : Hid (∀ y ∈ L.eraseIdx k, okI y) := fun y hy => hI3.ol y (List.mem_of_mem_eraseIdx hy)
        have HOT := hid hI3.ot
        have hL1 : (L.eraseIdx k).length ≤ 1000 := Nat.le_trans (List.length_eraseIdx_le L k) hLn
        obtain ⟨b', c', eb, ob, -⟩ := hI3.gl.ints
        obtain ⟨R, hR1, hR2, e2, x0, -⟩ := ob.cells k hx
        obtain rfl : la = some ⟨R, 0, none⟩ := by injection eb with eb _ _; rw [eb, e2]
        have HDL := hid (delGL w0.heap.size R lc L k w3 hI3.gl hx)
        have hdk : decide ((k : Int) < 0) = false := decide_eq_false (by omega)
        generalize L[k] = x at *
        generalize L.eraseIdx k = L1 at *
        clear hk1 hk2 hkk eb ob e2 hI3
        go_wp2_with fail
        refine HDL.out.mono ?_
        rintro e w4 ⟨rfl, o4, g4⟩
        have hbw : Below w.heap.size w3 w4 := ⟨g4.os, g4.tape, g4.output, g4.size, fun q hq => g4.block q (by have := HI3.out.be.size; omega) (fun e => by injection e with e; have := HLO.out; omega)⟩
        have gz := boxB w4 (.cells #[.slice ta T.length tc, .slice (some ⟨R, 0, none⟩) L1.length lc] 40)
        have kz := heap_last w4 (.cells #[.slice ta T.length tc, .slice (some ⟨R, 0, none⟩) L1.length lc] 40)
        have HRS : Hid (RS w w0.heap.size w.heap.size BB w4.heap.size (.slice ta T.length tc) (.slice (some ⟨R, 0, none⟩) L1.length lc)) := by
          have h := HI3.out
          have hlo := HLO.out
          have hs4 := g4.size
          exact ⟨fun q j hq hj => h.ap q j hq hj, by omega, by omega, fun q hq => ⟨h.nt q hq, by have := (h.gt.lt q hq).2; omega⟩, fun q hq => ⟨h.nl q hq, by have := (h.gl.lt q hq).2; omega⟩⟩
        have HK : Hid (RK w w0.heap.size w.heap.size BB w4.heap.size c (.slice ta T.length tc) (.slice (some ⟨R, 0, none⟩) L1.length lc) T L1 (w4.alloc (.cells #[.slice ta T.length tc, .slice (some ⟨R, 0, none⟩) L1.length lc] 40))) := by
          have h := HI3.out
          have hlo := HLO.out
          have e1 : (((c + 1 : Nat) : Int) - 1) = (c : Int) := by omega
          have hbb := h.bb
          rw [e1] at hbb
          have kk : ∀ q, q < w3.heap.size → q ≠ R → w4.heap[q]? = w3.heap[q]? := fun q h1 h2 => g4.block q h1 (fun e => by injection e with e; exact h2 e)
          exact ⟨(h.gt.keep (fun q hq => kk q (h.gt.lt q hq).2 (fun e => h.ap q R hq rfl e))).below gz, o4.below gz, (gz.block _ (by have := kbox h.bm; have := g4.size; omega)).trans ((kk _ (kbox h.bm) (by omega)).trans h.bm), (gz.block _ (by have := kbox h.bb; have := g4.size; omega)).trans ((kk _ (kbox h.bb) (fun e => h.nl R rfl e.symm)).trans hbb), kz, (h.be.trans hbw).trans (gz.mono (Nat.le_trans h.be.size g4.size))⟩
        generalize hW5 : w4.alloc (.cells #[.slice ta T.length tc, .slice (some ⟨R, 0, none⟩) L1.length lc] 40) = w5 at *
        clear HDL o4 g4 hbw gz kz x0 hb3
        go_wp2_with fail
        go_loopw [47] (fun i wr => ∃ q : Nat, q ≤ 2 ∧ i = .int .i64 q ∧ RK w w0.heap.size w.heap.size BB w4.heap.size c (.slice ta T.length tc) (.slice (some ⟨R, 0, none⟩) L1.length lc) (selz (decide (1 ≤ q)) (lessI c x) T) (selz (decide (2 ≤ q)) (lessI c x) L1) wr) (fun i _ => 2 - (ivl i).toNat)
        case atStart => exact ⟨0, by omega, rfl, HK.out⟩
        case round =>
          clear HK hW5 w5
          rename World => wz
          obtain ⟨q, hq, rfl, hK⟩ := hrel
          by_cases hq2 : q < 2
          · obtain ⟨ca, cc, cl, st, hcur, hst0, hnext, hokc, hcell, hcln⟩ : ∃ (ca : Option Addr) (cc : Nat) (cl : List Int) (st : List Int → World → Prop), CurR w0.heap.size w.heap.size BB c ca cc cl.length st ∧ st cl wz ∧ (∀ wr', st (cl.map (lessI c x)) wr' → RK w w0.heap.size w.heap.size BB w4.heap.size c (.slice ta T.length tc) (.slice (some ⟨R, 0, none⟩) L1.length lc) (selz (decide (1 ≤ q + 1)) (lessI c x) T) (selz (decide (2 ≤ q + 1)) (lessI c x) L1) wr') ∧ (∀ y ∈ cl, okI y) ∧ wz.cell? ⟨w4.heap.size, q, none⟩ = some (.slice ca cl.length cc) ∧ cl.length ≤ 1000 := by
              rcases (show q = 0 ∨ q = 1 by omega) with rfl | rfl
              · exact ⟨ta, tc, T, _, curT (L := L1) HRS.out, hK, fun wr' h => h, HOT.out, box_cell hK.bz 0, hTn⟩
              · exact ⟨_, lc, L1, _, curL (T := T.map (lessI c x)) HRS.out, hK, fun wr' h => h, HO1.out, box_cell hK.bz 1, hL1⟩
            have HCUR := hid hcur
            have HS0 := hid hst0
            have HNX := hid hnext
            have HOC := hid hokc
            have hdq : decide ((q : Int) < 2) = true := decide_eq_true (by omega)
            clear hcur hst0 hnext hokc hK
            go_wp2_with fail
            go_loopw [53] (fun i wr2 => ∃ j : Nat, j ≤ cl.length ∧ i = .int .i64 j ∧ st (mixed (lessI c x) cl j) wr2) (fun i _ => cl.length - (ivl i).toNat)
            case atStart => exact ⟨0, Nat.zero_le _, rfl, by rw [mixed_zero]; exact HS0.out⟩
            case round =>
              clear HS0 hcell
              rename World => wi
              obtain ⟨j, hj, rfl, hs⟩ := hrel
              have HS := hid hs
              by_cases hlt : j < cl.length
              · obtain ⟨b', c', eb, ob, -⟩ := (HCUR.out.gl _ _ hs).ints
                obtain ⟨R', hq1, hq2', e2, c0, f0⟩ := ob.cells j (by rw [mixed_len]; exact hlt)
                rw [mixed_at _ cl j hlt] at c0
                obtain rfl : ca = some ⟨R', 0, none⟩ := by injection eb with eb _ _; rw [eb, e2]
                have HOY := hid (HOC.out cl[j] (List.getElem_mem hlt))
                have HMS2 := hid (mixed_set (lessI c x) cl j hlt)
                have HMS3 := hid (mixed_same (lessI c x) cl j hlt)
                have hbm : wi.cell? ⟨w.heap.size, 0, none⟩ = some (.func (.func 54) #[] #[]) := box_cell (HCUR.out.bm _ _ hs) 0
                have hbb : wi.cell? ⟨BB, 0, none⟩ = some (.int .i64 (c : Int)) := box_cell (HCUR.out.bb _ _ hs) 0
                have HHA := hid (hasI_any w.heap.size BB cl[j] c wi HOY.out (by omega) hbm hbb)
                have HUN := hid (fun v => unlikeMasks_any cl[j] x v HOY.out HOX.out)
                generalize cl[j] = m at *
                have HLY : Hid (hasI c m = true → lessI c x m = unI m x) := fun e => by unfold lessI lessG; rw [e]; rfl
                have HLN : Hid (hasI c m = false → lessI c x m = m) := fun e => by unfold lessI lessG; rw [e]; rfl
                clear eb ob e2 hbm hbb hs
                go_wp2_with fail
                refine HHA.out.mono ?_
                rintro e w6 ⟨rfl, g6⟩
                have HS6 := hid (HCUR.out.below _ _ _ HS.out g6)
                have n0 := (g6.cell (p := ⟨R', j, none⟩) hq2').trans c0
                have n1 := (g6.frozen (p := ⟨R', j, none⟩) hq2').trans f0
                clear HHA g6 c0 f0
                cases hh : hasI c m
                · have HS7 : Hid (st (mixed (lessI c x) cl (j + 1)) w6) := by show st _ _; rw [HMS3.out (HLN.out hh)]; exact HS6.out
                  clear hh n0 n1
                  go_wp2_with fail
                  go_roundw
                  case rel => exact ⟨j + 1, by omega, by go_num, HS7.out⟩
                  case measure => simp [ivl]; omega
                · have HS7 : Hid (st (mixed (lessI c x) cl (j + 1)) (w6.setCell ⟨R', j, none⟩ (.int .i64 (unI m x)))) := by
                    show st _ _
                    rw [← HMS2.out, HLY.out hh]
                    exact HCUR.out.set R' _ _ j _ rfl (mixed_len _ _ _) HS6.out
                  clear hh
                  go_wp2_with fail
                  refine (HUN.out _).mono ?_
                  rintro e w7 ⟨rfl, hw7⟩
                  rw [hw7]
                  clear hw7
                  go_wp2_with fail
                  go_roundw
                  case rel => exact ⟨j + 1, by omega, by go_num, HS7.out⟩
                  case measure => simp [ivl]; omega
              · obtain rfl : j = cl.length := by omega
                rw [mixed_end] at hs
                have HNX2 := hid (HNX.out _ hs)
                clear hs HS
                go_wp2_with fail
                go_roundw
                case rel => exact ⟨q + 1, by omega, by go_num, HNX2.out⟩
                case measure => simp [ivl]; omega
          · obtain rfl : q = 2 := by omega
            have hK' : RK w w0.heap.size w.heap.size BB w4.heap.size c (.slice ta T.length tc) (.slice (some ⟨R, 0, none⟩) L1.length lc) (T.map (lessI c x)) (L1.map (lessI c x)) wz := hK
            have hlz : w0.heap.size ≤ wz.heap.size := by have := kbox hK'.bm; have := HLO.out; omega
            obtain ⟨v', w', r1, o2, g3, g4, g5, g6⟩ := hK'.gt.pushI hlz x (by rw [List.length_map]; omega)
            have gb := boxB wz (.cells #[.int .i64 x] 3)
            have kk : ∀ i, i < wz.heap.size → (Value.slice ta T.length tc).ownBlock ≠ some i → w'.heap[i]? = wz.heap[i]? := fun i h1 h2 => (g5.block i (Nat.lt_of_lt_of_le h1 gb.size) (fun e => h2 e.symm)).trans (gb.block i h1)
            have hlo := HLO.out
            have hbm' : w'.heap[w.heap.size]? = some (.cells #[.func (.func 54) #[] #[]] 71) := (kk _ (kbox hK'.bm) (fun e => by have := (hK'.gt.lt _ e).1; omega)).trans hK'.bm
            have hbb' : w'.heap[BB]? = some (.cells #[.int .i64 (c : Int)] 3) := (kk _ (kbox hK'.bb) (fun e => (HRS.out.nt _ e).1 rfl)).trans hK'.bb
            have hb6 : w'.cell? ⟨BB, 0, none⟩ = some (.int .i64 (c : Int)) := box_cell hbb' 0
            have hgl' : GL KI w0.heap.size (.slice (some ⟨R, 0, none⟩) L1.length lc) (L1.map (lessI c x)) w' := hK'.gl.keep (fun i hi => kk i (hK'.gl.lt i hi).2 (fun e => HRS.out.ap i i e hi rfl))
            have hap' : Apart v' (.slice (some ⟨R, 0, none⟩) L1.length lc) := fun i j hi hj e => by
              subst e
              have hj1 := hK'.gl.lt i hj
              rcases g6 with g6 | g6
              · rw [hi] at g6
                exact HRS.out.ap i i g6.symm hj rfl
              · rw [hi] at g6
                injection g6 with g6
                omega
            have HN : Hid (RJ n p w w0.heap.size w.heap.size c v' (.slice (some ⟨R, 0, none⟩) L1.length lc) (T.map (lessI c x) ++ [x]) (L1.map (lessI c x)) w'.heap.size (w'.alloc (.cells #[.int .i64 ((c : Int) - 1)] 3))) :=
              HI3.out.next rfl _ _ _ _ o2 hgl' hap' HSA.out.1 HSA.out.2 (HSL.out.trans HI3.out.len) HST.out (hK'.be.trans (g3.mono (by omega))) hbm'
            clear hK hK' o2 g3 g4 g5 g6 gb kk hbm' hbb' hgl' hap' hlz hlo HSA HSL HST
            go_wp2_with (at_builtin; refine wpList_append_run rfl (.tmp 70) (.tmp 72) 40 rfl _ _ rfl rfl _ _ r1 ?_)
            go_roundw
            case rel => exact ⟨c, _, _, _, _, _, rfl, rfl, rfl, HN.out⟩
            case measure =>
              rw [HMS.out, boxN_at HN.out.bb]
              omega
      · have hall : ∀ j (hj : j < L.length), hasI c L[j] = false := fun j hj => by
          have e := List.findIdx_eq_length.1 (Nat.le_antisymm List.findIdx_le_length (Nat.le_of_not_lt hx))
          exact e _ (List.getElem_mem hj)
        rw [ixI_no hall]
        have HN : Hid (RJ n p w w0.heap.size w.heap.size c (.slice ta T.length tc) (.slice la L.length lc) T L w3.heap.size (w3.alloc (.cells #[.int .i64 ((c : Int) - 1)] 3))) := by
          refine hI3.next rfl T L _ _ hI3.gt hI3.gl hI3.ap hI3.ot hI3.ol hI3.len ?_
          rw [stepG_none hasI unI c T L (fun x hx => by
                obtain ⟨i, hi, rfl⟩ := List.getElem_of_mem hx
                exact hall i hi)]
        clear hall hx hI3
        go_wp2_with fail
        go_roundw
        case rel => exact ⟨c, _, _, T, L, _, rfl, rfl, rfl, HN.out⟩
        case measure =>
          rw [HMS.out, boxN_at HN.out.bb]
          omega
end Go.Proofs.Ytnjeeeccfhpolaa
