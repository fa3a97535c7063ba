/- The model's l10Reduce. -/
import Derived.Test.YtnjeeeccfhpolaaPGl
namespace Go.Proofs.Ytnjeeeccfhpolaa
set_option maxRecDepth 100000
open Go Go.ChangeShapes Go.WideShapes Go.ChangeAt Go.RowKit
/-- what the third round keeps: rows told gone over up to j -/
structure L3 (w wb wc : World) (X : Nat) (ta : Option Addr) (tc : Nat) (rv : Value) (T RL : List Pk) (f : Pk → Pk) (x : Pk) (j : Nat) (wr : World) : Prop where
  gt : GL KP w.heap.size (.slice ta T.length tc) (mixed f T j) wr
  gr : GL KP wb.heap.size rv RL wr
  bx : wr.heap[X]? = some (.cells #[.int .i64 x.ms, .string x.tx] 28)
  be : Below w.heap.size w wr
  sz : wc.heap.size ≤ wr.heap.size
set_option maxHeartbeats 6000000 in
theorem l10Reduce_any (z n : Nat) (a : Option Addr) (cap : Nat) (p : List Pk) (w : World) (h2 : n ≤ 10) (hz : z ≤ 1048576) (hp : p.length ≤ 1000) (hok : ∀ x ∈ p, okP z x) (hZ : Ps w.heap.size a p w) :
    Calls Try.prog 51 #[.int .i64 n, .slice a p.length cap] w fun e w' => ∃ tv lv, e = .returned (.tuple #[tv, lv]) ∧ GL KP w.heap.size tv (redP n p).1 w' ∧ GL KP w.heap.size lv (redP n p).2 w' ∧ Apart tv lv ∧ Below w.heap.size w w' := by
  have g0 := boxB w (.cells #[] 28)
  obtain ⟨lv0, w1, r0', o0, g1, -⟩ := (GL.lit KP w).app KP.ok g0.size a cap p ((hZ.below g0).mono g0.size) (by simp; omega)
  have r0 : ∀ ty, (Builtin.append_ #[36, 36] ty #[.slice (some ⟨w.heap.size, 0, none⟩) 0 0, .slice a p.length cap]).run Try.prog (w.alloc (.cells #[] 28)) = .ok lv0 w1 := r0'
  have HI0 : Hid (RI z n p w n (.slice none 0 0) lv0 [] p w1) := ⟨Nat.le_refl _, rfl, GL.nil _ _ _, o0, Apart.nil _, (fun x h => by cases h), hok, by simp, g0.trans g1⟩
  clear r0' o0 g1 hok hZ g0
  go_enter Try.func51, Try.ntmps51
  go_wp2_with (at_builtin; refine wpList_append_run rfl (.tmp 18) (.tmp 19) 36 rfl _ _ rfl rfl _ _ r0 ?_)
  go_loopw [6, 7, 8] (fun t l i wr => ∃ (b : Nat) (tv lv : Value) (T L : List Pk), i = .int .i64 ((b : Int) - 1) ∧ t = tv ∧ l = lv ∧ RI z n p w b tv lv T L wr) (fun _ _ i _ => (intOf i + 1).toNat)
  case atStart => exact ⟨n, _, _, _, _, rfl, rfl, rfl, HI0.out⟩
  case round =>
    clear r0 HI0 w1
    rename World => wo
    obtain ⟨b, tv, lv, T, L, rfl, rfl, rfl, hI⟩ := hrel
    have HI := hid hI
    cases b with
    | zero =>
      clear hI
      go_wp2_with fail
      go_ret2
      have h := HI.out
      have e : (T, L) = redP n p := h.red
      exact ⟨_, _, rfl, by rw [← e]; exact h.gt, by rw [← e]; exact h.gl, h.ap, h.be⟩
    | succ c =>
      have e1 : (((c + 1 : Nat) : Int) - 1) = (c : Int) := by omega
      rw [e1]
      have hc10 : c < 10 := by have := hI.bn; omega
      have hLn : L.length ≤ 1000 := by have := hI.len; omega
      have hTn : T.length ≤ 1000 := by have := hI.len; omega
      obtain ⟨ta, tc, rfl, oT, -⟩ := hI.gt.pks
      obtain ⟨la, lc, rfl, oL, -⟩ := hI.gl.pks
      have HOL := hid oL
      have HOK := hid hI.ol
      clear hI oT oL e1
      go_wp2_with fail
      go_loopw [9, 29] (fun at9 i wr1 => ∃ j : Nat, j ≤ L.length ∧ i = .int .i64 j ∧ AtL L c j at9 ∧ Below wo.heap.size wo wr1) (fun _ i _ => L.length - (intOf i).toNat)
      case atStart => exact ⟨0, Nat.zero_le _, rfl, Or.inl ⟨rfl, fun _ _ h => absurd h (Nat.not_lt_zero _)⟩, Below.refl _ _⟩
      case round =>
        rename World => wa
        obtain ⟨j, hj, rfl, hat, hbel⟩ := hrel
        have HBEL := hid hbel
        by_cases hlt : j < L.length
        · obtain ⟨R, hR1, hR2, rfl, c0, c1, -, -⟩ := HOL.out.cells j hlt
          have y0 := (hbel.cell (p := ⟨R, j * 2, none⟩) hR2).trans c0
          have y1 := (hbel.cell (p := ⟨R, j * 2 + 1, none⟩) hR2).trans c1
          obtain ⟨ym, hym, hy1⟩ := (HOK.out L[j] (List.getElem_mem hlt)).1.nat
          have hhp : hasP c L[j] = ym.testBit c := by unfold hasP hasI; rw [hym, Int.toNat_natCast]
          have HHP := hid hhp
          have hbv := bit_val ym c (by omega)
          rw [hym] at y0
          have gA := boxB wa (.cells #[.int .i64 ym, .string L[j].tx] 28)
          have HGA := hid (hbel.trans (gA.mono hbel.size))
          have kA := heap_last wa (.cells #[.int .i64 ym, .string L[j].tx] 28)
          clear c0 c1 hbel hym hhp
          generalize L[j].tx = yt at *
          generalize hW : wa.alloc (.cells #[.int .i64 ym, .string yt] 28) = W at *
          have q0 : W.cell? ⟨wa.heap.size, 0, none⟩ = some (.int .i64 ym) := box_cell kA 0
          clear gA kA
          rcases hat with ⟨rfl, hall⟩ | ⟨k, hk, hkj, rfl, hk1, hk2⟩
          · have HALL := hid hall
            clear hall
            cases hx : ym.testBit c
            · rw [hx] at hbv
              have HA : Hid (AtL L c (j + 1) (.int .i64 (-1))) := Or.inl ⟨rfl, fun i hi hij => by
                by_cases e : i = j
                · subst e; exact HHP.out.trans hx
                · exact HALL.out i hi (by omega)⟩
              clear hx
              go_wp2_with fail
              go_roundw
              case rel => exact ⟨j + 1, by omega, by go_num, HA.out, HGA.out⟩
              case measure => simp [intOf]; omega
            · rw [hx] at hbv
              have HA : Hid (AtL L c (j + 1) (.int .i64 (j : Int))) := Or.inr ⟨j, hlt, by omega, rfl, HHP.out.trans hx, HALL.out⟩
              clear hx
              go_wp2_with fail
              go_roundw
              case rel => exact ⟨j + 1, by omega, by go_num, HA.out, HGA.out⟩
              case measure => simp [intOf]; omega
          · have HA : Hid (AtL L c (j + 1) (.int .i64 (k : Int))) := Or.inr ⟨k, hk, by omega, rfl, hk1, hk2⟩
            have hd : decide ((k : Int) < 0) = false := decide_eq_false (by omega)
            clear hk1 hk2 hkj
            go_wp2_with fail
            go_roundw
            case rel => exact ⟨j + 1, by omega, by go_num, HA.out, HGA.out⟩
            case measure => simp [intOf]; omega
        · obtain rfl : j = L.length := by omega
          rcases hat with ⟨rfl, hall⟩ | ⟨k, hk, hkj, rfl, hk1, hk2⟩
          · have HI' : Hid (RI z n p w c (.slice ta T.length tc) (.slice la L.length lc) T L wa) := by
              have h := HI.out
              refine ⟨by have := h.bn; omega, ?_, h.gt.below hbel, h.gl.below hbel, h.ap, h.ot, h.ol, h.len, h.be.trans (hbel.mono h.be.size)⟩
              rw [← h.red]
              show _ = redG hasP unP c (stepG hasP unP c (T, L))
              rw [stepG_none hasP unP c T L (fun x hx => by
                obtain ⟨i, hi, rfl⟩ := List.getElem_of_mem hx
                exact hall i hi hi)]
            clear hall hbel
            go_wp2_with fail
            go_roundw
            case rel => exact ⟨c, _, _, T, L, rfl, rfl, rfl, HI'.out⟩
            case measure => simp [intOf]
          · obtain ⟨R, hR1, hR2, rfl, c0, c1, -, -⟩ := HOL.out.cells k hk
            have x0 := (hbel.cell (p := ⟨R, k * 2, none⟩) hR2).trans c0
            have x1 := (hbel.cell (p := ⟨R, k * 2 + 1, none⟩) hR2).trans c1
            have HST := hid (stepG_some hasP unP c T L k hk hk1 hk2)
            have HOX := hid (HOK.out L[k] (List.getElem_mem hk))
            generalize hX : L[k] = x at *
            have gA := boxB wa (.cells #[.int .i64 x.ms, .string x.tx] 28)
            have HKA := hid (heap_last wa (.cells #[.int .i64 x.ms, .string x.tx] 28))
            have HGA := hid (hbel.trans (gA.mono hbel.size))
            have hsb := hbel.size
            generalize hWB : wa.alloc (.cells #[.int .i64 x.ms, .string x.tx] 28) = wb at *
            have hXb := kbox HKA.out
            clear c0 c1 hk1 hk2 hkj hbel HBEL gA hX
            have hdk : decide ((k : Int) < 0) = false := decide_eq_false (by omega)
            go_wp2_with fail
            go_loopw [13, 55] (fun r i wr2 => ∃ (j : Nat) (rv : Value), j ≤ L.length ∧ i = .int .i64 j ∧ r = rv ∧ GL KP wb.heap.size rv (((L.take j).eraseIdx k).map (lessP c x)) wr2 ∧ Below wb.heap.size wb wr2) (fun _ i _ => L.length - (intOf i).toNat)
            case atStart => exact ⟨0, _, Nat.zero_le _, rfl, rfl, GL.nil _ _ _, Below.refl _ _⟩
            case round =>
              clear hWB x0 x1
              rename World => wc
              obtain ⟨j, rv, hj, rfl, hrv, hg, hbel⟩ := hrel
              obtain rfl := hrv.symm
              have HG := hid hg
              have HBEL := hid hbel
              by_cases hlt : j < L.length
              · obtain ⟨R', hR1', hR2', eR, c0, c1, -, -⟩ := HOL.out.cells j hlt
                obtain rfl : R' = R := by injection eR with eR; injection eR with eR _ _; exact eR.symm
                have hgb := HGA.out.trans (hbel.mono HGA.out.size)
                have y0 := (hgb.cell (p := ⟨R', j * 2, none⟩) hR2).trans c0
                have y1 := (hgb.cell (p := ⟨R', j * 2 + 1, none⟩) hR2).trans c1
                have HOY := hid (HOK.out L[j] (List.getElem_mem hlt))
                have HE1 : Hid (j = k → ((L.take (j + 1)).eraseIdx k).map (lessP c x) = ((L.take j).eraseIdx k).map (lessP c x)) := fun e => by subst e; rw [erase_take_same L _ hlt]
                have HE2 : Hid (j ≠ k → ((L.take (j + 1)).eraseIdx k).map (lessP c x) = ((L.take j).eraseIdx k).map (lessP c x) ++ [lessP c x L[j]]) := fun e => by rw [erase_take L j k hlt e, List.map_append]; rfl
                have HLN : Hid ((((L.take j).eraseIdx k).map (lessP c x)).length + 1 ≤ 4194304) := by
                  show _ ≤ _
                  rw [List.length_map]
                  have := List.length_eraseIdx_le (L.take j) k
                  rw [List.length_take] at this
                  omega
                generalize L[j] = y at *
                have gB := boxB wc (.cells #[.int .i64 y.ms, .string y.tx] 28)
                have kB := heap_last wc (.cells #[.int .i64 y.ms, .string y.tx] 28)
                have HGB := hid (hbel.trans (gB.mono hbel.size))
                have HGB1 := hid gB
                generalize hWC : wc.alloc (.cells #[.int .i64 y.ms, .string y.tx] 28) = wd at *
                clear c0 c1 hgb eR hg hbel gB
                by_cases ejk : j = k
                · have hne : ((j : Int) != (k : Int)) = false := by rw [ejk]; simp
                  have HG2 : Hid (GL KP wb.heap.size rv (((L.take (j + 1)).eraseIdx k).map (lessP c x)) wd) := by show GL _ _ _ _ _; rw [HE1.out ejk]; exact HG.out.below HGB1.out
                  clear ejk kB
                  go_wp2_with fail
                  go_roundw
                  case rel => exact ⟨j + 1, _, by omega, by go_num, rfl, HG2.out, HGB.out⟩
                  case measure => simp [intOf]; omega
                · have hne : ((j : Int) != (k : Int)) = true := bne_iff_ne.2 (by omega)
                  have HE3 := hid (HE2.out ejk)
                  have q0 : wd.cell? ⟨wc.heap.size, 0, none⟩ = some (.int .i64 y.ms) := box_cell kB 0
                  have q1 : wd.cell? ⟨wc.heap.size, 1, none⟩ = some (.string y.tx) := box_cell kB 1
                  have kX := (HGB.out.block _ hXb).trans HKA.out
                  have v0 : wd.cell? ⟨wa.heap.size, 0, none⟩ = some (.int .i64 x.ms) := box_cell kX 0
                  have v1 : wd.cell? ⟨wa.heap.size, 1, none⟩ = some (.string x.tx) := box_cell kX 1
                  have HLS := hid (l10Less_any z y x c wd (by omega) hz HOY.out HOX.out)
                  clear ejk kB kX HE1 HE2
                  go_wp2_with fail
                  refine HLS.out.mono ?_
                  rintro e w9 ⟨rfl, b9⟩
                  have hG9 := (HG.out.below HGB1.out).below b9
                  have HB9 := hid (HGB.out.trans (b9.mono HGB.out.size))
                  obtain ⟨v', w', r1, o2, g3, -⟩ := hG9.pushP HB9.out.size (lessP c x y) HLN.out
                  rw [← HE3.out] at o2
                  have HO := hid o2
                  have HB' := hid (HB9.out.trans g3)
                  clear hG9 o2 g3 b9 HLS q0 q1 v0 v1
                  go_wp2_with (at_builtin; refine wpList_append_run rfl (.tmp 63) (.tmp 68) 36 rfl _ _ rfl rfl _ _ r1 ?_)
                  go_roundw
                  case rel => exact ⟨j + 1, _, by omega, by go_num, rfl, HO.out, HB'.out⟩
                  case measure => simp [intOf]; omega
              · obtain rfl : j = L.length := by omega
                rw [List.take_length] at hg
                have HRI : Hid (∀ v' w', GL KP w.heap.size v' (T.map (lessP c x) ++ [x]) w' → GL KP wb.heap.size rv ((L.eraseIdx k).map (lessP c x)) w' → Apart v' rv → Below w.heap.size w w' → RI z n p w c v' rv (T.map (lessP c x) ++ [x]) ((L.eraseIdx k).map (lessP c x)) w') := fun v' w' k1 k2 k3 k4 => by
                  have h := HI.out
                  have hst := HST.out
                  have hal := stepG_all hasP unP (okP z) (fun x y hx hy => hx.un hy) c (T, L) h.ot h.ol
                  have hle := stepG_len hasP unP c (T, L)
                  rw [hst] at hal hle
                  refine ⟨by have := h.bn; omega, ?_, k1, k2.mono (by have := h.be.size; have := HGA.out.size; omega), k3, hal.1, hal.2, hle.trans h.len, k4⟩
                  rw [← h.red]
                  show _ = redG hasP unP c (stepG hasP unP c (T, L))
                  rw [hst]
                  rfl
                have HL3 : Hid (L3 w wb wc wa.heap.size ta tc rv T ((L.eraseIdx k).map (lessP c x)) (lessP c x) x 0 wc) := ⟨by rw [mixed_zero]; exact HI.out.gt.below (HGA.out.trans (hbel.mono HGA.out.size)), hg, (hbel.block _ hXb).trans HKA.out, HI.out.be.trans ((HGA.out.trans (hbel.mono HGA.out.size)).mono HI.out.be.size), Nat.le_refl _⟩
                have HRT : Hid (∀ R1 i, ta = some ⟨R1, i, none⟩ → R1 < wo.heap.size) := fun R1 i e => by
                  subst e
                  exact (HI.out.gt.lt R1 rfl).2
                have hwa : wo.heap.size ≤ wa.heap.size := hsb
                have hwb : wa.heap.size < wb.heap.size := hXb
                have HOT := hid HI.out.ot
                have HTN : Hid (T.length ≤ 1000) := hTn
                generalize (L.eraseIdx k).map (lessP c x) = RL at *
                clear hg hbel HG HBEL HST
                go_wp2_with fail
                go_loopw [74] (fun i wr3 => ∃ j : Nat, j ≤ T.length ∧ i = .int .i64 j ∧ L3 w wb wc wa.heap.size ta tc rv T RL (lessP c x) x j wr3) (fun i _ => T.length - (intOf i).toNat)
                case atStart => exact ⟨0, Nat.zero_le _, rfl, HL3.out⟩
                case round =>
                  clear HL3
                  rename World => we
                  obtain ⟨j, hj, rfl, h3⟩ := hrel
                  have H3 := hid h3
                  by_cases hlt : j < T.length
                  · obtain ⟨b', c', eb, ob, -⟩ := h3.gt.pks
                    obtain ⟨R1, hq1, hq2, e2, c0, c1, f0, f1⟩ := ob.cells j (by rw [mixed_len]; exact hlt)
                    rw [mixed_at _ T j hlt] at c0 c1
                    obtain rfl : ta = some ⟨R1, 0, none⟩ := by injection eb with eb _ _; rw [eb, e2]
                    have hR1 := HRT.out R1 0 rfl
                    have HOY := hid (HOT.out T[j] (List.getElem_mem hlt))
                    have HMS := hid (mixed_set (lessP c x) T j hlt)
                    generalize T[j] = y at *
                    have gB := boxB we (.cells #[.int .i64 y.ms, .string y.tx] 28)
                    have kB := heap_last we (.cells #[.int .i64 y.ms, .string y.tx] 28)
                    have HGB1 := hid gB
                    generalize hWC : we.alloc (.cells #[.int .i64 y.ms, .string y.tx] 28) = wd at *
                    have q0 : wd.cell? ⟨we.heap.size, 0, none⟩ = some (.int .i64 y.ms) := box_cell kB 0
                    have q1 : wd.cell? ⟨we.heap.size, 1, none⟩ = some (.string y.tx) := box_cell kB 1
                    have kX := (gB.block _ (kbox h3.bx)).trans h3.bx
                    have v0 : wd.cell? ⟨wa.heap.size, 0, none⟩ = some (.int .i64 x.ms) := box_cell kX 0
                    have v1 : wd.cell? ⟨wa.heap.size, 1, none⟩ = some (.string x.tx) := box_cell kX 1
                    have HLS := hid (l10Less_any z y x c wd (by omega) hz HOY.out HOX.out)
                    have HC := hid (And.intro c0 (And.intro c1 (And.intro f0 f1)))
                    clear kB kX gB h3 eb ob e2 f0 f1
                    go_wp2_with fail
                    refine HLS.out.mono ?_
                    rintro e w9 ⟨rfl, b9⟩
                    have G9 : Below we.heap.size we w9 := HGB1.out.trans (b9.mono HGB1.out.size)
                    have m0 := (G9.cell (p := ⟨R1, j * 2, none⟩) hq2).trans HC.out.1
                    have m1 := (G9.cell (p := ⟨R1, j * 2 + 1, none⟩) hq2).trans HC.out.2.1
                    have m2 := (G9.frozen (p := ⟨R1, j * 2, none⟩) hq2).trans HC.out.2.2.1
                    have m3 := (G9.frozen (p := ⟨R1, j * 2 + 1, none⟩) hq2).trans HC.out.2.2.2
                    have HN3 : Hid (L3 w wb wc wa.heap.size (some ⟨R1, 0, none⟩) tc rv T RL (lessP c x) x (j + 1) ((w9.setCell ⟨R1, j * 2, none⟩ (.int .i64 (lessP c x y).ms)).setCell ⟨R1, j * 2 + 1, none⟩ (.string (lessP c x y).tx))) := by
                      have h := H3.out
                      have hne : ∀ q, q ≠ R1 → ((w9.setCell ⟨R1, j * 2, none⟩ (.int .i64 (lessP c x y).ms)).setCell ⟨R1, j * 2 + 1, none⟩ (.string (lessP c x y).tx)).heap[q]? = w9.heap[q]? := fun q hq => (keepB _ _ _ _ _ hq).trans (keepB _ _ _ _ _ hq)
                      refine ⟨?_, (h.gr.below G9).keep (fun q hq => hne q (by have := (h.gr.lt q hq).1; omega)), (hne _ (by omega)).trans ((G9.block _ (kbox h.bx)).trans h.bx), setB (setB (h.be.trans (G9.mono h.be.size)) _ _ hq1 _) _ _ hq1 _, ?_⟩
                      · have hs := GL.setP (k := j) (l := mixed (lessP c x) T j) (by rw [mixed_len]; exact h.gt.below G9) (lessP c x y)
                        rw [mixed_len, HMS.out] at hs
                        exact hs
                      · have h5 := h.sz
                        have h6 := G9.size
                        have h7 : ((w9.setCell ⟨R1, j * 2, none⟩ (.int .i64 (lessP c x y).ms)).setCell ⟨R1, j * 2 + 1, none⟩ (.string (lessP c x y).tx)).heap.size = w9.heap.size := by simp [World.setCell]
                        omega
                    clear G9 b9 q0 q1 v0 v1 c0 c1 HLS HC
                    go_wp2_with fail
                    go_roundw
                    case rel => exact ⟨j + 1, by omega, by go_num, HN3.out⟩
                    case measure => simp [intOf]; omega
                  · obtain rfl : j = T.length := by omega
                    have hgt := h3.gt
                    rw [mixed_end] at hgt
                    have v0 : we.cell? ⟨wa.heap.size, 0, none⟩ = some (.int .i64 x.ms) := box_cell h3.bx 0
                    have v1 : we.cell? ⟨wa.heap.size, 1, none⟩ = some (.string x.tx) := box_cell h3.bx 1
                    obtain ⟨v', w', r1, o2, g3, g4, g5, g6⟩ := hgt.pushP h3.be.size x (by rw [List.length_map]; omega)
                    have HF : Hid (RI z n p w c v' rv (T.map (lessP c x) ++ [x]) RL w') := by
                      have gb := boxB we (.cells #[.int .i64 x.ms, .string x.tx] 28)
                      refine HRI.out v' w' o2 ((h3.gr.below gb).keep (fun q hq => ?_)) ?_ (h3.be.trans g3)
                      · have hq1 := h3.gr.lt q hq
                        refine g5.block q (Nat.lt_of_lt_of_le hq1.2 gb.size) (fun e => ?_)
                        obtain ⟨R1, e1⟩ : ∃ R1, ta = some R1 := by
                          cases ta with
                          | none => simp [Value.ownBlock] at e
                          | some R1 => exact ⟨R1, rfl⟩
                        subst e1
                        have e2 : q = R1.block := by simpa [Value.ownBlock] using e
                        have := (HI.out.gt.lt R1.block rfl).2
                        omega
                      · intro q j hq hj e
                        subst e
                        have hq1 := h3.gr.lt q hj
                        rcases g6 with g6 | g6
                        · rw [hq] at g6
                          have := (HI.out.gt.lt q g6.symm).2
                          omega
                        · rw [hq] at g6
                          injection g6 with g6
                          omega
                    clear h3 hgt o2 g3 g4 g5 g6 HRI
                    go_wp2_with (at_builtin; refine wpList_append_run rfl (.tmp 87) (.tmp 89) 36 rfl _ _ rfl rfl _ _ r1 ?_)
                    go_roundw
                    case rel => exact ⟨c, _, _, _, _, rfl, rfl, rfl, HF.out⟩
                    case measure => simp [intOf]
end Go.Proofs.Ytnjeeeccfhpolaa
