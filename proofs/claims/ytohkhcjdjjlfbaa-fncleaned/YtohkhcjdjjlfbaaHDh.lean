/- A heap that is drawn: the walk. -/
import Derived.Test.YtohkhcjdjjlfbaaHDr
import Derived.Deep.DeepCutAuto
import Derived.Deep.RegionHeldLaw
namespace Go.Proofs.Ytohkhcjdjjlfbaa
set_option maxRecDepth 100000
open Go Go.ChangeShapes Go.WideShapes Go.ChangeAt Go.RowKit G00541
set_option maxHeartbeats 4000000 in
theorem heap_any (B N len cap : Nat) (a : Option Addr) (w : World) (hN : N ≤ 900000) (hC : Cur B N (.slice a len cap) w) (hK : Code B len cap a w) :
    Calls Try.prog 49 #[.pointer (some ⟨B, 0, none⟩)] w fun e w' => ∃ vS vL S L, e = .returned (.agg #[vS, vL]) ∧ 2 ≤ S.length ∧ S.length ≤ 6 ∧ HR (w.heap.size + 1) vS vL S L w' ∧ Cur B (N + 400) (.slice a len cap) w' ∧ But B w w' := by
  have hlt := hC.lt
  have HC := hid hC
  have HK := hid hK
  have HC0 := hid (hC.alloc (.cells #[.slice none 0 0, .slice none 0 0] 26))
  have HK0 := hid (hK.but ((But.refl B w).alloc (.cells #[.slice none 0 0, .slice none 0 0] 26)) (Nat.le_refl _) (by omega))
  clear hC hK
  go_enter Try.func49, Try.ntmps49
  go_wp2_with fail
  refine (pick_any _ B N len cap a _ (by omega) (by omega) (by omega) HC0.out HK0.out).mono ?_
  rintro e w1 ⟨x, rfl, x0, x1, hC1, hB1⟩
  obtain ⟨n, hn⟩ : ∃ n : Nat, 2 + x = (n : Int) := ⟨(2 + x).toNat, by omega⟩
  have hn2 : 2 ≤ n := by omega
  have hn6 : n ≤ 6 := by omega
  have HC1 := hid hC1
  have HB1 : Hid (But B w w1) := ((But.refl B w).alloc _).trans hB1
  have HRES : Hid (w1.heap[w.heap.size]? = some (.cells #[.slice none 0 0, .slice none 0 0] 26)) := (hB1.block _ (by simp) (by omega)).trans (heap_last w _)
  have hs1 : w.heap.size + 1 ≤ w1.heap.size := by have := hB1.size; simp at this; omega
  clear hC1 hB1 HC0 HK0 HC
  have hmS := make_segsD n (by omega)
  have hmL := make_livsD n (by omega)
  go_upto_region 2 with fail
  go_cut [4] (fun s wc => ∃ Z vS vL, s = .pointer (some ⟨Z, 0, none⟩) ∧ Hd w B (N + 2) (.slice a len cap) Z n vS vL (List.replicate n ⟨[], 0⟩) (List.replicate n []) wc)
  case first =>
    as_aux_lemma =>
      have eS := made_segsE n
      have eL := made_livsE n
      generalize madeCells (Value.agg #[.slice none 0 0, .int .i64 0]).cells (n * 2) = MS at *
      generalize madeCells (Value.slice none 0 0).cells n = ML at *
      have HM : Hid (∀ (Z g1 g2 : Nat) (W : World), w1.heap.size ≤ Z → w1.heap.size ≤ g1 → w1.heap.size ≤ g2 → Below w1.heap.size w1 W → W.heap[Z]? = some (.cells #[.slice (some ⟨g1, 0, none⟩) n n, .slice (some ⟨g2, 0, none⟩) n n] 26) → W.heap[g1]? = some (.cells MS 40) → W.heap[g2]? = some (.cells ML 53) →
          Hd w B (N + 2) (.slice a len cap) Z n (.slice (some ⟨g1, 0, none⟩) n n) (.slice (some ⟨g2, 0, none⟩) n n) (List.replicate n ⟨[], 0⟩) (List.replicate n []) W) := fun Z g1 g2 W z0 z1 z2 g hZ h1 h2 =>
        ⟨HC1.out.onH g (by omega), HB1.out.onH g (by omega), hlt, (g.block _ (by omega)).trans HRES.out, ⟨by omega, by
          rcases Nat.lt_or_ge Z W.heap.size with h | h
          · exact h
          · rw [Array.getElem?_eq_none h] at hZ; cases hZ⟩, hZ, HR.made h1 h2 (by omega) (by omega) (by omega) eS eL, List.length_replicate⟩
      clear eS eL
      go_region
      all_goals
        go_wp2_with fail
        go_meet
        case rel =>
          first
            | exact ⟨_, _, _, rfl, HM.out (w1.heap.size + 1 + 1) (w1.heap.size) (w1.heap.size + 1) _ (by omega) (by omega) (by omega) (three_b _ _ _ _) (three_2 _ _ _ _) (three_0 _ _ _ _) (three_1 _ _ _ _)⟩
            | exact ⟨_, _, _, rfl, HM.out (w1.heap.size + 1) (w1.heap.size) (w1.heap.size + 1 + 1) _ (by omega) (by omega) (by omega) (three_b _ _ _ _) (three_1 _ _ _ _) (three_0 _ _ _ _) (three_2 _ _ _ _)⟩
            | exact ⟨_, _, _, rfl, HM.out (w1.heap.size + 1 + 1) (w1.heap.size + 1) (w1.heap.size) _ (by omega) (by omega) (by omega) (three_b _ _ _ _) (three_2 _ _ _ _) (three_1 _ _ _ _) (three_0 _ _ _ _)⟩
            | exact ⟨_, _, _, rfl, HM.out (w1.heap.size + 1) (w1.heap.size + 1 + 1) (w1.heap.size) _ (by omega) (by omega) (by omega) (three_b _ _ _ _) (three_1 _ _ _ _) (three_2 _ _ _ _) (three_0 _ _ _ _)⟩
            | exact ⟨_, _, _, rfl, HM.out (w1.heap.size) (w1.heap.size + 1) (w1.heap.size + 1 + 1) _ (by omega) (by omega) (by omega) (three_b _ _ _ _) (three_0 _ _ _ _) (three_1 _ _ _ _) (three_2 _ _ _ _)⟩
            | exact ⟨_, _, _, rfl, HM.out (w1.heap.size) (w1.heap.size + 1 + 1) (w1.heap.size + 1) _ (by omega) (by omega) (by omega) (three_b _ _ _ _) (three_0 _ _ _ _) (three_2 _ _ _ _) (three_1 _ _ _ _)⟩
  case rest =>
    as_aux_lemma =>
      clear hmS hmL HC1 HB1 HRES hs1
      obtain ⟨Z, vS0, vL0, rfl, hd0⟩ := hcut
      have HD0 := hid hd0
      clear hd0
      go_wp2_with fail
      refine (pick_any _ B _ len cap a _ (by omega) (by omega) (by omega) HD0.out.cur (HD0.out.code HK.out)).mono ?_
      rintro e w3 ⟨x3, rfl, x30, x31, hC3, hB3⟩
      have HD3 := hid (HD0.out.step hC3 hB3)
      clear hC3 hB3 HD0
      obtain ⟨J, rfl⟩ : ∃ J : Nat, x3 = (J : Int) := ⟨x3.toNat, by omega⟩
      go_wp2_with fail
      go_loopw [5] (fun i wr => ∃ (j : Nat) (vS vL : Value) (S : List Sg) (L : List (List Bool)), j ≤ 29 ∧ i = .int .i64 (j : Int) ∧ Hd w B (N + 4 + 6 * (29 - j)) (.slice a len cap) Z n vS vL S L wr) (fun i _ => (intOf i).toNat)
      case atStart => exact ⟨J, _, _, _, _, by omega, rfl, HD3.out.mono (by omega)⟩
      case round =>
        clear HD3
        obtain ⟨j, vS, vL, S, L, hj, rfl, hd⟩ := hrel
        have HD := hid hd
        clear hd
        by_cases h0 : 0 < j
        · have hd0 : decide ((0 : Int) < (j : Int)) = true := decide_eq_true (by omega)
          obtain ⟨M, hM⟩ : ∃ M, M = N + 4 + 6 * (29 - j) := ⟨_, rfl⟩
          rw [← hM] at HD
          have hM9 : M ≤ 900200 := by omega
          go_upto_region 6 with fail
          go_cut [6, 7] (fun s6 s7 wc => ∃ (Y : Nat) (uS uL : Value) (S' : List Sg) (L' : List (List Bool)) (ok : Bool), s6 = .pointer (some ⟨Y, 0, none⟩) ∧ s7 = .bool ok ∧ Hx w B (M + 2) (.slice a len cap) Z n vS vL S L Y uS uL S' L' ok wc)
          case first =>
            as_aux_lemma =>
              have hz := HD.out.lt
              have c0 := HD.out.c0
              have c1 := HD.out.c1
              have hbw := HD.out.bw
              have HP : Hid (∀ W, Below wr.heap.size wr W → Calls Try.prog 50 #[.pointer (some ⟨B, 0, none⟩), .int .i64 9] W fun e w5 => ∃ x : Int, e = .returned (.int .i64 x) ∧ Hd w B (M + 2) (.slice a len cap) Z n vS vL S L w5 ∧ w5.cell? ⟨Z, 0, none⟩ = some vS ∧ w5.cell? ⟨Z, 1, none⟩ = some vL ∧ (W.heap[wr.heap.size]? = some (.cells #[.slice none 0 0, .slice none 0 0] 26) → w5.heap[wr.heap.size]? = some (.cells #[.slice none 0 0, .slice none 0 0] 26)) ∧ wr.heap.size ≤ w5.heap.size) := fun W hb => by
                have hW := HD.out.on hb
                refine (pick_any _ B _ len cap a W (by omega) (by omega) (by omega) hW.cur (hW.code HK.out)).mono ?_
                rintro e w5 ⟨x, rfl, _, _, hC5, hB5⟩
                have h5 := hW.step hC5 hB5
                exact ⟨x, rfl, h5, h5.c0, h5.c1, fun hx => (hB5.block _ (block_ltH hx) (by omega)).trans hx, Nat.le_trans hb.size hB5.size⟩
              go_region_with (first
                | (go_at_call 26
                   refine (sWrite_n (w.heap.size + 1) vS vL S L _ _ ?_).mono ?_
                   · first | exact HD5.out.hr | exact (HD5.out.alloc _).hr
                   rintro e w6 ⟨uS, uL, S', L', ok, rfl, hn6, hr6, hb6⟩
                   try (
                     have hq6 : w6.heap[wr.heap.size]? = some (.cells #[.slice none 0 0, .slice none 0 0] 26) := (hb6.block wr.heap.size (block_ltH (HX5.out (heap_last wr _)))).trans (HX5.out (heap_last wr _))
                     have hx6 := box_cell hq6 0
                     have hy6 := box_cell hq6 1
                     have hf6 := box_free hq6 0
                     have hg6 := box_free hq6 1
                     have HQ6 := hid hq6
                     clear hq6)
                   try (
                     have hq6 : w6.heap[w5.heap.size]? = some (.cells #[.slice none 0 0, .slice none 0 0] 26) := (hb6.block w5.heap.size (block_ltH (heap_last w5 _))).trans (heap_last w5 _)
                     have hx6 := box_cell hq6 0
                     have hy6 := box_cell hq6 1
                     have hf6 := box_free hq6 0
                     have hg6 := box_free hq6 1
                     have HQ6 := hid hq6
                     clear hq6)
                   obtain ⟨a6, k6, b6, l6, e61, e62, _, _⟩ := hr6.read
                   subst e61; subst e62
                   have HR6 : Hid _ := hr6
                   have HB6 : Hid _ := hb6
                   have HN6 : Hid _ := hn6
                   clear hr6 hb6 hn6)
                | (go_at_call 50
                   refine (HP.out _ ?_).mono ?_
                   · first | exact (Below.refl _ _).drew | exact ((Below.refl _ _).alloc (Nat.le_refl _) _).drew
                   rintro e w5 ⟨x, rfl, hD5, c50, c51, hX5, hs5⟩
                   have HD5 := hid hD5
                   have HX5 : Hid _ := hX5
                   have hz5 := hD5.lt
                   clear hD5 hX5))
              all_goals
                have hlen := HD5.out.len
                go_wp2_with fail
                go_meet
                case rel =>
                  first
                  | exact ⟨_, _, _, S', L', ok, rfl, rfl, HD5.out.takeOld (v0 := w5) HB6.out HR6.out (by omega) (fun e => (HN6.out e).trans hlen) HQ6.out rfl (by omega) (by omega)⟩
                  | exact ⟨_, _, _, S', L', ok, rfl, rfl, (HD5.out.alloc _).takeOld (v0 := w5.alloc _) HB6.out HR6.out (by rw [heap_size]; omega) (fun e => (HN6.out e).trans hlen) HQ6.out rfl (by omega) (by omega)⟩
                  | exact ⟨_, _, _, S', L', ok, rfl, rfl, HD5.out.takeNew HB6.out HR6.out (fun e => (HN6.out e).trans hlen)⟩
          case rest =>
            as_aux_lemma =>
              clear HD
              obtain ⟨Y, uS, uL, S', L', ok, rfl, rfl, hx⟩ := hcut
              obtain ⟨a1, k1, a2, k2, e1, e2, _, _⟩ := hx.hr.read
              subst e1; subst e2
              have HX := hid hx
              have hz := hx.hd.lt
              have y0 := box_cell hx.box 0
              have y1 := box_cell hx.box 1
              have f0 := box_free hx.hd.box 0
              have f1 := box_free hx.hd.box 1
              have z0 := hx.hd.c0
              have z1 := hx.hd.c1
              clear hx
              go_upto_if 34 with fail
              go_cut [] (fun wd => ∃ (vS vL : Value) (S : List Sg) (L : List (List Bool)), Hd w B (M + 2) (.slice a len cap) Z n vS vL S L wd)
              case first =>
                as_aux_lemma =>
                  cases ok
                  · go_wp2_with fail
                    go_meet
                    case rel => exact ⟨_, _, _, _, HX.out.hd⟩
                  · go_wp2_with fail
                    go_meet
                    case rel => exact ⟨_, _, _, _, HX.out.put rfl⟩
              case rest =>
                as_aux_lemma =>
                  clear HX y0 y1 f0 f1 z0 z1 hz
                  obtain ⟨vS, vL, S, L, hd⟩ := hcut
                  have HD := hid hd
                  have c0 := hd.c0
                  have c1 := hd.c1
                  clear hd
                  go_upto_region 9 with fail
                  go_cut [8, 9] (fun s8 s9 wc => ∃ (k : Int) (ok : Bool), s8 = .int .i64 k ∧ s9 = .bool ok ∧ Hd w B (M + 4) (.slice a len cap) Z n vS vL S L wc)
                  case first =>
                    as_aux_lemma =>
                      have HP := hid (pick_any 2 B _ len cap a _ (by omega) (by omega) (by omega) HD.out.drew.cur (HD.out.drew.code HK.out))
                      go_region_with (first
                        | (go_at_call 23
                           refine (sPick_n (w.heap.size + 1) vS vL S L _ _ HD5.out.hr).mono ?_
                           rintro e w6 ⟨k6, ok6, rfl, hb6⟩
                           have HD6 := hid (HD5.out.on hb6)
                           clear hb6)
                        | (go_at_call 50
                           refine HP.out.mono ?_
                           rintro e w5 ⟨x5, rfl, x50, x51, hC5, hB5⟩
                           have HD5 := hid (HD.out.drew.step hC5 hB5)
                           have c50 := HD5.out.c0
                           have c51 := HD5.out.c1
                           clear hC5 hB5))
                      all_goals
                        go_wp2_with fail
                        go_meet
                        case rel => exact ⟨_, _, rfl, rfl, HD6.out⟩
                  case rest =>
                    as_aux_lemma =>
                      clear HD c0 c1
                      obtain ⟨k, ok9, rfl, rfl, hd⟩ := hcut
                      have HD := hid hd
                      clear hd
                      go_upto_region 10 with fail
                      go_cut [48] (fun s wc => ∃ b : Bool, s = .bool b ∧ Hd w B (M + 6) (.slice a len cap) Z n vS vL S L wc)
                      case first =>
                        as_aux_lemma =>
                          cases ok9
                          · go_wp2_with fail
                            go_meet
                            case rel => exact ⟨_, rfl, HD.out.mono (by omega)⟩
                          · go_wp2_with fail
                            refine (one_any _ B _ len cap a _ (by omega) (by omega) (by omega) HD.out.cur (HD.out.code HK.out)).mono ?_
                            rintro e w5 ⟨v5, rfl, hC5, hB5⟩
                            have HD5 := hid (HD.out.step hC5 hB5)
                            clear hC5 hB5
                            go_wp2_with fail
                            go_meet
                            case rel => exact ⟨_, rfl, HD5.out⟩
                      case rest =>
                        as_aux_lemma =>
                          clear HD
                          obtain ⟨b, rfl, hd⟩ := hcut
                          have HD := hid hd
                          have c0 := hd.c0
                          have c1 := hd.c1
                          clear hd
                          cases b
                          · go_wp2_with fail
                            go_roundw
                            case rel => exact ⟨j - 1, vS, vL, S, L, by omega, by rw [show ((j - 1 : Nat) : Int) = (j : Int) - 1 from by omega], HD.out.mono (by omega)⟩
                            case measure => simp [intOf]; omega
                          · go_wp2_with fail
                            refine (sClean_n (w.heap.size + 1) vS vL S L _ _ HD.out.hr).mono ?_
                            rintro e w6 ⟨uS, uL, S', L', m6, ok6, rfl, hn6, hr6, hb6⟩
                            obtain ⟨a1, k1, a2, k2, e1, e2, _, _⟩ := hr6.read
                            subst e1; subst e2
                            have hlen := HD.out.len
                            have hd6 := HD.out.on hb6
                            have hz := HD.out.lt
                            have HX := hid (HD.out.takeNew hb6 hr6 (fun e => (hn6 e).trans hlen))
                            have HY : Hid (ok6 = true → Hd w B (M + 6) (.slice a len cap) Z n (.slice a1 S'.length k1) (.slice a2 L'.length k2) S' L' (((w6.setCell ⟨Z, 0, none⟩ (.slice a1 S'.length k1)).setCell ⟨Z, 1, none⟩ (.slice a2 L'.length k2)).alloc (.cells #[.slice a1 S'.length k1, .slice a2 L'.length k2] 26))) := fun e => (hd6.put (hr6.low (by omega)) ((hn6 e).trans hlen)).alloc _
                            have z0 := hd6.c0
                            have z1 := hd6.c1
                            have f0 := box_free hd6.box 0
                            have f1 := box_free hd6.box 1
                            have hz6 := hd6.lt
                            clear hd6 hr6 hb6 hn6 HD
                            cases ok6
                            · go_wp2_with fail
                              go_roundw
                              case rel => exact ⟨j - 1, _, _, _, _, by omega, by rw [show ((j - 1 : Nat) : Int) = (j : Int) - 1 from by omega], HX.out.hd.mono (by omega)⟩
                              case measure => simp [intOf]; omega
                            · go_wp2_with fail
                              go_roundw
                              case rel => exact ⟨j - 1, _, _, _, _, by omega, by rw [show ((j - 1 : Nat) : Int) = (j : Int) - 1 from by omega], (HY.out trivial).mono (by omega)⟩
                              case measure => simp [intOf]; omega
        · obtain rfl : j = 0 := by omega
          have hd0 : decide ((0 : Int) < ((0 : Nat) : Int)) = false := by decide
          clear hj h0
          go_wp2_with fail
          refine (pick_any _ B _ len cap a _ (by omega) (by omega) (by omega) HD.out.cur (HD.out.code HK.out)).mono ?_
          rintro e w4 ⟨q, rfl, q0, q1, hC4, hB4⟩
          have HD4 := hid (HD.out.step hC4 hB4)
          clear hC4 hB4 HD
          have hq := HD4.out.res
          have r0 : w4.cell? ⟨w.heap.size, 0, none⟩ = some (.slice none 0 0) := box_cell hq 0
          have r1 : w4.cell? ⟨w.heap.size, 1, none⟩ = some (.slice none 0 0) := box_cell hq 1
          have rf0 := box_free hq 0
          have rf1 := box_free hq 1
          have z0 := HD4.out.c0
          have z1 := HD4.out.c1
          have hz := HD4.out.lt
          have HLEN := hid HD4.out.len
          clear hq
          have hzw : w.heap.size ≠ Z := by omega
          have hzw2 : Z ≠ w.heap.size := by omega
          obtain ⟨g, kS, eS, hg0, hg1, hgZ, gf, gc, hset⟩ := HD4.out.age hn2
          obtain ⟨gl, kL, ar, cr, m, eL, hl0, hl1, hlc, hlive⟩ := HD4.out.live hn2
          subst eS; subst eL
          have HSET := hid hset
          have HLIVE := hid hlive
          clear hset hlive
          by_cases e0 : q = 0
          · subst e0
            clear gf gc HLIVE HSET hlc
            have HA := hid (among_any [-1, 1000, 1001] 3 w4.heap.size B _ len cap 3 a (w4.alloc (.cells #[.int .i64 (-1), .int .i64 1000, .int .i64 1001] 3)).drew rfl (by decide) (by decide) (by simp) (by omega) (fun i hi => lits_at [-1, 1000, 1001] w4 i hi) (by omega) (HD4.out.alloc _).drew.cur ((HD4.out.alloc _).drew.code HK.out))
            go_upto_region 16 with fail
            go_region_with (go_at_call 68; refine HA.out.mono ?_; rintro e w5 ⟨i5, hi5, rfl, hC5, hB5⟩; (generalize ([-1, 1000, 1001] : List Int).getD i5 0 = av at *); have HD5 := hid ((HD4.out.alloc _).drew.step hC5 hB5); obtain ⟨g5, k5, e5, hg50, hg51, hgZ5, gf5, gc5, hset5⟩ := HD5.out.age hn2; (injection e5 with e51 e52 e53); (injection e51 with e51); (injection e51 with e51 e54 e55); clear e52 e54 e55; subst e51; subst e53; have HSET := hid hset5; have c50 := HD5.out.c0; have c51 := HD5.out.c1; have s0 := box_cell HD5.out.res 0; have s1 := box_cell HD5.out.res 1; have sf0 := box_free HD5.out.res 0; have sf1 := box_free HD5.out.res 1; have hz5 := HD5.out.lt; clear hC5 hB5 hset5)
            all_goals
              go_wp2_with fail
              have hf := (HSET.out av).fin
              refine bodyPost_ret (v := .agg #[.slice (some ⟨g, 0, none⟩) n kS, .slice (some ⟨gl, 0, none⟩) n kL]) (by simp [results, Try.results49, go_sem, s0, s1]) rfl ⟨_, _, _, _, rfl, by rw [List.length_set, HLEN.out]; omega, by rw [List.length_set, HLEN.out]; omega, hf.1, hf.2.1.mono (by omega), hf.2.2⟩
          · have d0 : (q == 0) = false := by simpa using e0
            clear gf gc HSET
            by_cases e1 : q = 1
            · subst e1
              by_cases hm : 0 < m
              · have hdm : decide ((0 : Int) < (m : Int)) = true := decide_eq_true (by omega)
                obtain ⟨r, b, er, hr0, hr1, hrZ, rf, rc, hturn⟩ := HLIVE.out hm
                subst er
                have HTURN := hid hturn
                clear hturn HLIVE
                go_upto_region 19 with fail
                go_big_region
                all_goals
                  go_wp2_with fail
                  obtain ⟨L', hL'⟩ := HTURN.out (!b)
                  have hf := hL'.fin
                  refine bodyPost_ret (v := .agg #[.slice (some ⟨g, 0, none⟩) n kS, .slice (some ⟨gl, 0, none⟩) n kL]) (by simp [results, Try.results49, go_sem, r0, r1]) rfl ⟨_, _, S, L', rfl, by rw [HLEN.out]; omega, by rw [HLEN.out]; omega, hf.1.but ((But.refl B _).drew) (by omega), hf.2.1.drew.mono (by omega), hf.2.2.drew⟩
              · have hdm : decide ((0 : Int) < (m : Int)) = false := decide_eq_false (by omega)
                go_wp2_with fail
                have hf := HD4.out.fin
                refine bodyPost_ret (v := .agg #[.slice (some ⟨g, 0, none⟩) n kS, .slice (some ⟨gl, 0, none⟩) n kL]) (by simp [results, Try.results49, go_sem, r0, r1]) rfl ⟨_, _, S, L, rfl, by rw [HLEN.out]; omega, by rw [HLEN.out]; omega, hf.1, hf.2.1.mono (by omega), hf.2.2⟩
            · have d1 : (q == 1) = false := by simpa using e1
              go_wp2_with fail
              have hf := HD4.out.fin
              refine bodyPost_ret (v := .agg #[.slice (some ⟨g, 0, none⟩) n kS, .slice (some ⟨gl, 0, none⟩) n kL]) (by simp [results, Try.results49, go_sem, r0, r1]) rfl ⟨_, _, S, L, rfl, by rw [HLEN.out]; omega, by rw [HLEN.out]; omega, hf.1, hf.2.1.mono (by omega), hf.2.2⟩
end Go.Proofs.Ytohkhcjdjjlfbaa
