/- The model's DropMark. -/
import Derived.Test.YtmbkdollakbigaaKDg
import Derived.Test.YtmbkdollakbigaaKMr
import Derived.Test.YtmbkdollakbigaaHB
namespace Go.Proofs.Ytmbkdollakbigaa
set_option maxRecDepth 100000
open Go Go.ChangeShapes Go.WideShapes Go.ChangeAt Go.RowKit
/-- what the model's DropMark answers -/
def SdOut (S : List Ly) (m : Int) (w : World) (e : Ending) (w' : World) : Prop := ∃ q r, e = .returned (.tuple #[.agg #[.slice q (drpK S m).length r], .bool (decide (DrpOk S m))]) ∧ Ys w'.heap.size q (drpK S m) w' ∧ Below w.heap.size w w'
theorem SdOut.no {S : List Ly} {m : Int} {w w' : World} (h : ¬ DrpOk S m) (g : Below w.heap.size w w') : SdOut S m w (.returned (.tuple #[.agg #[.slice none 0 0], .bool false])) w' := ⟨none, 0, by rw [drpK_no h, decide_eq_false h]; rfl, by rw [drpK_no h]; exact fun h => absurd h (by simp), g⟩
/-- what is appended of the first k layers -/
def outL (D : List Ly) (n k : Nat) : List Ly := D.take (if k ≤ n then k else k - 1)
theorem outL_low {D : List Ly} {n k : Nat} (h : k < n) (hD : k < D.length) : outL D n (k + 1) = outL D n k ++ [D[k]] := by
  unfold outL
  rw [if_pos (by omega), if_pos (by omega), take_snoc D k hD]
theorem outL_at (D : List Ly) (n : Nat) : outL D n (n + 1) = outL D n n := by
  unfold outL
  rw [if_neg (by omega), if_pos (by omega)]
  rfl
theorem outL_high {D : List Ly} {n k : Nat} (h : n ≤ k) (hD : k < D.length) : outL D n (k + 1 + 1) = outL D n (k + 1) ++ [D[k]] := by
  unfold outL
  rw [if_neg (by omega), if_neg (by omega)]
  have e1 : k + 1 + 1 - 1 = k + 1 := by omega
  have e2 : k + 1 - 1 = k := by omega
  rw [e1, e2, take_snoc D k hD]
theorem outL_all {D : List Ly} {n k : Nat} (h : n < k) (hD : D.length + 1 = k) : outL D n k = D := by
  unfold outL
  rw [if_neg (by omega), List.take_of_length_le (by omega)]
/-- what stands in the region that puts one block, by what is done -/
structure RQ (lf : Nat) (vO : Value) (z Y : Ly) (la : LA) (x : Int) (s : ByteArray) (wo B : World) (pm sl nv px py sd jv pz : Value) (d : Nat → Bool) (z67 z68 z69 z70 z71 z72 z73 z74 z75 z76 z77 z78 : Value) (v : World) : Prop where
  w : d 11 = false → v = B
  v0 : d 0 = true → z67 = .agg #[.int .i64 z.mark, .slice la.p z.bl.length la.c, .slice la.q z.dt.length la.d]
  v1 : d 1 = true → z68 = .int .i64 x
  v2 : d 2 = true → z69 = pm
  v3 : d 3 = true → z70 = sl
  v4 : d 4 = true → z71 = nv
  v5 : d 5 = true → z72 = px
  v6 : d 6 = true → z73 = py
  v7 : d 7 = true → z74 = sd
  v8 : d 8 = true → z75 = jv
  v9 : d 9 = true → z76 = pz
  v10 : d 10 = true → z77 = .string s
  v11 : d 11 = true → ∃ pa ca pb cb, z78 = .agg #[.int .i64 Y.mark, .slice pa Y.bl.length ca, .slice pb Y.dt.length cb] ∧ (d 12 = false → (v.cell? ⟨wo.heap.size, 0, none⟩ = some (.int .i64 z.mark) ∧ v.cell? ⟨wo.heap.size, 1, none⟩ = some (.slice la.p z.bl.length la.c) ∧ v.cell? ⟨wo.heap.size, 2, none⟩ = some (.slice la.q z.dt.length la.d)) ∧ (v.frozen? ⟨wo.heap.size, 0, none⟩ = false ∧ v.frozen? ⟨wo.heap.size, 1, none⟩ = false ∧ v.frozen? ⟨wo.heap.size, 2, none⟩ = false) ∧
    Zin lf wo.heap.size vO Y ⟨pa, ca, 0, pb, cb, 0⟩ (((v.setCell ⟨wo.heap.size, 0, none⟩ (.int .i64 Y.mark)).setCell ⟨wo.heap.size, 1, none⟩ (.slice pa Y.bl.length ca)).setCell ⟨wo.heap.size, 2, none⟩ (.slice pb Y.dt.length cb)) ∧ Below wo.heap.size wo v)
  v12 : d 12 = true → ∃ lb, Zin lf wo.heap.size vO Y lb v ∧ Below wo.heap.size wo v
attribute [-go_sem] Builtin.append_
set_option maxHeartbeats 2000000 in
theorem sdrop_any (a : Option Addr) (cap : Nat) (S : List Ly) (m : Int) (w : World) (hA : Mr a cap S w) :
    Calls Try.prog 14 #[.agg #[.slice a S.length cap], .int .i64 m] w fun e w' => SdOut S m w e w' := by
  have HB := hid (B2.start w (.slice a S.length cap))
  have HA := hid hA
  have HCG : Hid (∀ v, Below w.heap.size w v → Calls Try.prog 18 #[.agg #[.slice a S.length cap]] v fun e w' => e = .returned (.bool (goodK S)) ∧ Below v.heap.size v w') := fun v g => (hA.on g).sgood
  have HCF : Hid (∀ v, Below w.heap.size w v → Calls Try.prog 19 #[.agg #[.slice a S.length cap], .int .i64 m] v fun e w' => e = .returned (.int .i64 (fk S m)) ∧ Below v.heap.size v w') := fun v g => (hA.on g).find m
  have HCO : Hid (GoodK S → ∀ v, Below w.heap.size w v → Calls Try.prog 32 #[.agg #[.slice a S.length cap]] v fun e w' => CpMC S v e w') := fun hg v g => l7OwnC_any a cap S v (good_small hg) (hA.on g).ys
  clear hA
  generalize hW : (w.alloc (.cells #[.slice a S.length cap] 31)).alloc (.cells #[.slice none 0 0] 31) = W at *
  obtain ⟨x0, -, -⟩ := HB.out.cells
  go_enter Try.func14, Try.ntmps14
  go_wp2_with fail
  clear hW
  refine (HCG.out _ HB.out.below).mono ?_
  rintro e w2 ⟨rfl, b2⟩
  have HB2 := hid (HB.out.on b2)
  clear b2 x0 HCG HB
  obtain ⟨x0, z0, f0⟩ := HB2.out.cells
  have HNO : Hid (∀ v, B2 w (.slice a S.length cap) v → ¬ DrpOk S m → ∀ V, V = v.setCell ⟨w.heap.size + 1, 0, none⟩ (.slice none 0 0) → V.cell? ⟨w.heap.size + 1, 0, none⟩ = some (.slice none 0 0) ∧ SdOut S m w (.returned (.tuple #[.agg #[.slice none 0 0], .bool false])) V) := fun v hv hn V hV => by
    obtain ⟨x1, z1, f1⟩ := hv.cells
    rw [hV]
    exact ⟨World.cell?_setCell_same _ _ _ z1, SdOut.no hn (setB hv.below (w.heap.size + 1) 0 (by omega) (.slice none 0 0))⟩
  by_cases hg : GoodK S
  case neg =>
    have hg' := goodK_no hg
    obtain ⟨e0, hM⟩ := HNO.out w2 HB2.out (fun h => hg h.1) _ rfl
    have HM := hid hM
    rw [hg']
    clear hg hg' HCF HCO hM HNO
    go_wp2_with fail
    generalize w2.setCell ⟨w.heap.size + 1, 0, none⟩ (.slice none 0 0) = XX at *
    exact bodyPost_ret (v := .tuple #[.agg #[.slice none 0 0], .bool false]) (by simp [results, Try.results14, go_sem, e0]) rfl HM.out
  have HGK := hid hg
  rw [goodK_iff.2 hg]
  clear hg z0 f0
  have HC1 := hid (HCO.out HGK.out)
  clear HCO
  go_wp2_with fail
  refine (HCF.out _ HB2.out.below).mono ?_
  rintro e w3 ⟨rfl, b3⟩
  have HB3 := hid (HB2.out.on b3)
  clear b3 x0 HCF HB2
  obtain ⟨x0, z0, f0⟩ := HB3.out.cells
  by_cases hD : DrpOk S m
  case neg =>
    obtain ⟨e0, hM⟩ := HNO.out w3 HB3.out hD _ rfl
    have HM := hid hM
    have h8 := HGK.out.2.1
    have h1 := HGK.out.1
    have hfl := fndK_le S m
    have hpw := pred_wrap (S.length - 1) (by omega)
    have e8 : S.length - 1 + 1 = S.length := by omega
    rw [e8] at hpw
    obtain ⟨n8, hn8⟩ : ∃ n8, S.length = n8 := ⟨_, rfl⟩
    by_cases hf : fndK S m < S.length
    · have hlast : fndK S m = S.length - 1 := by
        have : ¬ fndK S m + 1 < S.length := fun h => hD ⟨HGK.out, h⟩
        omega
      rw [fk_at hf, hlast]
      rw [hn8] at x0 h8 h1 hpw ⊢
      have hq1 : decide (((n8 - 1 : Nat) : Int) < 0) = false := decide_eq_false (by omega)
      clear hD hf hlast HC1 hM HNO hn8 hfl e8
      go_wp2_with fail
      generalize w3.setCell ⟨w.heap.size + 1, 0, none⟩ (.slice none 0 0) = XX at *
      exact bodyPost_ret (v := .tuple #[.agg #[.slice none 0 0], .bool false]) (by simp [results, Try.results14, go_sem, e0]) rfl HM.out
    · rw [fk_none hf]
      clear hD hf HC1 hM HNO hn8 hfl e8 hpw
      go_wp2_with fail
      generalize w3.setCell ⟨w.heap.size + 1, 0, none⟩ (.slice none 0 0) = XX at *
      exact bodyPost_ret (v := .tuple #[.agg #[.slice none 0 0], .bool false]) (by simp [results, Try.results14, go_sem, e0]) rfl HM.out
  have HD := hid hD
  clear hD z0 f0 HNO
  obtain ⟨S1, y0, y1, S2, rfl, hk1⟩ := drp_split HD.out.2
  rw [fk_at (by have := HD.out.2; omega), ← hk1]
  have HK1 := hid hk1
  have hlen : (S1 ++ y0 :: y1 :: S2).length = S1.length + (S2.length + 2) := by simp
  have h8 := HGK.out.2.1
  have hcap := HA.out.cap
  obtain ⟨b, off, rfl, hb, -⟩ := (HA.out.on HB3.out.below).ys (by omega)
  have HL := hid hlen
  rw [hlen] at x0 h8 hcap
  obtain ⟨n, hn⟩ : ∃ n, S1.length = n := ⟨_, rfl⟩
  have HN := hid hn
  obtain ⟨r, hr⟩ : ∃ r, S2.length = r := ⟨_, rfl⟩
  have HR := hid hr
  rw [hn, hr] at x0 h8 hcap
  rw [hn]
  clear hn hr hlen hk1
  have HLY : Hid (lyOk y0 ∧ lyOk y1) := by
    have k0 := HGK.out.2.2 S1.length (by simp)
    have k1 := HGK.out.2.2 (S1.length + 1) (by simp)
    have a0 : (S1 ++ y0 :: y1 :: S2)[S1.length]'(by simp) = y0 := by simp
    have a1 : (S1 ++ y0 :: y1 :: S2)[S1.length + 1]'(by simp) = y1 := by
      rw [List.getElem_append_right (by omega)]; simp
    rw [a0] at k0
    rw [a1] at k1
    exact ⟨k0.2.2.2, k1.2.2.2⟩
  have hq1 : decide ((n : Int) < 0) = false := decide_eq_false (by omega)
  have hpw : wrap64 (((n + (r + 2) : Nat) : Int) - 1) = ((n + (r + 1) : Nat) : Int) := by unfold wrap64; omega
  have hq2 : ((n : Int) == ((n + (r + 1) : Nat) : Int)) = false := beq_eq_false_iff_ne.2 (by omega)
  rw [HL.out, HN.out, HR.out] at HC1
  have b4 := boxB w3 (.cells #[.slice none 0 0] 31)
  have HO4 : Hid ((w3.alloc (.cells #[.slice none 0 0] 31)).heap[w3.heap.size]? = some (.cells #[.slice none 0 0] 31)) := heap_last _ _
  have HZ4 : Hid ((w3.alloc (.cells #[.slice none 0 0] 31)).heap.size = w3.heap.size + 1) := heap_size _ _
  have hs30 := HB3.out.size
  have HB4 := hid (HB3.out.on b4)
  obtain ⟨x4, -, -⟩ := HB4.out.cells
  rw [HL.out, HN.out, HR.out] at x4
  generalize hW4 : w3.alloc (.cells #[.slice none 0 0] 31) = w4 at *
  clear b4
  go_wp2_with fail
  clear hW4 HB3 x0 hq1 hpw hq2
  refine (HC1.out _ HB4.out.below).mono ?_
  rintro e w6 ⟨v0, L0, rfl, hL0, ⟨hK0, hC0⟩, b6⟩
  have hLn : L0.length = n + (r + 2) := by have := congrArg List.length hL0; rw [List.length_map, HL.out, HN.out, HR.out] at this; exact this
  obtain ⟨R, cv, hRv⟩ : ∃ R cv, v0 = .slice (some ⟨R, 0, none⟩) (n + (r + 2)) cv := by
    obtain ⟨_, ⟨_, h1⟩ | ⟨g, cp, cur, h1, _⟩⟩ := hK0.row
    · omega
    · exact ⟨g, cp, by rw [h1, hLn]⟩
  subst hRv
  have HK0 := hid hK0
  have HC0 := hid hC0
  have HL0 := hid hL0
  have HLN := hid hLn
  have hs6 := b6.size
  have hz4 := HZ4.out
  have hs3 := HB4.out.size
  have hO6 : w3.heap.size < w6.heap.size := by omega
  have HB6 := hid (HB4.out.on b6)
  have HOB : Hid (Ob w3.heap.size (.slice none 0 0) w6 w6) := ⟨Below.refl _ _, fun _ _ _ => rfl, (b6.block _ (by omega)).trans HO4.out⟩
  have HRT : Hid (∀ vO wr, Ob w3.heap.size vO w6 wr → KG w4.heap.size (.slice (some ⟨R, 0, none⟩) (n + (r + 2)) cv) L0 wr ∧ Below w.heap.size w wr) := fun vO wr h => ⟨HK0.out.keep h.bel.size (fun X h1 h2 => h.keep X h2 (by omega)), HB6.out.below.trans (h.bel.mono (by omega))⟩
  have HQ : Hid (∃ p0 c0 q0 d0 p1 c1, ∀ v, Below w.heap.size w v → v.cell? ⟨w.heap.size, 0, none⟩ = v.cell? ⟨w.heap.size, 0, none⟩ ∧ v.cell? ⟨b, off + n * 3 + 1, none⟩ = some (.slice p0 y0.bl.length c0) ∧ v.cell? ⟨b, off + n * 3 + 2, none⟩ = some (.slice q0 y0.dt.length d0) ∧ v.cell? ⟨b, off + (n + 1) * 3 + 1, none⟩ = some (.slice p1 y1.bl.length c1) ∧ Is v.heap.size p0 y0.bl v ∧ Ss v.heap.size q0 y0.dt v ∧ Is v.heap.size p1 y1.bl v) := by
    obtain ⟨b', o', e, hb', hc⟩ := HA.out.ys (by have := HL.out; omega)
    injection e with e
    injection e with e1 e2 _
    subst e1 e2
    obtain ⟨p0, c0, q0, d0, -, k1, k2, k3, k4⟩ := hc n (by have := HL.out; have := HN.out; omega)
    obtain ⟨p1, c1, q1, d1, -, k5, -, k6, -⟩ := hc (n + 1) (by have := HL.out; have := HN.out; omega)
    have a0 : (S1 ++ y0 :: y1 :: S2)[n]'(by have := HL.out; have := HN.out; omega) = y0 := by
      rw [List.getElem_append_right (by have := HN.out; omega)]
      have e : n - S1.length = 0 := by have := HN.out; omega
      simp only [e, List.getElem_cons_zero]
    have a1 : (S1 ++ y0 :: y1 :: S2)[n + 1]'(by have := HL.out; have := HN.out; omega) = y1 := by
      rw [List.getElem_append_right (by have := HN.out; omega)]
      have e : n + 1 - S1.length = 1 := by have := HN.out; omega
      simp only [e, List.getElem_cons_succ, List.getElem_cons_zero]
    rw [a0] at k1 k2 k3 k4
    rw [a1] at k5 k6
    exact ⟨p0, c0, q0, d0, p1, c1, fun v g => ⟨rfl, (g.cell (p := ⟨b, _, none⟩) hb').trans k1, (g.cell (p := ⟨b, _, none⟩) hb').trans k2, (g.cell (p := ⟨b, _, none⟩) hb').trans k5, (k3.below g).mono g.size, (k4.below g).mono g.size, (k6.below g).mono g.size⟩⟩
  obtain ⟨p0, cc0, q0, d0, p1, cc1, hQ⟩ := HQ.out
  clear HQ
  have HQ : Hid (∀ vO v, Ob w3.heap.size vO w6 v → v.cell? ⟨w.heap.size, 0, none⟩ = some (.slice (some ⟨b, off, none⟩) (n + (r + 2)) cap) ∧ v.cell? ⟨b, off + n * 3 + 1, none⟩ = some (.slice p0 y0.bl.length cc0) ∧ v.cell? ⟨b, off + n * 3 + 2, none⟩ = some (.slice q0 y0.dt.length d0) ∧ v.cell? ⟨b, off + (n + 1) * 3 + 1, none⟩ = some (.slice p1 y1.bl.length cc1) ∧ Is v.heap.size p0 y0.bl v ∧ Ss v.heap.size q0 y0.dt v ∧ Is v.heap.size p1 y1.bl v) := fun vO v h => by
    obtain ⟨-, k1⟩ := hQ v (HRT.out _ _ h).2
    have h6 := HB6.out.x
    rw [HL.out, HN.out, HR.out] at h6
    exact ⟨box_cell ((h.bel.block _ (by omega)).trans h6) 0, k1⟩
  clear hQ
  clear hK0 hC0 hL0 hLn b6 HC1 HO4 HB4 x4
  generalize (Value.agg #[Value.slice (some ⟨b, off, none⟩) (S1.length + (S2.length + 1 + 1)) cap]) = AG
  generalize (Value.bool ((n : Int) == (n : Int) + ((r : Int) + 2) - 1)) = BQ
  have hfld : Sem.run Try.prog (Instr.field 31 (.agg #[.slice (some ⟨R, 0, none⟩) (n + (r + 2)) cv]) 0) w6 = .ok (.slice (some ⟨R, 0, none⟩) (n + (r + 2)) cv) w6 := by first | rfl | (kernel_rfl)
  go_wp2_with fail
  clear hfld
  go_loopw [34] (fun i wr => ∃ (k : Nat) (vO : Value) (L : List (Ly × LA)), k ≤ n + (r + 2) ∧ i = .int .i64 k ∧ L.map (·.1) = outL (S1 ++ dropY y0 y1 :: S2) n k ∧ RG w6.heap.size w4.heap.size vO L wr ∧ Ob w3.heap.size vO w6 wr) (fun i _ => n + (r + 2) - (intOf i).toNat)
  case atStart => exact ⟨0, _, [], Nat.zero_le _, rfl, rfl, RG.nil _ _ _, HOB.out⟩
  case round =>
    obtain ⟨k, vO, L, hk, rfl, hL, hG, hO⟩ := hrel
    have HG := hid hG
    have HO := hid hO
    have HLL := hid hL
    have hsz := hO.bel.size
    clear hL hG hO
    by_cases hlt : k < n + (r + 2)
    · obtain ⟨hKr, hbw⟩ := HRT.out _ _ HO.out
      have hrk := hKr.rowK HC0.out
      obtain ⟨c0, c1, c2⟩ := hrk.cell k (by rw [HLN.out]; exact hlt)
      obtain ⟨Y, hY⟩ : ∃ Y, L0[k]'(by rw [HLN.out]; exact hlt) = Y := ⟨_, rfl⟩
      have hfz := HK0.out.fz (u := vO) HO.out.bel.size (fun X h1 h2 => HO.out.keep X h2 (by omega)) (fun g hg => (HG.out.row.lt g hg).1) k (by rw [HLN.out]; exact hlt)
      have hcc := HC0.out (L0[k]'(by rw [HLN.out]; exact hlt)) (List.getElem_mem _)
      have hYS : Y.1 = (S1 ++ y0 :: y1 :: S2)[k]'(by rw [HL.out, HN.out, HR.out]; exact hlt) := by
        rw [← hY]
        have : (L0.map (·.1))[k]'(by rw [List.length_map, HLN.out]; exact hlt) = (S1 ++ y0 :: y1 :: S2)[k]'(by rw [HL.out, HN.out, HR.out]; exact hlt) := by simp only [HL0.out]
        rw [List.getElem_map] at this
        exact this
      rw [hY] at c0 c1 c2 hfz hcc
      obtain ⟨⟨mk, bl, dt⟩, ⟨p, c, f, q, d, g⟩⟩ := Y
      simp only at c0 c1 c2 hcc hYS
      clear hY hrk hKr
      have HYS := hid hYS
      clear hYS
      have bY := boxB wr (.cells #[.int .i64 mk, .slice p bl.length c, .slice q dt.length d] 64)
      have kY := heap_last wr (.cells #[.int .i64 mk, .slice p bl.length c, .slice q dt.length d] 64)
      have sY : (wr.alloc (.cells #[.int .i64 mk, .slice p bl.length c, .slice q dt.length d] 64)).heap.size = wr.heap.size + 1 := heap_size _ _
      have HO1 := hid (HO.out.on hO6 bY)
      have HG1 := hid (HG.out.on bY)
      have hf1 := hid (hfz.on bY)
      have hfz0 := hid hfz
      have HKY := hid kY
      have HBW := hid (hbw.trans (bY.mono hbw.size))
      clear hfz bY hbw sY kY
      by_cases e1 : k = n
      · subst e1
        go_wp2_with fail
        go_roundw
        case rel => exact ⟨k + 1, vO, L, by omega, by go_num, by rw [HLL.out, outL_at], HG1.out, HO1.out⟩
        case measure => simp [intOf]; omega
      · have hlen : L.length ≤ k := by
          have := congrArg List.length HLL.out
          rw [List.length_map] at this
          unfold outL at this
          rw [List.length_take] at this
          split at this <;> omega
        by_cases e2 : k = n + 1
        · have HE2 := hid e2
          have hkk : ((k : Int) == (n : Int) + 1) = true := by rw [e2]; simp
          have hdl : decide ((k : Int) < (n : Int) + ((r : Int) + 2)) = true := decide_eq_true (by omega)
          have hkn : ((k : Int) == (n : Int)) = false := beq_eq_false_iff_ne.2 (by omega)
          obtain ⟨wo, hwo⟩ : ∃ wo, wo = wr := ⟨_, rfl⟩
          subst hwo
          have hy1 : (⟨mk, bl, dt⟩ : Ly) = y1 := by
            rw [HYS.out]
            have e : ∀ i (h : i < (S1 ++ y0 :: y1 :: S2).length), i = n + 1 → (S1 ++ y0 :: y1 :: S2)[i] = y1 := fun i h ei => by
              subst ei
              rw [List.getElem_append_right (by have := HN.out; omega)]
              have e : n + 1 - S1.length = 1 := by have := HN.out; omega
              simp only [e, List.getElem_cons_succ, List.getElem_cons_zero]
            exact e k _ e2
          clear e1 e2
          obtain rfl : mk = y1.mark := congrArg Ly.mark hy1
          obtain rfl : bl = y1.bl := congrArg Ly.bl hy1
          obtain rfl : dt = y1.dt := congrArg Ly.dt hy1
          have HZ1 : Hid (Zin w4.heap.size wo.heap.size vO (mrg y0 y1 0) ⟨p, c, f, q, d, g⟩ (wo.alloc (.cells #[.int .i64 y1.mark, .slice p y1.bl.length c, .slice q y1.dt.length d] 64))) := by
            have h1 := hfz0.out
            refine ⟨hf1.out, ?_, ?_, hcc.1, hcc.2, HKY.out⟩
            · have := gsl_new h1.bl; rw [List.length_map] at this; exact this
            · have := gsl_new h1.dt; rw [List.length_map] at this; exact this
          have hvs := HO.out.bel.size
          have HVB : Hid (∀ k, vO.ownBlock = some k → k < wo.heap.size) := fun k e => (HG.out.row.lt k e).2
          have HB1 : Hid (Below wo.heap.size wo (wo.alloc (.cells #[.int .i64 y1.mark, .slice p y1.bl.length c, .slice q y1.dt.length d] 64))) := boxB _ _
          clear hy1 HYS hcc hf1 HKY HG1 HO1 HBW hfz0
          generalize hW1 : wo.alloc (.cells #[.int .i64 y1.mark, .slice p y1.bl.length c, .slice q y1.dt.length d] 64) = W1 at *
          obtain ⟨xm, xb, xd, xe, -, -, -⟩ := HQ.out _ W1 (HO.out.on hO6 HB1.out)
          rw [← HE2.out] at xe
          go_wp2_with fail
          trace_state
          go_loopw [53] (fun i wr => ∃ (j : Nat) (la : LA), j ≤ y0.bl.length ∧ i = .int .i64 j ∧ Zin w4.heap.size wo.heap.size vO (mrg y0 y1 j) la  wr ∧ Below wo.heap.size wo wr) (fun i _ => y0.bl.length - (intOf i).toNat)
          case atStart => exact ⟨0, _, Nat.zero_le _, rfl, HZ1.out, HB1.out⟩
          case round =>
            obtain ⟨j, la, hj, rfl, hZ, hBq⟩ := hrel
            have HZ := hid hZ
            have HBq := hid hBq
            clear hZ hBq hW1 c0 c1 c2 xm xb xd xe HZ1 HB1
            obtain ⟨xm, xb, xd, xe, hI0, hS0, hI1⟩ := HQ.out _ wr (HO.out.on hO6 HBq.out)
            rw [← HE2.out] at xe
            by_cases hjl : j < y0.bl.length
            · obtain ⟨bp, op, hp0, hbp, hcp⟩ := hI0.cell (by omega)
              obtain ⟨bq, oq, hq0, hbq, hcq⟩ := hS0.cell (by have := HLY.out.1.2.1; omega)
              subst hp0 hq0
              have hjd : j < y0.dt.length := by have := HLY.out.1.2.1; omega
              have HJL := hid hjl
              have hjs : j < 16 := by have := rise_few HLY.out.1.1; omega
              have x1 := hcp j hjl
              have HXS := hid (hcq j hjd)
              have HH := hid (hasK_any p1 cc1 y1.bl y0.bl[j] wr (by have := rise_few HLY.out.2.1; omega) hI1)
              have HB15 : Hid (0 ≤ y0.bl[j] ∧ y0.bl[j] ≤ 15) := rise_in HLY.out.1.1 _ (List.getElem_mem hjl)
              have HSZ : Hid (y0.dt[j].size = 2) := HLY.out.1.2.2 j hjd
              have HIN : Hid (y0.bl[j] ∈ y1.bl → mrg y0 y1 (j + 1) = mrg y0 y1 j) := mrg_in hjl
              have HOUT : Hid (¬ y0.bl[j] ∈ y1.bl → mrg y0 y1 (j + 1) = putLy (mrg y0 y1 j) y0.bl[j] y0.dt[j]) := mrg_out hjl hjd
              generalize y0.bl[j] = x at *
              generalize y0.dt[j] = s at *
              clear hcp hcq hI0 hS0 hI1 xb xd hjd
              go_wp2_with fail
              refine HH.out.mono ?_
              rintro e wq ⟨rfl, rfl⟩
              by_cases hm : x ∈ y1.bl
              · rw [decide_eq_true hm]
                have HE := hid (HIN.out hm)
                clear hm HH HIN HOUT
                go_wp2_with fail
                go_roundw
                case rel => exact ⟨j + 1, la, HJL.out, by go_num, by rw [HE.out]; exact HZ.out, HBq.out⟩
                case measure => have := HJL.out; simp [intOf]; omega
              · rw [decide_eq_false hm]
                have HE := hid (HOUT.out hm)
                clear hm HH HIN HOUT
                go_upto_region 16 with fail
                obtain ⟨z, hz⟩ : ∃ z, mrg y0 y1 j = z := ⟨_, rfl⟩
                rw [hz] at HZ HE
                have HOK : Hid (lyOk z) := by rw [← hz]; exact (mrg_inv HLY.out.1 HLY.out.2 j (Nat.le_of_lt HJL.out)).2.1
                clear hz
                obtain ⟨Y, hY⟩ : ∃ Y, putLy z x s = Y := ⟨_, rfl⟩
                rw [hY] at HE
                have HBD : Hid (Below wo.heap.size wo wq.drew) := HBq.out.trans ((Below.refl _ _).drew.mono HBq.out.size)
                have HZD : Hid (Zin w4.heap.size wo.heap.size vO z la wq.drew) := HZ.out.on (Below.refl _ _).drew
                have HLF : Hid (w4.heap.size ≤ wq.drew.heap.size) := by show w4.heap.size ≤ wq.heap.size; have := HBq.out.size; omega
                have HVQ : Hid (∀ k, vO.ownBlock = some k → k < wq.drew.heap.size) := fun k e => Nat.lt_of_lt_of_le (HVB.out k e) HBq.out.size
                have HPUT : Hid (Calls Try.prog 34 #[.agg #[.int .i64 z.mark, .slice la.p z.bl.length la.c, .slice la.q z.dt.length la.d], .int .i64 x, .string s] wq.drew fun e w' => PutOut Y z.bl la.p wq.drew e w') := by
                  have := l7Put_any la.p la.q la.c la.d z x s wq.drew HOK.out HZD.out.cb HZD.out.cd HZD.out.fz.bl HZD.out.fz.dt
                  rw [hY] at this
                  exact this
                obtain ⟨xm, xb, xd, -, -, hSq, -⟩ := HQ.out _ wq.drew (HO.out.on hO6 HBD.out)
                have b0 : wq.drew.cell? ⟨wo.heap.size, 0, none⟩ = some (.int .i64 z.mark) := box_cell HZD.out.box 0
                have b1 : wq.drew.cell? ⟨wo.heap.size, 1, none⟩ = some (.slice la.p z.bl.length la.c) := box_cell HZD.out.box 1
                have b2 : wq.drew.cell? ⟨wo.heap.size, 2, none⟩ = some (.slice la.q z.dt.length la.d) := box_cell HZD.out.box 2
                have xs : wq.drew.cell? ⟨bq, oq + j, none⟩ = some (.string s) := HXS.out
                have hjd : j < y0.dt.length := by have := HLY.out.1.2.1; have := HJL.out; omega
                have hnn : (n : Int) < (n : Int) + ((r : Int) + 2) := by omega
                have hmix : Try.prog.follows .mixedOrders = true := by kernel_rfl
                clear HXS HZ HBq HB15 HSZ HOK hY xe hSq
                refine Code.wp_mono (Q := fun e a' W' => e = .normal ∧ ∃ z67 z68 z69 z70 z71 z72 z73 z74 z75 z76 z77 z78 : Value, a' = { tmps := #[AG, .int .i64 m, .pointer (some ⟨w.heap.size, 0, none⟩), undef, .pointer (some ⟨w.heap.size + 1, 0, none⟩), .bool false, .int .i64 (n : Int), .pointer (some ⟨w3.heap.size, 0, none⟩), .int .i64 (k : Int), .pointer (some ⟨wo.heap.size, 0, none⟩), .int .i64 (j : Int), .int .i64 x, AG, .bool true, .bool false, undef, AG, .int .i64 m, .int .i64 (n : Int), .int .i64 (n : Int), .bool false, .bool false, .int .i64 (n : Int), .pointer (some ⟨w.heap.size, 0, none⟩), .slice (some ⟨b, off, none⟩) (n + (r + 2)) cap, .int .i64 ((n : Int) + ((r : Int) + 2)), .int .i64 ((n : Int) + ((r : Int) + 2) - 1), BQ, BQ, undef, .agg #[.slice (some ⟨b, off, none⟩) (n + (r + 2)) cap], .agg #[.slice (some ⟨R, 0, none⟩) (n + (r + 2)) cv], .slice (some ⟨R, 0, none⟩) (n + (r + 2)) cv, .int .i64 ((n : Int) + ((r : Int) + 2)), .int .i64 (k : Int), .bool true, .int .i64 (k : Int), .pointer (some ⟨R, k * 3, none⟩), .agg #[.int .i64 y1.mark, .slice p y1.bl.length c, .slice q y1.dt.length d], .int .i64 (k : Int), .int .i64 (n : Int), .bool false, .int .i64 (k : Int), .int .i64 (n : Int), .int .i64 ((n : Int) + 1), .bool true, .pointer (some ⟨w.heap.size, 0, none⟩), .slice (some ⟨b, off, none⟩) (n + (r + 2)) cap, .int .i64 (n : Int), .pointer (some ⟨b, off + n * 3, none⟩), .pointer (some ⟨b, off + n * 3 + 1, none⟩), .slice (some ⟨bp, op, none⟩) y0.bl.length cc0, .int .i64 (y0.bl.length : Int), .int .i64 (j : Int), .bool true, .int .i64 (j : Int), .pointer (some ⟨bp, op + j, none⟩), .int .i64 x, .pointer (some ⟨w.heap.size, 0, none⟩), .slice (some ⟨b, off, none⟩) (n + (r + 2)) cap, .int .i64 (k : Int), .pointer (some ⟨b, off + k * 3, none⟩), .pointer (some ⟨b, off + k * 3 + 1, none⟩), .slice p1 y1.bl.length cc1, .int .i64 x, .bool false, .bool true, z67, z68, z69, z70, z71, z72, z73, z74, z75, z76, z77, z78, u79, u80, u81, u82, u83, u84, u85, u86, undef], defers := [] } ∧ ∃ lb, Zin w4.heap.size wo.heap.size vO Y lb W' ∧ Below wo.heap.size wo W') ?_ ?_
                case refine_2 =>
                  refine wp_region_inv2 (I := fun dn a' v => ∃ z67 z68 z69 z70 z71 z72 z73 z74 z75 z76 z77 z78 : Value, a' = { tmps := #[AG, .int .i64 m, .pointer (some ⟨w.heap.size, 0, none⟩), undef, .pointer (some ⟨w.heap.size + 1, 0, none⟩), .bool false, .int .i64 (n : Int), .pointer (some ⟨w3.heap.size, 0, none⟩), .int .i64 (k : Int), .pointer (some ⟨wo.heap.size, 0, none⟩), .int .i64 (j : Int), .int .i64 x, AG, .bool true, .bool false, undef, AG, .int .i64 m, .int .i64 (n : Int), .int .i64 (n : Int), .bool false, .bool false, .int .i64 (n : Int), .pointer (some ⟨w.heap.size, 0, none⟩), .slice (some ⟨b, off, none⟩) (n + (r + 2)) cap, .int .i64 ((n : Int) + ((r : Int) + 2)), .int .i64 ((n : Int) + ((r : Int) + 2) - 1), BQ, BQ, undef, .agg #[.slice (some ⟨b, off, none⟩) (n + (r + 2)) cap], .agg #[.slice (some ⟨R, 0, none⟩) (n + (r + 2)) cv], .slice (some ⟨R, 0, none⟩) (n + (r + 2)) cv, .int .i64 ((n : Int) + ((r : Int) + 2)), .int .i64 (k : Int), .bool true, .int .i64 (k : Int), .pointer (some ⟨R, k * 3, none⟩), .agg #[.int .i64 y1.mark, .slice p y1.bl.length c, .slice q y1.dt.length d], .int .i64 (k : Int), .int .i64 (n : Int), .bool false, .int .i64 (k : Int), .int .i64 (n : Int), .int .i64 ((n : Int) + 1), .bool true, .pointer (some ⟨w.heap.size, 0, none⟩), .slice (some ⟨b, off, none⟩) (n + (r + 2)) cap, .int .i64 (n : Int), .pointer (some ⟨b, off + n * 3, none⟩), .pointer (some ⟨b, off + n * 3 + 1, none⟩), .slice (some ⟨bp, op, none⟩) y0.bl.length cc0, .int .i64 (y0.bl.length : Int), .int .i64 (j : Int), .bool true, .int .i64 (j : Int), .pointer (some ⟨bp, op + j, none⟩), .int .i64 x, .pointer (some ⟨w.heap.size, 0, none⟩), .slice (some ⟨b, off, none⟩) (n + (r + 2)) cap, .int .i64 (k : Int), .pointer (some ⟨b, off + k * 3, none⟩), .pointer (some ⟨b, off + k * 3 + 1, none⟩), .slice p1 y1.bl.length cc1, .int .i64 x, .bool false, .bool true, z67, z68, z69, z70, z71, z72, z73, z74, z75, z76, z77, z78, u79, u80, u81, u82, u83, u84, u85, u86, undef], defers := [] } ∧ RQ w4.heap.size vO z Y la x s wo wq.drew (.pointer (some ⟨w.heap.size, 0, none⟩)) (.slice (some ⟨b, off, none⟩) (n + (r + 2)) cap) (.int .i64 (n : Int)) (.pointer (some ⟨b, off + n * 3, none⟩)) (.pointer (some ⟨b, off + n * 3 + 2, none⟩)) (.slice (some ⟨bq, oq, none⟩) y0.dt.length d0) (.int .i64 (j : Int)) (.pointer (some ⟨bq, oq + j, none⟩)) dn z67 z68 z69 z70 z71 z72 z73 z74 z75 z76 z77 z78 v) hmix (by kernel_rfl) ?h0 ?hs ?he
                  case h0 =>
                    refine ⟨u67, u68, u69, u70, u71, u72, u73, u74, u75, u76, u77, u78, rfl, ?_⟩
                    constructor
                    · exact fun _ => rfl
                    all_goals (intro e; cases e)
                  case he =>
                    rintro dn a' v hall ⟨z67, z68, z69, z70, z71, z72, z73, z74, z75, z76, z77, z78, rfl, hR⟩
                    exact ⟨rfl, z67, z68, z69, z70, z71, z72, z73, z74, z75, z76, z77, z78, rfl, hR.v12 (hall 12 (by decide))⟩
                  case hs =>
                    intro j9 hj9 dn a' v hup hd hnd hI
                    have hj13 : j9 < 13 := hj9
                    clear hj9
                    obtain (rfl | rfl | rfl | rfl | rfl | rfl | rfl | rfl | rfl | rfl | rfl | rfl | rfl) : j9 = 0 ∨ j9 = 1 ∨ j9 = 2 ∨ j9 = 3 ∨ j9 = 4 ∨ j9 = 5 ∨ j9 = 6 ∨ j9 = 7 ∨ j9 = 8 ∨ j9 = 9 ∨ j9 = 10 ∨ j9 = 11 ∨ j9 = 12 := by omega
                    · skip
                      obtain ⟨z67, z68, z69, z70, z71, z72, z73, z74, z75, z76, z77, z78, rfl, hR⟩ := hI
                      have hd11 : dn 11 = false := Bool.eq_false_iff.2 fun e => by have := hup 14 11 e 0 (of_decide_eq_true (by kernel_rfl)); rw [hnd] at this; cases this
                      obtain rfl := hR.w hd11
                      refine wpOp_step rfl (fun K hK0 => ?_)
                      have hK := hid hK0
                      clear hK0
                      rw [if_pos (by rfl)]
                      go_simp
                      exact hK.out _ _ ⟨_, _, _, _, _, _, _, _, _, _, _, _, rfl, { hR with v0 := fun _ => rfl }⟩
                    · skip
                      obtain ⟨z67, z68, z69, z70, z71, z72, z73, z74, z75, z76, z77, z78, rfl, hR⟩ := hI
                      have hd11 : dn 11 = false := Bool.eq_false_iff.2 fun e => by have := hup 14 11 e 1 (of_decide_eq_true (by kernel_rfl)); rw [hnd] at this; cases this
                      obtain rfl := hR.w hd11
                      refine wpOp_step rfl (fun K hK0 => ?_)
                      have hK := hid hK0
                      clear hK0
                      rw [if_pos (by rfl)]
                      go_simp
                      exact hK.out _ _ ⟨_, _, _, _, _, _, _, _, _, _, _, _, rfl, { hR with v1 := fun _ => rfl }⟩
                    · skip
                      obtain ⟨z67, z68, z69, z70, z71, z72, z73, z74, z75, z76, z77, z78, rfl, hR⟩ := hI
                      have hd11 : dn 11 = false := Bool.eq_false_iff.2 fun e => by have := hup 14 11 e 2 (of_decide_eq_true (by kernel_rfl)); rw [hnd] at this; cases this
                      obtain rfl := hR.w hd11
                      refine wpOp_step rfl (fun K hK0 => ?_)
                      have hK := hid hK0
                      clear hK0
                      rw [if_pos (by rfl)]
                      go_simp
                      exact hK.out _ _ ⟨_, _, _, _, _, _, _, _, _, _, _, _, rfl, { hR with v2 := fun _ => rfl }⟩
                    · skip
                      obtain ⟨z67, z68, z69, z70, z71, z72, z73, z74, z75, z76, z77, z78, rfl, hR⟩ := hI
                      have hd11 : dn 11 = false := Bool.eq_false_iff.2 fun e => by have := hup 14 11 e 3 (of_decide_eq_true (by kernel_rfl)); rw [hnd] at this; cases this
                      obtain rfl := hR.w hd11
                      obtain rfl := hR.v2 (hd 2 (of_decide_eq_true (by kernel_rfl)))
                      refine wpOp_step rfl (fun K hK0 => ?_)
                      have hK := hid hK0
                      clear hK0
                      rw [if_pos (by rfl)]
                      go_simp
                      exact hK.out _ _ ⟨_, _, _, _, _, _, _, _, _, _, _, _, rfl, { hR with v3 := fun _ => rfl }⟩
                    · skip
                      obtain ⟨z67, z68, z69, z70, z71, z72, z73, z74, z75, z76, z77, z78, rfl, hR⟩ := hI
                      have hd11 : dn 11 = false := Bool.eq_false_iff.2 fun e => by have := hup 14 11 e 4 (of_decide_eq_true (by kernel_rfl)); rw [hnd] at this; cases this
                      obtain rfl := hR.w hd11
                      refine wpOp_step rfl (fun K hK0 => ?_)
                      have hK := hid hK0
                      clear hK0
                      rw [if_pos (by rfl)]
                      go_simp
                      exact hK.out _ _ ⟨_, _, _, _, _, _, _, _, _, _, _, _, rfl, { hR with v4 := fun _ => rfl }⟩
                    · skip
                      obtain ⟨z67, z68, z69, z70, z71, z72, z73, z74, z75, z76, z77, z78, rfl, hR⟩ := hI
                      have hd11 : dn 11 = false := Bool.eq_false_iff.2 fun e => by have := hup 14 11 e 5 (of_decide_eq_true (by kernel_rfl)); rw [hnd] at this; cases this
                      obtain rfl := hR.w hd11
                      obtain rfl := hR.v3 (hd 3 (of_decide_eq_true (by kernel_rfl)))
                      obtain rfl := hR.v4 (hd 4 (of_decide_eq_true (by kernel_rfl)))
                      refine wpOp_step rfl (fun K hK0 => ?_)
                      have hK := hid hK0
                      clear hK0
                      rw [if_pos (by rfl)]
                      go_simp
                      exact hK.out _ _ ⟨_, _, _, _, _, _, _, _, _, _, _, _, rfl, { hR with v5 := fun _ => rfl }⟩
                    · skip
                      obtain ⟨z67, z68, z69, z70, z71, z72, z73, z74, z75, z76, z77, z78, rfl, hR⟩ := hI
                      have hd11 : dn 11 = false := Bool.eq_false_iff.2 fun e => by have := hup 14 11 e 6 (of_decide_eq_true (by kernel_rfl)); rw [hnd] at this; cases this
                      obtain rfl := hR.w hd11
                      obtain rfl := hR.v5 (hd 5 (of_decide_eq_true (by kernel_rfl)))
                      refine wpOp_step rfl (fun K hK0 => ?_)
                      have hK := hid hK0
                      clear hK0
                      rw [if_pos (by rfl)]
                      go_simp
                      exact hK.out _ _ ⟨_, _, _, _, _, _, _, _, _, _, _, _, rfl, { hR with v6 := fun _ => rfl }⟩
                    · skip
                      obtain ⟨z67, z68, z69, z70, z71, z72, z73, z74, z75, z76, z77, z78, rfl, hR⟩ := hI
                      have hd11 : dn 11 = false := Bool.eq_false_iff.2 fun e => by have := hup 14 11 e 7 (of_decide_eq_true (by kernel_rfl)); rw [hnd] at this; cases this
                      obtain rfl := hR.w hd11
                      obtain rfl := hR.v6 (hd 6 (of_decide_eq_true (by kernel_rfl)))
                      refine wpOp_step rfl (fun K hK0 => ?_)
                      have hK := hid hK0
                      clear hK0
                      rw [if_pos (by rfl)]
                      go_simp
                      exact hK.out _ _ ⟨_, _, _, _, _, _, _, _, _, _, _, _, rfl, { hR with v7 := fun _ => rfl }⟩
                    · skip
                      obtain ⟨z67, z68, z69, z70, z71, z72, z73, z74, z75, z76, z77, z78, rfl, hR⟩ := hI
                      have hd11 : dn 11 = false := Bool.eq_false_iff.2 fun e => by have := hup 14 11 e 8 (of_decide_eq_true (by kernel_rfl)); rw [hnd] at this; cases this
                      obtain rfl := hR.w hd11
                      refine wpOp_step rfl (fun K hK0 => ?_)
                      have hK := hid hK0
                      clear hK0
                      rw [if_pos (by rfl)]
                      go_simp
                      exact hK.out _ _ ⟨_, _, _, _, _, _, _, _, _, _, _, _, rfl, { hR with v8 := fun _ => rfl }⟩
                    · skip
                      obtain ⟨z67, z68, z69, z70, z71, z72, z73, z74, z75, z76, z77, z78, rfl, hR⟩ := hI
                      have hd11 : dn 11 = false := Bool.eq_false_iff.2 fun e => by have := hup 14 11 e 9 (of_decide_eq_true (by kernel_rfl)); rw [hnd] at this; cases this
                      obtain rfl := hR.w hd11
                      obtain rfl := hR.v7 (hd 7 (of_decide_eq_true (by kernel_rfl)))
                      obtain rfl := hR.v8 (hd 8 (of_decide_eq_true (by kernel_rfl)))
                      refine wpOp_step rfl (fun K hK0 => ?_)
                      have hK := hid hK0
                      clear hK0
                      rw [if_pos (by rfl)]
                      go_simp
                      exact hK.out _ _ ⟨_, _, _, _, _, _, _, _, _, _, _, _, rfl, { hR with v9 := fun _ => rfl }⟩
                    · skip
                      obtain ⟨z67, z68, z69, z70, z71, z72, z73, z74, z75, z76, z77, z78, rfl, hR⟩ := hI
                      have hd11 : dn 11 = false := Bool.eq_false_iff.2 fun e => by have := hup 14 11 e 10 (of_decide_eq_true (by kernel_rfl)); rw [hnd] at this; cases this
                      obtain rfl := hR.w hd11
                      obtain rfl := hR.v9 (hd 9 (of_decide_eq_true (by kernel_rfl)))
                      refine wpOp_step rfl (fun K hK0 => ?_)
                      have hK := hid hK0
                      clear hK0
                      rw [if_pos (by rfl)]
                      go_simp
                      exact hK.out _ _ ⟨_, _, _, _, _, _, _, _, _, _, _, _, rfl, { hR with v10 := fun _ => rfl }⟩
                    · skip
                      obtain ⟨z67, z68, z69, z70, z71, z72, z73, z74, z75, z76, z77, z78, rfl, hR⟩ := hI
                      obtain rfl := hR.w hnd
                      have hd12 : ¬ dn 12 = true := fun e => by have := hup 14 12 e 11 (of_decide_eq_true (by kernel_rfl)); rw [hnd] at this; cases this
                      obtain rfl := hR.v0 (hd 0 (of_decide_eq_true (by kernel_rfl)))
                      obtain rfl := hR.v1 (hd 1 (of_decide_eq_true (by kernel_rfl)))
                      obtain rfl := hR.v10 (hd 10 (of_decide_eq_true (by kernel_rfl)))
                      refine wpOp_step rfl (fun K hK0 => ?_)
                      have hK := hid hK0
                      clear hK0
                      rw [if_pos (by rfl)]
                      go_simp
                      go_wp2_with (go_at_call 34; refine HPUT.out.mono ?_; rintro e v2 ⟨pa, ca, pb, cb, rfl, q1, q2, q3, q4, q5, q6, q7⟩)
                      have hzp := HZD.out.put q3 HLF.out HVQ.out Y pa pb ca cb q1 q2 q4 q5 q6 q7
                      exact hK.out _ _ ⟨_, _, _, _, _, _, _, _, _, _, _, _, rfl, { hR with w := (fun e => by cases e), v11 := (fun _ => ⟨pa, ca, pb, cb, rfl, fun _ => ⟨hzp.1, hzp.2.1, hzp.2.2, HBD.out.trans (q3.mono HBD.out.size)⟩⟩), v12 := fun e => absurd e hd12 }⟩
                    · skip
                      obtain ⟨z67, z68, z69, z70, z71, z72, z73, z74, z75, z76, z77, z78, rfl, hR⟩ := hI
                      obtain ⟨pa, ca, pb, cb, rfl, hP⟩ := hR.v11 (hd 11 (of_decide_eq_true (by kernel_rfl)))
                      obtain ⟨⟨k0, k1, k2⟩, ⟨f0, f1, f2⟩, hZN, hBN⟩ := hP hnd
                      refine wpOp_step rfl (fun K hK0 => ?_)
                      have hK := hid hK0
                      clear hK0
                      rw [if_pos (by rfl)]
                      go_simp
                      exact hK.out _ _ ⟨_, _, _, _, _, _, _, _, _, _, _, _, rfl, { hR with w := (fun e => by have := hd 11 (of_decide_eq_true (by kernel_rfl)); rw [this] at e; cases e), v11 := (fun _ => ⟨pa, ca, pb, cb, rfl, fun e => by cases e⟩), v12 := fun _ => ⟨_, hZN, setB (setB (setB hBN _ _ (Nat.le_refl _) _) _ _ (Nat.le_refl _) _) _ _ (Nat.le_refl _) _⟩ }⟩
                rintro e a7 w7 ⟨rfl, z67, z68, z69, z70, z71, z72, z73, z74, z75, z76, z77, z78, rfl, lb, hZN, hBN⟩
                have HZN := hid hZN
                have HBN := hid hBN
                clear hZN hBN b0 b1 b2 xs xm xb xd hjd HPUT HVQ HLF HZD HBD
                go_wp2_with fail
                go_roundw
                case rel => exact ⟨j + 1, lb, HJL.out, by go_num, by rw [HE.out]; exact HZN.out, HBN.out⟩
                case measure => have := HJL.out; simp [intOf]; omega
            · obtain rfl : j = y0.bl.length := by omega
              have hz0 : mrg y0 y1 y0.bl.length = dropY y0 y1 := rfl
              rw [hz0] at HZ
              clear hz0
              obtain ⟨z, hzz⟩ : ∃ z, dropY y0 y1 = z := ⟨_, rfl⟩
              rw [hzz] at HZ
              have hDk : Hid ((L ++ [(z, la)]).map (·.1) = outL (S1 ++ dropY y0 y1 :: S2) n (k + 1)) := by
                show (L ++ [(z, la)]).map (·.1) = _
                have hD : (S1 ++ dropY y0 y1 :: S2)[n]'(by rw [List.length_append, List.length_cons, HN.out]; omega) = z := by
                  rw [List.getElem_append_right (by have := HN.out; omega)]
                  have e : n - S1.length = 0 := by have := HN.out; omega
                  simp only [e, List.getElem_cons_zero, hzz]
                rw [List.map_append, HLL.out, HE2.out, outL_high (Nat.le_refl n) (by rw [List.length_append, List.length_cons, HN.out]; omega), hD]
                rfl
              have HO1 := hid (HO.out.on hO6 HBq.out)
              have HG1 := hid (HG.out.on HBq.out)
              have HFz := hid HZ.out.fz
              have HKz := hid HZ.out.box
              have hwo := HBq.out.size
              clear hzz HZ hI0 hS0 hI1 xm xb xd xe
              have xO : wr.cell? ⟨w3.heap.size, 0, none⟩ = some vO := box_cell HO1.out.o 0
              have y0c : wr.cell? ⟨wo.heap.size, 0, none⟩ = some (.int .i64 z.mark) := box_cell HKz.out 0
              have y1c : wr.cell? ⟨wo.heap.size, 1, none⟩ = some (.slice la.p z.bl.length la.c) := box_cell HKz.out 1
              have y2c : wr.cell? ⟨wo.heap.size, 2, none⟩ = some (.slice la.q z.dt.length la.d) := box_cell HKz.out 2
              have bX := boxB wr (.cells #[.int .i64 z.mark, .slice la.p z.bl.length la.c, .slice la.q z.dt.length la.d] 64)
              have kX := heap_last wr (.cells #[.int .i64 z.mark, .slice la.p z.bl.length la.c, .slice la.q z.dt.length la.d] 64)
              have sX : (wr.alloc (.cells #[.int .i64 z.mark, .slice la.p z.bl.length la.c, .slice la.q z.dt.length la.d] 64)).heap.size = wr.heap.size + 1 := heap_size _ _
              have hvs := HO1.out.bel.size
              have HOX := HO1.out.on hO6 bX
              have xO2 : (wr.alloc (.cells #[.int .i64 z.mark, .slice la.p z.bl.length la.c, .slice la.q z.dt.length la.d] 64)).cell? ⟨w3.heap.size, 0, none⟩ = some vO := box_cell HOX.o 0
              obtain ⟨v', w9, rn, G9, gr9, b9, nb9⟩ := (HG1.out.on bX).push (by omega) wr.heap.size 1 ⟨z.mark, z.bl, z.dt⟩ la kX (HFz.out.on bX) (by omega)
              have hO9 := hid (HOX.put (vN := v') hO6 gr9 (fun k hk => (HG1.out.row.lt k hk).1))
              have zO9 := (gr9.block w3.heap.size (by omega) (fun e => by have := (HG1.out.row.lt _ e.symm).1; omega)).trans HOX.o
              have zO : w9.cell? ⟨w3.heap.size, 0, none⟩ = some vO := box_cell zO9 0
              have fO : w9.frozen? ⟨w3.heap.size, 0, none⟩ = false := box_free zO9 0
              have hG9 := hid (G9.set w3.heap.size v' (by omega) (by omega))
              obtain ⟨a9, c9, hv9⟩ := rw_form G9.row
              obtain ⟨a8, c8, hv8⟩ := rw_form HG1.out.row
              subst hv9 hv8
              have hl9 : (L ++ [((⟨z.mark, z.bl, z.dt⟩ : Ly), (la : LA))]).length = L.length + 1 := by simp
              rw [hl9] at rn hO9 hG9
              clear bX kX sX HOX G9 gr9 b9 nb9 zO9 hl9 
              go_wp2_with (at_builtin; refine wpList_append_run rfl (.tmp 81) (.tmp 83) 29 rfl _ _ rfl rfl _ _ rn ?_)
              go_roundw
              case rel => exact ⟨k + 1, _, L ++ [(⟨z.mark, z.bl, z.dt⟩, la)], by omega, by go_num, hDk.out, hG9.out, hO9.out⟩
              case measure => simp [intOf]; omega
        · have hDk : Hid ((L ++ [((⟨mk, bl, dt⟩ : Ly), (⟨p, c, f, q, d, g⟩ : LA))]).map (·.1) = outL (S1 ++ dropY y0 y1 :: S2) n (k + 1)) := by
            show (L ++ [((⟨mk, bl, dt⟩ : Ly), (⟨p, c, f, q, d, g⟩ : LA))]).map (·.1) = _
            rw [List.map_append, HLL.out, List.map_singleton]
            show _ ++ [(⟨mk, bl, dt⟩ : Ly)] = _
            have hDl : (S1 ++ dropY y0 y1 :: S2).length = n + (r + 1) := by simp [HN.out, HR.out]
            rw [HYS.out]
            by_cases h1 : k < n
            · rw [outL_low h1 (by omega)]
              congr 2
              rw [List.getElem_append_left (by rw [HN.out]; exact h1), List.getElem_append_left (by rw [HN.out]; exact h1)]
            · obtain ⟨k', rfl⟩ : ∃ k', k = k' + 1 := ⟨k - 1, by omega⟩
              rw [outL_high (by omega) (by omega)]
              congr 2
              rw [List.getElem_append_right (by have := HN.out; omega), List.getElem_append_right (by have := HN.out; omega)]
              obtain ⟨i, hi⟩ : ∃ i, k' + 1 - S1.length = i + 1 + 1 := ⟨k' + 1 - S1.length - 2, by have := HN.out; omega⟩
              have hi2 : k' - S1.length = i + 1 := by omega
              simp only [hi, hi2, List.getElem_cons_succ]
          generalize hW1 : wr.alloc (.cells #[.int .i64 mk, .slice p bl.length c, .slice q dt.length d] 64) = W1 at *
          have xO : W1.cell? ⟨w3.heap.size, 0, none⟩ = some vO := box_cell HO1.out.o 0
          have y0c : W1.cell? ⟨wr.heap.size, 0, none⟩ = some (.int .i64 mk) := box_cell HKY.out 0
          have y1c : W1.cell? ⟨wr.heap.size, 1, none⟩ = some (.slice p bl.length c) := box_cell HKY.out 1
          have y2c : W1.cell? ⟨wr.heap.size, 2, none⟩ = some (.slice q dt.length d) := box_cell HKY.out 2
          have bX := boxB W1 (.cells #[.int .i64 mk, .slice p bl.length c, .slice q dt.length d] 64)
          have kX := heap_last W1 (.cells #[.int .i64 mk, .slice p bl.length c, .slice q dt.length d] 64)
          have sX : (W1.alloc (.cells #[.int .i64 mk, .slice p bl.length c, .slice q dt.length d] 64)).heap.size = W1.heap.size + 1 := heap_size _ _
          have hvs := HO1.out.bel.size
          have HOX := HO1.out.on hO6 bX
          have xO2 : (W1.alloc (.cells #[.int .i64 mk, .slice p bl.length c, .slice q dt.length d] 64)).cell? ⟨w3.heap.size, 0, none⟩ = some vO := box_cell HOX.o 0
          obtain ⟨v', w9, rn, G9, gr9, b9, nb9⟩ := (HG1.out.on bX).push (by omega) W1.heap.size 1 ⟨mk, bl, dt⟩ ⟨p, c, f, q, d, g⟩ kX (hf1.out.on bX) (by omega)
          have hO9 := hid (HOX.put (vN := v') hO6 gr9 (fun k hk => (HG1.out.row.lt k hk).1))
          have zO9 := (gr9.block w3.heap.size (by omega) (fun e => by have := (HG1.out.row.lt _ e.symm).1; omega)).trans HOX.o
          have zO : w9.cell? ⟨w3.heap.size, 0, none⟩ = some vO := box_cell zO9 0
          have fO : w9.frozen? ⟨w3.heap.size, 0, none⟩ = false := box_free zO9 0
          have hG9 := hid (G9.set w3.heap.size v' (by omega) (by omega))
          obtain ⟨a9, c9, hv9⟩ := rw_form G9.row
          obtain ⟨a8, c8, hv8⟩ := rw_form HG1.out.row
          subst hv9 hv8
          have hl9 : (L ++ [((⟨mk, bl, dt⟩ : Ly), (⟨p, c, f, q, d, g⟩ : LA))]).length = L.length + 1 := by simp
          rw [hl9] at rn hO9 hG9
          clear bX kX sX HOX G9 gr9 b9 nb9 zO9 hl9 
          go_wp2_with (at_builtin; refine wpList_append_run rfl (.tmp 81) (.tmp 83) 29 rfl _ _ rfl rfl _ _ rn ?_)
          go_roundw
          case rel => exact ⟨k + 1, _, L ++ [(⟨mk, bl, dt⟩, ⟨p, c, f, q, d, g⟩)], by omega, by go_num, hDk.out, hG9.out, hO9.out⟩
          case measure => simp [intOf]; omega
    · obtain rfl : k = n + (r + 2) := by omega
      obtain ⟨qa, qc, rfl, hys⟩ := HG.out.ys
      have xO : wr.cell? ⟨w3.heap.size, 0, none⟩ = some (.slice qa L.length qc) := box_cell HO.out.o 0
      have hzz := (HO.out.bel.block (w.heap.size + 1) (by omega)).trans HB6.out.z
      have z0 : wr.cell? ⟨w.heap.size + 1, 0, none⟩ = some (.slice none 0 0) := box_cell hzz 0
      have f0 : wr.frozen? ⟨w.heap.size + 1, 0, none⟩ = false := box_free hzz 0
      have e9 : (wr.setCell ⟨w.heap.size + 1, 0, none⟩ (.slice qa L.length qc)).cell? ⟨w.heap.size + 1, 0, none⟩ = some (.slice qa L.length qc) := World.cell?_setCell_same _ _ _ z0
      have hLL : L.map (·.1) = drpK (S1 ++ y0 :: y1 :: S2) m := by
        rw [HLL.out, drpK_yes HD.out HK1.out.symm, outL_all (D := S1 ++ dropY y0 y1 :: S2) (n := n) (k := n + (r + 2)) (by omega) (by rw [List.length_append, List.length_cons, HN.out, HR.out]; omega)]
      have HE : Hid (SdOut (S1 ++ y0 :: y1 :: S2) m w (.returned (.tuple #[.agg #[.slice qa L.length qc], .bool true])) (wr.setCell ⟨w.heap.size + 1, 0, none⟩ (.slice qa L.length qc))) := by
        obtain ⟨qa', qc', e', hys'⟩ := (HG.out.set (w.heap.size + 1) (.slice qa L.length qc) (by omega) (by omega)).ys
        injection e' with e1' e2' e3'
        subst e1' e3'
        rw [hLL] at hys'
        have hl : L.length = (drpK (S1 ++ y0 :: y1 :: S2) m).length := by rw [← hLL, List.length_map]
        refine ⟨qa, qc, by rw [hl, decide_eq_true HD.out], hys', setB ((HRT.out _ _ HO.out).2) _ _ (by omega) _⟩
      clear hys hzz hLL
      go_wp2_with fail
      generalize wr.setCell ⟨w.heap.size + 1, 0, none⟩ (.slice qa L.length qc) = XX at *
      exact bodyPost_ret (v := .tuple #[.agg #[.slice qa L.length qc], .bool true]) (by simp [results, Try.results14, go_sem, e9]) rfl HE.out
end Go.Proofs.Ytmbkdollakbigaa
