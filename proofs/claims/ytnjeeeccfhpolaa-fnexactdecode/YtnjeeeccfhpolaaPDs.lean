/- The model's Decode. -/
import Derived.Test.YtnjeeeccfhpolaaPDc
namespace Go.Proofs.Ytnjeeeccfhpolaa
set_option maxRecDepth 100000
open Go Go.ChangeShapes Go.WideShapes Go.ChangeAt Go.RowKit
theorem drop_rev (T : List Pk) (b : Nat) (h : b < T.length) : ((T.drop b).map Pk.tx).reverse = ((T.drop (b + 1)).map Pk.tx).reverse ++ [T[b].tx] := by
  rw [List.drop_eq_getElem_cons h, List.map_cons, List.reverse_cons]
set_option maxHeartbeats 3000000 in
theorem sDecode_any (n : Int) (a : Option Addr) (cap : Nat) (p : List Pk) (w : World) (hn : p.length ≤ 1048576) (hs : ∀ r ∈ p, r.tx.size ≤ 9223372036854775807) (hZ : Ps w.heap.size a p w) :
    Calls Try.prog 30 #[.int .i64 n, .slice a p.length cap] w fun e w' => SOut (decV n p) (decOk n p) w e w' := by
  have HM := hid (sgoodPk_any n a cap p w hn hs hZ)
  cases hm : goodPk n p
  · have hk : decOk n p = false := by unfold decOk; rw [hm]; rfl
    have hv : decV n p = [] := by unfold decV; rw [hk]; rfl
    rw [hv, hk]
    rw [hm] at HM
    clear hZ hs hk hv hm
    go_enter Try.func30, Try.ntmps30
    go_wp2_with fail
    refine HM.out.mono ?_
    rintro e w2 ⟨rfl, g2⟩
    have HG := hid g2
    clear g2 HM
    go_wp2_with fail
    go_ret2
    exact SOut.no HG.out
  · obtain ⟨k, z, rfl, h1, h10, hp, hz, hok⟩ := goodPk_yes hm
    obtain ⟨f1, f2, f3, f4, f5⟩ := redP_facts (k := k) hp hok
    have HR : Hid (∀ v, Below w.heap.size w v → Calls Try.prog 51 #[.int .i64 k, .slice a p.length cap] v fun e w' => ∃ tv lv, e = .returned (.tuple #[tv, lv]) ∧ GL KP v.heap.size tv (redP k p).1 w' ∧ GL KP v.heap.size lv (redP k p).2 w' ∧ Apart tv lv ∧ Below v.heap.size v w') := fun v g => l10Reduce_any z k a cap p v h10 (by omega) (by omega) hok ((hZ.below g).mono g.size)
    have HV : Hid (decOk (k : Int) p = (decide ((k : Int) ≤ ((redP k p).1.length : Int)) && !(redP k p).2.any moreP)) := by show decOk _ _ = _; unfold decOk; rw [hm, Int.toNat_natCast]; rfl
    have HW : Hid (decV (k : Int) p = cond (decOk (k : Int) p) ((redP k p).1.map Pk.tx).reverse []) := by show decV _ _ = _; unfold decV; rw [Int.toNat_natCast]
    rw [hm] at HM
    generalize (redP k p).1 = T at *
    generalize (redP k p).2 = L at *
    have HLX : Hid (∀ x ∈ L, x.tx.size ≤ 1048576) := fun x hx => by
      have := (f5 x hx).2
      omega
    clear hm hok hs hZ f4 f5
    by_cases hlt : T.length < k
    · have hd : decide ((T.length : Int) < (k : Int)) = true := decide_eq_true (by omega)
      have hdn : decide (T.length < k) = true := decide_eq_true hlt
      have hk : decOk (k : Int) p = false := by rw [HV.out, decide_eq_false (by omega)]; rfl
      rw [HW.out, hk]
      clear hk HV HW
      go_enter Try.func30, Try.ntmps30
      go_wp2_with fail
      refine HM.out.mono ?_
      rintro e w2 ⟨rfl, g2⟩
      have HG2 := hid g2
      clear g2 HM
      go_wp2_with fail
      refine (HR.out _ HG2.out).mono ?_
      rintro e w3 ⟨tv, lv, rfl, o1, o2, -, g3⟩
      have HG3 : Hid (Below w.heap.size w w3) := HG2.out.trans (g3.mono HG2.out.size)
      obtain ⟨ta, tc, rfl, oT, -⟩ := o1.pks
      obtain ⟨la, lc, rfl, oL, -⟩ := o2.pks
      clear o1 o2 g3 HR oT oL HG2
      go_wp2_with fail
      go_ret2
      exact SOut.no HG3.out
    · have hd : decide ((T.length : Int) < (k : Int)) = false := decide_eq_false (by omega)
      have hdn : decide (T.length < k) = false := decide_eq_false hlt
      have hk : decOk (k : Int) p = !L.any moreP := by rw [HV.out, decide_eq_true (by omega)]; rfl
      rw [HW.out, hk]
      have HQ1 : Hid (∀ j (hj : j < L.length), moreP L[j] = true → L.any moreP = true) := fun j hj h => List.any_eq_true.2 ⟨_, List.getElem_mem hj, h⟩
      have HQ2 : Hid ((∀ j (hj : j < L.length), moreP L[j] = false) → L.any moreP = false) := fun h => List.any_eq_false.2 (fun x hx => by
        obtain ⟨i, hi, rfl⟩ := List.getElem_of_mem hx
        simp [h i hi])
      obtain rfl : k = T.length := by omega
      have HPO : Hid (∀ q, L.any moreP = q → ∀ e w', SOut (cond (!q) (T.map Pk.tx).reverse []) (!q) w e w' → SOut (cond (!L.any moreP) (T.map Pk.tx).reverse []) (!L.any moreP) w e w') := fun q h e w' g => by rw [h]; exact g
      generalize hPO : (fun e w' => SOut (cond (!L.any moreP) (T.map Pk.tx).reverse []) (!L.any moreP) w e w') = PO
      have HPO2 : Hid (∀ q, L.any moreP = q → ∀ e w', SOut (cond (!q) (T.map Pk.tx).reverse []) (!q) w e w' → PO e w' ∧ True) := fun q h e w' g => ⟨by rw [← hPO]; exact HPO.out q h e w' g, trivial⟩
      clear hk HV HW hPO HPO hlt
      refine Calls.mono (R := fun e w' => PO e w' ∧ True) ?_ (fun _ _ h => h.1)
      go_enter Try.func30, Try.ntmps30
      go_wp2_with fail
      refine HM.out.mono ?_
      rintro e w2 ⟨rfl, g2⟩
      have HG2 := hid g2
      clear g2 HM
      go_wp2_with fail
      refine (HR.out _ HG2.out).mono ?_
      rintro e w3 ⟨tv, lv, rfl, o1, o2, -, g3⟩
      have HG3 : Hid (Below w.heap.size w w3) := HG2.out.trans (g3.mono HG2.out.size)
      obtain ⟨ta, tc, rfl, oT, -⟩ := o1.pks
      obtain ⟨la, lc, rfl, oL, -⟩ := o2.pks
      have HOT := hid oT
      have HOL := hid oL
      have s3 := HG3.out.size
      clear o1 o2 g3 HR oT oL HG2
      go_wp2_with fail
      go_loopw [28] (fun i wr => ∃ j : Nat, j ≤ L.length ∧ i = .int .i64 j ∧ (∀ q (hq : q < L.length), q < j → moreP L[q] = false) ∧ Below w3.heap.size w3 wr) (fun i _ => L.length - (ivl i).toNat)
      case atStart => exact ⟨0, Nat.zero_le _, rfl, (fun _ _ h => absurd h (Nat.not_lt_zero _)), Below.refl _ _⟩
      case round =>
        obtain ⟨j, hj, rfl, hall, hbel⟩ := hrel
        have HALL := hid hall
        have HBEL := hid hbel
        clear hall
        by_cases hlj : j < L.length
        · obtain ⟨R, hR1, hR2, rfl, c0, c1, -, -⟩ := HOL.out.cells j hlj
          have x0 := (hbel.cell (p := ⟨R, j * 2, none⟩) hR2).trans c0
          have x1 := (hbel.cell (p := ⟨R, j * 2 + 1, none⟩) hR2).trans c1
          have hsz := HLX.out L[j] (List.getElem_mem hlj)
          have HY := hid (HQ1.out j hlj)
          have HN : Hid (moreP L[j] = false → ∀ q (hq : q < L.length), q < j + 1 → moreP L[q] = false) := fun h q hq hqj => by
            by_cases e : q = j
            · subst e; exact h
            · exact HALL.out q hq (by omega)
          have hmo : moreP L[j] = !(L[j].tx.toList == (zeroT L[j].tx.size).toList) := rfl
          clear c0 c1 hbel HALL
          generalize hmq : moreP L[j] = mo at *
          clear hmq
          generalize L[j].ms = xm at *
          generalize L[j].tx = xt at *
          have gA := boxB wr (.cells #[.int .i64 xm, .string xt] 28)
          have kA := heap_last wr (.cells #[.int .i64 xm, .string xt] 28)
          generalize hW : wr.alloc (.cells #[.int .i64 xm, .string xt] 28) = w5 at *
          have y1 : w5.drew.cell? ⟨wr.heap.size, 1, none⟩ = some (.string xt) := box_cell kA 1
          have hmk := make_bytes xt.size hsz
          have hr0 : ByteRow w5.heap.size (List.replicate xt.size 0) (w5.alloc (.cells (madeCells (Value.int .u8 0).cells xt.size) 5)).drew := ByteRow.made w5.drew xt.size
          have hback := hr0.back (P := Try.prog) (n := xt.size) (cap := xt.size) (by simp) 73 9 Try.underlying73 Try.underlying5 Try.underlying9
          rw [show (⟨(List.replicate xt.size (0 : UInt8)).toArray⟩ : ByteArray) = zeroT xt.size from rfl] at hback
          have gB := boxB w5.drew (.cells (madeCells (Value.int .u8 0).cells xt.size) 5)
          have y2 : (w5.alloc (.cells (madeCells (Value.int .u8 0).cells xt.size) 5)).drew.cell? ⟨wr.heap.size, 1, none⟩ = some (.string xt) := (gB.cell (p := ⟨wr.heap.size, 1, none⟩) (kbox kA)).trans y1
          generalize zeroT xt.size = zt at *
          have HB5 : Hid (Below w3.heap.size w3 (w5.alloc (.cells (madeCells (Value.int .u8 0).cells xt.size) 5)).drew) := by
            have g1 : Below w3.heap.size w3 w5 := HBEL.out.trans (gA.mono HBEL.out.size)
            have g2 : Below w3.heap.size w3 w5.drew := g1.drew
            exact g2.trans (gB.mono g2.size)
          clear hr0 gA kA gB hsz
          generalize madeCells (Value.int .u8 0).cells xt.size = M at *
          go_wp2_with fail
          go_region
          all_goals
            rw [← hmo]
            clear hmo
            cases mo
            · go_wp2_with fail
              go_roundw
              case rel => exact ⟨j + 1, by omega, by go_num, HN.out (by first | rfl | trivial), HB5.out⟩
              case measure => simp [ivl]; omega
            · go_wp2_with fail
              exact (HPO2.out true (HY.out (by first | rfl | trivial)) _ _ (SOut.no (HG3.out.trans (HB5.out.mono s3)))).1
        · have HA2 : Hid (L.any moreP = false) := HQ2.out (fun q hq => HALL.out q hq (by omega))
          have HB4 := hid hbel
          clear hbel HALL HBEL
          go_wp2_with fail
          go_loopw [10, 11] (fun o i wr2 => ∃ (b : Nat) (o1 : Value), b ≤ T.length ∧ o = o1 ∧ i = .int .i64 ((b : Int) - 1) ∧ GL KS wr.heap.size o1 ((T.drop b).map Pk.tx).reverse wr2 ∧ Below wr.heap.size wr wr2) (fun _ i _ => (ivl i + 1).toNat)
          case atStart => exact ⟨T.length, _, Nat.le_refl _, rfl, rfl, by rw [List.drop_length]; exact GL.nil _ _ _, Below.refl _ _⟩
          case round =>
            rename World => wo
            obtain ⟨b, o1, hb, ho, rfl, hg, hbl⟩ := hrel
            obtain rfl := ho.symm
            have HG := hid hg
            have HBL := hid hbl
            cases b with
            | zero =>
              clear hg hbl
              go_wp2_with fail
              have h4 := HG3.out.trans (HB4.out.mono s3)
              exact (HPO2.out false HA2.out _ _ (SOut.yes (HG.out.mono h4.size) (h4.trans (HBL.out.mono h4.size)))).1
            | succ c =>
              have hc : c < T.length := by omega
              obtain ⟨R, hR1, hR2, rfl, c0, c1, -, -⟩ := HOT.out.cells c hc
              have hbb := HB4.out.trans (hbl.mono HB4.out.size)
              have x1 := (hbb.cell (p := ⟨R, c * 2 + 1, none⟩) hR2).trans c1
              have e1 : (((c + 1 : Nat) : Int) - 1) = (c : Int) := by omega
              have HDR := hid (drop_rev T c hc)
              have HLN : Hid (((T.drop (c + 1)).map Pk.tx).reverse.length + 1 ≤ 4194304) := by
                show _ ≤ _
                rw [List.length_reverse, List.length_map, List.length_drop]
                omega
              rw [e1]
              generalize T[c].tx = y at *
              clear hg hbl c0 c1 hbb e1
              obtain ⟨v', w', r1, o2, g3, -⟩ := HG.out.pushS HBL.out.size y HLN.out
              rw [← HDR.out] at o2
              have HO := hid o2
              have HB' : Hid (Below wr.heap.size wr w') := HBL.out.trans g3
              clear o2 g3
              go_wp2_with (at_builtin; refine wpList_append_run rfl (.tmp 47) (.tmp 53) 22 rfl _ _ rfl rfl _ _ r1 ?_)
              go_roundw
              case rel => exact ⟨c, _, by omega, rfl, rfl, HO.out, HB'.out⟩
              case measure => simp [ivl]
end Go.Proofs.Ytnjeeeccfhpolaa
