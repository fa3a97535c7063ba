/- Ranks and reduced masks, of both sides. -/
import Derived.Test.YtnjeeeccfhpolaaPSr
import Derived.Test.YtnjeeeccfhpolaaPIr
import Derived.Test.YtnjeeeccfhpolaaPLs
namespace Go.Proofs.Ytnjeeeccfhpolaa
set_option maxRecDepth 100000
open Go Go.ChangeShapes Go.WideShapes Go.ChangeAt Go.RowKit
theorem maskOk_yes {n : Int} {l : List Int} (h : maskOk n l = true) : ∃ k : Nat, n = (k : Int) ∧ k ≤ 10 ∧ l.length ≤ 20 ∧ ∀ x ∈ l, okI x := by
  unfold maskOk at h
  rw [Bool.and_eq_true, Bool.and_eq_true] at h
  obtain ⟨k, rfl, h1, h2⟩ := many_nat h.1
  refine ⟨k, rfl, h2, of_decide_eq_true h.2.1, fun x hx => ?_⟩
  obtain ⟨i, hi, rfl⟩ := List.getElem_of_mem hx
  have := allIn_at l _ _ h.2.2 i hi
  rw [Int.toNat_natCast] at this
  have hp := (pow_le k h2).2
  exact ⟨by omega, by omega⟩
theorem okI.bare {m : Int} (h : okI m) : okP 0 (bareP m) := ⟨h, rfl⟩
set_option maxHeartbeats 1000000 in
theorem l10Of_any (a : Option Addr) (cap : Nat) (l : List Int) (w : World) (hn : l.length ≤ 1000) (hZ : Is w.heap.size a l w) :
    Calls Try.prog 52 #[.slice a l.length cap] w fun e w' => ∃ v, e = .returned v ∧ GL KP w.heap.size v (l.map bareP) w' ∧ Below w.heap.size w w' := by
  have HZ := hid hZ
  clear hZ
  go_enter Try.func52, Try.ntmps52
  go_wp2_with fail
  go_loopw [3, 8] (fun o i wr => ∃ (k : Nat) (o1 : Value), k ≤ l.length ∧ i = .int .i64 k ∧ o = o1 ∧ GL KP w.heap.size o1 ((l.take k).map bareP) wr ∧ Below w.heap.size w wr) (fun _ i _ => l.length - (ivl i).toNat)
  case atStart => exact ⟨0, _, Nat.zero_le _, rfl, rfl, GL.nil _ _ _, Below.refl _ _⟩
  case round =>
    obtain ⟨k, o1, hk, rfl, ho, hown, hbel⟩ := hrel
    obtain rfl := ho.symm
    have HBEL := hid hbel
    by_cases hlt : k < l.length
    · obtain ⟨b, off, rfl, hb, hc⟩ := HZ.out.cell (by omega)
      have x0 := (hbel.cell (p := ⟨b, off + k, none⟩) hb).trans (hc k hlt)
      have e : (l.take (k + 1)).map bareP = (l.take k).map bareP ++ [bareP l[k]] := by
        rw [List.take_succ_eq_append_getElem hlt, List.map_append]
        rfl
      obtain ⟨v', w', r1', o2, g3, -⟩ := hown.pushP hbel.size (bareP l[k]) (by rw [List.length_map, List.length_take]; omega)
      rw [← e] at o2
      have r1 : ∀ ty, (Builtin.append_ #[36, 36] ty #[o1, .slice (some ⟨wr.heap.size, 0, none⟩) 1 1]).run Try.prog (wr.alloc (.cells #[.int .i64 l[k], .string ⟨#[]⟩] 28)) = .ok v' w' := r1'
      have HO := hid o2
      have HB' := hid (hbel.trans g3)
      clear hc hbel hown e r1' o2 g3
      generalize l[k] = m at *
      go_wp2_with (at_builtin; refine wpList_append_run rfl (.tmp 12) (.tmp 15) 36 rfl _ _ rfl rfl _ _ r1 ?_)
      go_roundw
      case rel => exact ⟨k + 1, _, by omega, by go_num, rfl, HO.out, HB'.out⟩
      case measure => simp [ivl]; omega
    · obtain rfl : k = l.length := by omega
      rw [List.take_length] at hown
      have HO := hid hown
      clear hown hbel
      go_wp2_with fail
      go_ret
      exact ⟨_, rfl, HO.out, HBEL.out⟩
set_option maxHeartbeats 1000000 in
theorem srank_any (n : Nat) (a : Option Addr) (cap : Nat) (l : List Int) (w : World) (h2 : n ≤ 10) (hn : l.length ≤ 1000) (hok : ∀ x ∈ l, okI x) (hZ : Is w.heap.size a l w) :
    Calls Try.prog 49 #[.int .i64 n, .slice a l.length cap] w fun e w' => e = .returned (.int .i64 ((redI n l).1.length : Int)) ∧ Below w.heap.size w w' := by
  have HC := hid (l10Of_any a cap l w hn hZ)
  have HL : Hid (∀ (b : Option Addr) (c : Nat) (v : World), Ps v.heap.size b (l.map bareP) v → Calls Try.prog 51 #[.int .i64 n, .slice b (l.map bareP).length c] v fun e w' => ∃ tv lv, e = .returned (.tuple #[tv, lv]) ∧ GL KP v.heap.size tv (redP n (l.map bareP)).1 w' ∧ GL KP v.heap.size lv (redP n (l.map bareP)).2 w' ∧ Apart tv lv ∧ Below v.heap.size v w') := fun b c v h => l10Reduce_any 0 n b c (l.map bareP) v h2 (by omega) (by rw [List.length_map]; exact hn) (fun x hx => by
    obtain ⟨y, hy, rfl⟩ := List.mem_map.1 hx
    exact (hok y hy).bare) h
  have HE : Hid ((redP n (l.map bareP)).1.length = (redI n l).1.length) := by show _ = _; rw [redP_bare, List.length_map]
  rw [← HE.out]
  clear hZ hok HE
  generalize redP n (l.map bareP) = rp at *
  generalize l.map bareP = P at *
  go_enter Try.func49, Try.ntmps49
  go_wp2_with fail
  refine HC.out.mono ?_
  rintro e w1 ⟨v1, rfl, o1, g1⟩
  obtain ⟨b, c, rfl, ob, -⟩ := o1.pks
  have HR := hid (HL.out b c w1 ob.ps)
  have HG := hid g1
  clear o1 ob g1 HC HL
  go_wp2_with fail
  refine HR.out.mono ?_
  rintro e w2 ⟨tv, lv, rfl, ot, -, -, g2⟩
  obtain ⟨b2, c2, rfl, -, -⟩ := ot.pks
  have HG2 := hid (HG.out.trans (g2.mono HG.out.size))
  clear ot g2 HR
  go_wp2_with fail
  go_ret
  exact ⟨rfl, HG2.out⟩
set_option maxHeartbeats 1000000 in
theorem irank_any (n : Nat) (a : Option Addr) (cap : Nat) (l : List Int) (w : World) (h2 : n ≤ 10) (hn : l.length ≤ 1000) (hok : ∀ x ∈ l, okI x) (hZ : Is w.heap.size a l w) :
    Calls Try.prog 50 #[.int .i64 n, .slice a l.length cap] w fun e w' => e = .returned (.int .i64 ((redI n l).1.length : Int)) ∧ Below w.heap.size w w' := by
  have HR := hid (redI_any n a cap l w h2 hn hok hZ)
  clear hZ hok
  generalize redI n l = rp at *
  go_enter Try.func50, Try.ntmps50
  go_wp2_with fail
  refine HR.out.mono ?_
  rintro e w2 ⟨tv, lv, rfl, ot, -, -, g2⟩
  obtain ⟨b2, c2, rfl, -, -⟩ := ot.ints
  have HG2 := hid g2
  clear ot g2 HR
  go_wp2_with fail
  go_ret
  exact ⟨rfl, HG2.out⟩
def rankV (n : Int) (l : List Int) : Int := cond (maskOk n l) ((redI n.toNat l).1.length : Int) 0
def redV (n : Int) (l : List Int) : List Int := cond (maskOk n l) (redI n.toNat l).1 []
set_option maxHeartbeats 1000000 in
theorem sRankOf_any (n : Int) (a : Option Addr) (cap : Nat) (l : List Int) (w : World) (hn : l.length ≤ 1048576) (hZ : Is w.heap.size a l w) :
    Calls Try.prog 22 #[.int .i64 n, .slice a l.length cap] w fun e w' => e = .returned (.tuple #[.int .i64 (rankV n l), .bool (maskOk n l)]) ∧ Below w.heap.size w w' := by
  have HM := hid (l10Masks_any n a cap l w hn hZ)
  cases hm : maskOk n l
  · have HV : Hid (rankV n l = 0) := by show rankV n l = 0; unfold rankV; rw [hm]; rfl
    rw [HV.out]
    have HO := hid hm
    clear hm hZ
    go_enter Try.func22, Try.ntmps22
    go_wp2_with fail
    refine HM.out.mono ?_
    rintro e w2 ⟨rfl, hw2⟩
    rw [hw2, HO.out]
    clear hw2
    go_wp2_with fail
    go_ret2
    exact ⟨rfl, Below.refl _ _⟩
  · obtain ⟨k, rfl, hk, hl, hok⟩ := maskOk_yes hm
    have HV : Hid (rankV (k : Int) l = ((redI k l).1.length : Int)) := by show rankV (k : Int) l = _; unfold rankV; rw [hm, Int.toNat_natCast]; rfl
    rw [HV.out]
    have HR := hid (srank_any k a cap l w hk (by omega) hok hZ)
    have HO := hid hm
    clear hm hZ hok
    generalize (redI k l).1.length = r at *
    go_enter Try.func22, Try.ntmps22
    go_wp2_with fail
    refine HM.out.mono ?_
    rintro e w2 ⟨rfl, hw2⟩
    rw [hw2, HO.out]
    clear hw2
    go_wp2_with fail
    refine HR.out.mono ?_
    rintro e w3 ⟨rfl, g3⟩
    have HG := hid g3
    clear g3
    go_wp2_with fail
    go_ret2
    exact ⟨rfl, HG.out⟩
set_option maxHeartbeats 1000000 in
theorem iRankOf_any (n : Int) (a : Option Addr) (cap : Nat) (l : List Int) (w : World) (hn : l.length ≤ 1048576) (hZ : Is w.heap.size a l w) :
    Calls Try.prog 24 #[.int .i64 n, .slice a l.length cap] w fun e w' => e = .returned (.tuple #[.int .i64 (rankV n l), .bool (maskOk n l)]) ∧ Below w.heap.size w w' := by
  have HM := hid (goodMasks_any n a cap l w hn hZ)
  cases hm : maskOk n l
  · have HV : Hid (rankV n l = 0) := by show rankV n l = 0; unfold rankV; rw [hm]; rfl
    rw [HV.out]
    have HO := hid hm
    clear hm hZ
    go_enter Try.func24, Try.ntmps24
    go_wp2_with fail
    refine HM.out.mono ?_
    rintro e w2 ⟨rfl, hw2⟩
    rw [hw2, HO.out]
    clear hw2
    go_wp2_with fail
    go_ret2
    exact ⟨rfl, Below.refl _ _⟩
  · obtain ⟨k, rfl, hk, hl, hok⟩ := maskOk_yes hm
    have HV : Hid (rankV (k : Int) l = ((redI k l).1.length : Int)) := by show rankV (k : Int) l = _; unfold rankV; rw [hm, Int.toNat_natCast]; rfl
    rw [HV.out]
    have HR := hid (irank_any k a cap l w hk (by omega) hok hZ)
    have HO := hid hm
    clear hm hZ hok
    generalize (redI k l).1.length = r at *
    go_enter Try.func24, Try.ntmps24
    go_wp2_with fail
    refine HM.out.mono ?_
    rintro e w2 ⟨rfl, hw2⟩
    rw [hw2, HO.out]
    clear hw2
    go_wp2_with fail
    refine HR.out.mono ?_
    rintro e w3 ⟨rfl, g3⟩
    have HG := hid g3
    clear g3
    go_wp2_with fail
    go_ret2
    exact ⟨rfl, HG.out⟩
theorem redI_len (n : Nat) (l : List Int) : (redI n l).1.length ≤ l.length := by
  have := redG_len hasI unI n ([], l)
  unfold redI
  simp at this
  omega
set_option maxHeartbeats 1000000 in
theorem iReduceMasks_any (n : Int) (a : Option Addr) (cap : Nat) (l : List Int) (w : World) (hn : l.length ≤ 1048576) (hZ : Is w.heap.size a l w) :
    Calls Try.prog 27 #[.int .i64 n, .slice a l.length cap] w fun e w' => LOut (redV n l) (maskOk n l) w e w' := by
  have HM := hid (goodMasks_any n a cap l w hn hZ)
  cases hm : maskOk n l
  · have HV : Hid (redV n l = []) := by show redV n l = []; unfold redV; rw [hm]; rfl
    rw [HV.out]
    have HO := hid hm
    clear hm hZ
    go_enter Try.func27, Try.ntmps27
    go_wp2_with fail
    refine HM.out.mono ?_
    rintro e w2 ⟨rfl, hw2⟩
    rw [hw2, HO.out]
    clear hw2
    go_wp2_with fail
    go_ret2
    exact LOut.no (Below.refl _ _)
  · obtain ⟨k, rfl, hk, hl, hok⟩ := maskOk_yes hm
    have HV : Hid (redV (k : Int) l = (redI k l).1) := by show redV (k : Int) l = _; unfold redV; rw [hm, Int.toNat_natCast]; rfl
    rw [HV.out]
    have HR := hid (redI_any k a cap l w hk (by omega) hok hZ)
    have HO := hid hm
    clear hm hZ hok
    generalize redI k l = rp at *
    go_enter Try.func27, Try.ntmps27
    go_wp2_with fail
    refine HM.out.mono ?_
    rintro e w2 ⟨rfl, hw2⟩
    rw [hw2, HO.out]
    clear hw2
    go_wp2_with fail
    refine HR.out.mono ?_
    rintro e w3 ⟨tv, lv, rfl, ot, -, -, g3⟩
    have HT := hid ot
    have HG := hid g3
    clear g3 ot
    go_wp2_with fail
    go_ret2
    exact LOut.yes (gl_al.1 HT.out) HG.out
set_option maxHeartbeats 2000000 in
theorem sReduceMasks_any (n : Int) (a : Option Addr) (cap : Nat) (l : List Int) (w : World) (hn : l.length ≤ 1048576) (hZ : Is w.heap.size a l w) :
    Calls Try.prog 26 #[.int .i64 n, .slice a l.length cap] w fun e w' => LOut (redV n l) (maskOk n l) w e w' := by
  have HM := hid (l10Masks_any n a cap l w hn hZ)
  cases hm : maskOk n l
  · have HV : Hid (redV n l = []) := by show redV n l = []; unfold redV; rw [hm]; rfl
    rw [HV.out]
    have HO := hid hm
    clear hm hZ
    go_enter Try.func26, Try.ntmps26
    go_wp2_with fail
    refine HM.out.mono ?_
    rintro e w2 ⟨rfl, hw2⟩
    rw [hw2, HO.out]
    clear hw2
    go_wp2_with fail
    go_ret2
    exact LOut.no (Below.refl _ _)
  · obtain ⟨k, rfl, hk, hl, hok⟩ := maskOk_yes hm
    have HV : Hid (redV (k : Int) l = (redP k (l.map bareP)).1.map Pk.ms) := by
      show redV (k : Int) l = _
      unfold redV
      rw [hm, Int.toNat_natCast, redP_bare, List.map_map]
      show (redI k l).1 = _
      have : (Pk.ms ∘ bareP) = id := rfl
      rw [this, List.map_id]
    have HLR : Hid ((redP k (l.map bareP)).1.length ≤ 1000) := by
      show _ ≤ _
      rw [redP_bare, List.length_map]
      have := redI_len k l
      omega
    rw [HV.out]
    have HC := hid (l10Of_any a cap l w (by omega) hZ)
    have HL : Hid (∀ (b : Option Addr) (c : Nat) (v : World), Ps v.heap.size b (l.map bareP) v → Calls Try.prog 51 #[.int .i64 k, .slice b (l.map bareP).length c] v fun e w' => ∃ tv lv, e = .returned (.tuple #[tv, lv]) ∧ GL KP v.heap.size tv (redP k (l.map bareP)).1 w' ∧ GL KP v.heap.size lv (redP k (l.map bareP)).2 w' ∧ Apart tv lv ∧ Below v.heap.size v w') := fun b c v h => l10Reduce_any 0 k b c (l.map bareP) v hk (by omega) (by rw [List.length_map]; omega) (fun x hx => by
      obtain ⟨y, hy, rfl⟩ := List.mem_map.1 hx
      exact (hok y hy).bare) h
    have HO := hid hm
    clear hm hZ hok
    generalize (redP k (l.map bareP)).1 = T at *
    generalize (redP k (l.map bareP)).2 = L2 at *
    generalize l.map bareP = P at *
    go_enter Try.func26, Try.ntmps26
    go_wp2_with fail
    refine HM.out.mono ?_
    rintro e w2 ⟨rfl, hw2⟩
    rw [hw2, HO.out]
    clear hw2
    go_wp2_with fail
    refine HC.out.mono ?_
    rintro e w1 ⟨v1, rfl, o1, g1⟩
    obtain ⟨b, c, rfl, ob, -⟩ := o1.pks
    have HR := hid (HL.out b c w1 ob.ps)
    have HG := hid g1
    clear o1 ob g1 HC HL
    go_wp2_with fail
    refine HR.out.mono ?_
    rintro e w2 ⟨tv, lv, rfl, ot, -, -, g2⟩
    obtain ⟨b2, c2, rfl, ob, -⟩ := ot.pks
    have HOB := hid ob
    have HG2 := hid (HG.out.trans (g2.mono HG.out.size))
    have hRl := HLR.out
    clear ot g2 HR ob
    go_wp2_with fail
    go_loopw [8, 24] (fun o i wr => ∃ (k : Nat) (o1 : Value), k ≤ T.length ∧ i = .int .i64 k ∧ o = o1 ∧ GL KI w2.heap.size o1 ((T.take k).map Pk.ms) wr ∧ Below w2.heap.size w2 wr) (fun _ i _ => T.length - (ivl i).toNat)
    case atStart => exact ⟨0, _, Nat.zero_le _, rfl, rfl, GL.nil _ _ _, Below.refl _ _⟩
    case round =>
      obtain ⟨j, o1, hj, rfl, ho, hown, hbel⟩ := hrel
      obtain rfl := ho.symm
      have HBEL := hid hbel
      by_cases hlt : j < T.length
      · obtain ⟨R, hR1, hR2, rfl, c0, c1, -, -⟩ := HOB.out.cells j hlt
        have y0 := (hbel.cell (p := ⟨R, j * 2, none⟩) hR2).trans c0
        have y1 := (hbel.cell (p := ⟨R, j * 2 + 1, none⟩) hR2).trans c1
        have e : (T.take (j + 1)).map Pk.ms = (T.take j).map Pk.ms ++ [T[j].ms] := by
          rw [List.take_succ_eq_append_getElem hlt, List.map_append]
          rfl
        have gA := boxB wr (.cells #[.int .i64 T[j].ms, .string T[j].tx] 28)
        have kA := heap_last wr (.cells #[.int .i64 T[j].ms, .string T[j].tx] 28)
        generalize hW : wr.alloc (.cells #[.int .i64 T[j].ms, .string T[j].tx] 28) = W at *
        have z0 : W.cell? ⟨wr.heap.size, 0, none⟩ = some (.int .i64 T[j].ms) := box_cell kA 0
        obtain ⟨v', w', r1, o2, g3, -⟩ := (hown.below gA).pushI (Nat.le_trans hbel.size gA.size) T[j].ms (by rw [List.length_map, List.length_take]; omega)
        rw [← e] at o2
        have HO2 := hid o2
        have HB' : Hid (Below w2.heap.size w2 w') := (hbel.trans (gA.mono hbel.size)).trans g3
        clear c0 c1 kA gA o2 g3 e hown hbel
        generalize T[j].ms = zm at *
        generalize T[j].tx = zt at *
        go_wp2_with (at_builtin; refine wpList_append_run rfl (.tmp 28) (.tmp 31) 40 rfl _ _ rfl rfl _ _ r1 ?_)
        go_roundw
        case rel => exact ⟨j + 1, _, by omega, by go_num, rfl, HO2.out, HB'.out⟩
        case measure => simp [ivl]; omega
      · obtain rfl : j = T.length := by omega
        rw [List.take_length] at hown
        have HO2 := hid hown
        clear hown hbel
        go_wp2_with fail
        go_ret2
        exact LOut.yes (gl_al.1 (HO2.out.mono HG2.out.size)) (HG2.out.trans (HBEL.out.mono HG2.out.size))
theorem redV_len (n : Int) (l : List Int) (h : l.length ≤ 1048576) : (redV n l).length ≤ 1048576 := by
  unfold redV
  cases maskOk n l
  · exact Nat.zero_le _
  · exact Nat.le_trans (redI_len _ _) h
end Go.Proofs.Ytnjeeeccfhpolaa
